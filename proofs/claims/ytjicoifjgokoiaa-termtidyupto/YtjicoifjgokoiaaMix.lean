/-
  A region that draws its order: what only reads may be taken first, the rest goes in the order in which it must. No program is named here.
-/
import Derived.OrdersHeld
import Derived.StillTail
import Derived.KernelRfl
namespace Go.Proofs.Ytjicoifjgokoiaa
section
variable {P : Program} {ops : Array Oper} {Q : Exit → Act → World → Prop} {md : Region.Mode} {S : World → Prop} {n : Nat}

/-- Whatever order is picked from here on; behind each operation below number n, S holds. -/
def wpMix (P : Program) (md : Region.Mode) (ops : Array Oper) (Q : Exit → Act → World → Prop) (S : World → Prop) (n : Nat) : Nat → Array Bool → Act → World → Prop
  | 0, listed, a, w => Region.ready md ops listed = [] ∧ Q .normal a w
  | fuel + 1, listed, a, w =>
    (Region.ready md ops listed = [] → Q .normal a w) ∧
    ∀ i ∈ Region.ready md ops listed, wpOp P ops Q i (fun a' w' => (i < n → S w') ∧ wpMix P md ops Q S n fuel (listed.setIfInBounds i true) a' w') a w

theorem wpAny_of_mix : ∀ (fuel : Nat) (listed : Array Bool) (a : Act) (w : World), wpMix P md ops Q S n fuel listed a w → wpAny P md ops Q fuel listed a w
  | 0, _, _, _, h => h
  | fuel + 1, _, _, _, h => ⟨h.1, fun i hi => wpOp_mono (fun a' w' h' => wpAny_of_mix fuel _ a' w' h'.2) (h.2 i hi)⟩

/-- What yields its value in every world that meets S, and for which all from number n on wait, may be taken first. -/
theorem wpMix_first {i : Nat} {oi : Oper} {v : Value} (hi : ops[i]? = some oi) (hsel : ∀ (j : Nat) (o : Oper) cs b, ops[j]? = some o → o.op ≠ .select cs b)
    (hQ : ∀ c a w, Q (.panic c) (a.put oi.dst v) w → Q (.panic c) a w) (hwait : n < ops.size → Region.sinkB md ops n = true ∧ Region.chainB md ops n = true) (hin : i < n) :
    ∀ (fuel : Nat) (listed : Array Bool) (a : Act) (w : World), HeadInv md ops n listed →
      (∀ j oj, ops[j]? = some oj → j ≠ i → listed.getD j true = false → (∀ e ∈ oj.after, Region.binds md e = true → e.on ≠ i) → oi.apart ops oj = true) →
      i ∈ Region.ready md ops listed → YieldsIf P ops S oi v a → S w →
      wpMix P md ops Q S n fuel (listed.setIfInBounds i true) (a.put oi.dst v) w → wpMix P md ops Q S n (fuel + 1) listed a w := by
  intro fuel
  induction fuel with
  | zero =>
    intro listed a w _ _ hr hy hS H
    refine ⟨fun h => (by rw [h] at hr; cases hr), fun j hj => ?_⟩
    by_cases hji : j = i
    · subst hji; exact hy.wpOp hi hS ⟨fun _ => hS, H⟩
    · have := ready_mono hj hji
      rw [H.1] at this
      cases this
  | succ fuel ih =>
    intro listed a w hcl hfree hr hy hS H
    refine ⟨fun h => (by rw [h] at hr; cases hr), fun j hj => ?_⟩
    by_cases hji : j = i
    · subst hji; exact hy.wpOp hi hS ⟨fun _ => hS, H⟩
    · have h1 := H.2 j (ready_mono hj hji)
      obtain ⟨hjun, oj, hoj, hall⟩ := mem_ready.1 hj
      have h0 := (mem_ready.1 hr).1
      have hjn : j < n := by
        rcases Nat.lt_or_ge j n with h | h
        · exact h
        · have hjs : j < ops.size := (Array.getElem?_eq_some_iff.1 hoj).1
          obtain ⟨hs, hc⟩ := hwait (by omega)
          exact absurd hj (tail_waits hs hc (by omega) hcl _ i rfl hin h0 j h)
      have hnot : ∀ e ∈ oj.after, Region.binds md e = true → e.on ≠ i := fun e he hb heq => by
        have h1 := hall e he hb
        rw [heq, getD_both h0] at h1
        cases h1
      have h2 := wpOp_putIf hoj (hfree j oj hoj hji hjun hnot) (fun cs b => hsel i oi cs b hi) (fun cs b => hsel j oj cs b hoj) hQ hy h1
      have hfree' : ∀ k ok, ops[k]? = some ok → k ≠ i → (listed.setIfInBounds j true).getD k true = false →
          (∀ e ∈ ok.after, Region.binds md e = true → e.on ≠ i) → oi.apart ops ok = true := fun k ok hk hki hun hno => by
        refine hfree k ok hk hki ?_ hno
        by_cases hjk : j = k
        · subst hjk; exact hjun
        · rw [getD_set_ne true hjk] at hun; exact hun
      refine wpOp_mono (fun a' w' h3 => ⟨fun _ => h3.2.1 hjn, ih (listed.setIfInBounds j true) a' w' (hcl.set hj hjn) hfree' (ready_mono hr (Ne.symm hji)) h3.1 (h3.2.1 hjn) ?_⟩) h2
      rw [Array.setIfInBounds_comm _ _ hji]
      exact h3.2.2

/-- The walk: (i, true): number i only reads, it is taken now; (i, false): number i is the only one that may come up; then all from number n on, in the order of the text. -/
def wpOrd (P : Program) (ops : Array Oper) (Q : Exit → Act → World → Prop) (S : World → Prop) (tail : List Oper) : List (Nat × Bool) → Act → World → Prop
  | [], a, w => wpList P ops Q tail a w
  | (i, true) :: r, a, w => ∃ o v, ops[i]? = some o ∧ YieldsIf P ops S o v a ∧ (∀ c a w, Q (.panic c) (a.put o.dst v) w → Q (.panic c) a w) ∧ wpOrd P ops Q S tail r (a.put o.dst v) w
  | (i, false) :: r, a, w => ∃ o, ops[i]? = some o ∧ wpList P ops (Exit.then (fun a' w' => S w' ∧ wpOrd P ops Q S tail r a' w') Q) [o] a w

def ordB (md : Region.Mode) (ops : Array Oper) (n : Nat) : List (Nat × Bool) → Array Bool → Bool
  | [], listed => Region.seqB md ops (ops.size - n) n listed
  | (i, true) :: r, listed => (Region.ready md ops listed).contains i && Region.free md ops listed i && decide (i < n) && ordB md ops n r (listed.setIfInBounds i true)
  | (i, false) :: r, listed => decide (Region.ready md ops listed = [i]) && decide (i < n) && ordB md ops n r (listed.setIfInBounds i true)

theorem wpMix_of_seq : ∀ (l : List Oper) (k : Nat) (listed : Array Bool) (a : Act) (w : World), n ≤ k → (∀ j, l[j]? = ops[k + j]?) →
    Region.seqB md ops l.length k listed = true → wpList P ops Q l a w → wpMix P md ops Q S n l.length listed a w
  | [], _, _, _, _, _, _, hB, h => ⟨by simpa [Region.seqB] using hB, h⟩
  | o :: l, k, listed, a, w, hk, hl, hB, h => by
    have h0 : ops[k]? = some o := by simpa using (hl 0).symm
    simp only [List.length_cons, Region.seqB, Bool.and_eq_true, decide_eq_true_eq] at hB
    refine ⟨fun h1 => (by rw [hB.1] at h1; cases h1), fun i hi => ?_⟩
    rw [hB.1] at hi
    have hik : i = k := by simpa using hi
    subst hik
    have hw : wpOp P ops Q i (wpList P ops Q l) a w := by unfold wpOp; simp only [h0]; exact h
    exact wpOp_mono (fun a' w' h' => ⟨fun h2 => absurd h2 (by omega), wpMix_of_seq l (i + 1) _ a' w' (by omega) (fun j => by have := hl (j + 1); simpa [Nat.add_assoc, Nat.add_comm 1 j] using this) hB.2 h'⟩) hw

/-- A list of one operation, as that operation. -/
theorem wpOp_of_list {i : Nat} {o : Oper} {K : Act → World → Prop} {a : Act} {w : World} (ho : ops[i]? = some o) (h : wpList P ops (Exit.then K Q) [o] a w) : wpOp P ops Q i K a w := by
  unfold wpOp
  simp only [ho]
  unfold wpList at h
  split
  · rename_i hw
    rw [if_pos hw] at h
    rcases h with h | ⟨h1, a0, w0, h2⟩
    · left
      unfold Oper.wp at *
      generalize (execOp a.eval o).run P w = r at *
      cases r with
      | ok nx w' =>
        cases nx <;> simp only [Oper.upon] at h ⊢
        case value u => exact h
        case skip => exact h
        case defer d => exact h
        case enter f args =>
          refine Calls.mono h fun e w'' he => ?_
          cases e with
          | returned u => exact he
          | panicked c => exact he
          | outgrown => obtain ⟨a0, w0, h2⟩ := he; exact ⟨a0, w0, h2⟩
        case row row args => exact Rows.mono h fun u w'' he => he
      | halt x w' =>
        cases x <;> simp only [Oper.upon] at h ⊢
        case panic u => exact h
    · exact .inr ⟨h1, a0, w0, h2⟩
  · rename_i hw
    rw [if_neg hw] at h
    exact h

theorem wpMix_of_ord (hsel : Region.noSelect ops = true) (tail : List Oper) (htl : ∀ j, tail[j]? = ops[n + j]?) (htn : tail.length = ops.size - n) (hwait : n < ops.size → Region.sinkB md ops n = true ∧ Region.chainB md ops n = true) : ∀ (ord : List (Nat × Bool)) (listed : Array Bool) (a : Act) (w : World), HeadInv md ops n listed → S w →
    ordB md ops n ord listed = true → wpOrd P ops Q S tail ord a w → wpMix P md ops Q S n (ord.length + tail.length) listed a w
  | [], listed, a, w, _, _, hB, h => by
    simp only [ordB] at hB
    rw [List.length_nil, Nat.zero_add]
    exact wpMix_of_seq tail n listed a w (Nat.le_refl _) htl (by rw [htn]; exact hB) h
  | (i, true) :: r, listed, a, w, hcl, hS, hB, h => by
    simp only [ordB, Bool.and_eq_true, decide_eq_true_eq] at hB
    obtain ⟨⟨⟨hr, hf⟩, hin⟩, hB'⟩ := hB
    obtain ⟨o, v, ho, hy, hQ, h'⟩ := h
    have hr' : i ∈ Region.ready md ops listed := by simpa using hr
    rw [List.length_cons, show r.length + 1 + tail.length = (r.length + tail.length) + 1 by omega]
    exact wpMix_first ho (Region.noSelect_spec hsel) hQ hwait hin _ listed a w hcl (Region.free_spec ho hf) hr' hy hS
      (wpMix_of_ord hsel tail htl htn hwait r _ _ _ (hcl.set hr' hin) hS hB' h')
  | (i, false) :: r, listed, a, w, hcl, hS, hB, h => by
    simp only [ordB, Bool.and_eq_true, decide_eq_true_eq] at hB
    obtain ⟨⟨hr, hin⟩, hB'⟩ := hB
    obtain ⟨o, ho, h'⟩ := h
    have hri : i ∈ Region.ready md ops listed := by rw [hr]; simp
    rw [List.length_cons, show r.length + 1 + tail.length = (r.length + tail.length) + 1 by omega]
    refine ⟨fun h1 => (by rw [h1] at hri; cases hri), fun j hj => ?_⟩
    rw [hr] at hj
    have hji : j = i := by simpa using hj
    subst hji
    exact wpOp_mono (fun a' w' h3 => ⟨fun _ => h3.1, wpMix_of_ord hsel tail htl htn hwait r _ _ _ (hcl.set hri hin) h3.1 hB' h3.2⟩) (wpOp_of_list ho h')

/-- A region that draws its order, by one walk. -/
theorem wp_region_ord {id : Nat} {a : Act} {w : World} {l : List Oper} (S : World → Prop) (n : Nat) (ord : List (Nat × Bool)) (hm : P.follows .mixedOrders = true)
    (hB : (Region.noSelect l.toArray && decide (ord.length = n) && decide (n ≤ l.length) && (decide (n = l.length) || (Region.sinkB .any l.toArray n && Region.chainB .any l.toArray n)) && ordB .any l.toArray n ord (Array.replicate l.toArray.size false)) = true) (hS : S w.drew)
    (h : wpOrd P l.toArray Q S (l.drop n) ord a w.drew) : (Code.region id l.toArray true).wp P Q a w := by
  simp only [Bool.and_eq_true, decide_eq_true_eq] at hB
  obtain ⟨⟨⟨⟨hsel, hlen⟩, hle⟩, hwt⟩, hB⟩ := hB
  have hcl : HeadInv .any l.toArray n (Array.replicate l.toArray.size false) :=
    ⟨by simp, fun j oj _ hl => (by rw [getD_replicate_false] at hl; cases hl), fun t _ ht => getD_in (by simpa using ht) (getD_replicate_false _ _)⟩
  have hwait : n < l.toArray.size → Region.sinkB .any l.toArray n = true ∧ Region.chainB .any l.toArray n = true := fun h => by
    simp only [Bool.or_eq_true, Bool.and_eq_true, decide_eq_true_eq] at hwt
    rcases hwt with e | e
    · simp at h; omega
    · exact e
  have hdl : (l.drop n).length = l.toArray.size - n := by simp
  have H := wpMix_of_ord (md := .any) (n := n) hsel (l.drop n) (fun j => by simp [List.getElem?_drop]) hdl hwait ord _ a w.drew hcl hS hB h
  refine wp_region_any hm ?_
  have e : ord.length + (l.drop n).length = l.toArray.size := by rw [hdl, hlen]; simp; omega
  rw [e] at H
  exact wpAny_of_mix _ _ _ _ H

theorem wpOrd_read {tail : List Oper} {i : Nat} {r : List (Nat × Bool)} {a : Act} {w : World} {o : Oper} (ho : ops[i]? = some o) (hg : o.guard = none)
    (h : ∃ v, (∀ w', S w' → (execOp a.eval o).run P w' = .ok (.value v) w') ∧ (∀ c a w, Q (.panic c) (a.put o.dst v) w → Q (.panic c) a w) ∧ wpOrd P ops Q S tail r (a.put o.dst v) w) : wpOrd P ops Q S tail ((i, true) :: r) a w := by
  obtain ⟨v, hy, hQ, h⟩ := h
  exact ⟨o, v, ho, .inl ⟨by simp [Region.wanted, hg], hy⟩, hQ, h⟩
theorem wpOrd_readG {tail : List Oper} {i : Nat} {r : List (Nat × Bool)} {a : Act} {w : World} {o : Oper} (ho : ops[i]? = some o) (hg : Region.wanted o (yielded ops a.tmps) = true)
    (h : ∃ v, (∀ w', S w' → (execOp a.eval o).run P w' = .ok (.value v) w') ∧ (∀ c a w, Q (.panic c) (a.put o.dst v) w → Q (.panic c) a w) ∧ wpOrd P ops Q S tail r (a.put o.dst v) w) : wpOrd P ops Q S tail ((i, true) :: r) a w := by
  obtain ⟨v, hy, hQ, h⟩ := h
  exact ⟨o, v, ho, .inl ⟨hg, hy⟩, hQ, h⟩
theorem wpOrd_run {tail : List Oper} {i : Nat} {r : List (Nat × Bool)} {a : Act} {w : World} {o : Oper} (ho : ops[i]? = some o)
    (h : wpList P ops (Exit.then (fun a' w' => S w' ∧ wpOrd P ops Q S tail r a' w') Q) [o] a w) : wpOrd P ops Q S tail ((i, false) :: r) a w := ⟨o, ho, h⟩

/-! A region by an invariant: whatever may come up next keeps it. -/
def leftOf (ops : Array Oper) (listed : Array Bool) : List Nat := (List.range ops.size).filter fun i => listed.getD i true == false
theorem leftOf_set {listed : Array Bool} {i : Nat} (hi : i ∈ Region.ready md ops listed) : (leftOf ops (listed.setIfInBounds i true)).length < (leftOf ops listed).length := by
  obtain ⟨hun, oi, hoi, _⟩ := mem_ready.1 hi
  have his : i < ops.size := (Array.getElem?_eq_some_iff.1 hoi).1
  have hsub : leftOf ops (listed.setIfInBounds i true) = (leftOf ops listed).filter (fun j => j != i) := by
    unfold leftOf
    rw [List.filter_filter]
    apply List.filter_congr
    intro j hj
    by_cases e : i = j
    · subst e
      have hil : i < listed.size := by
        rcases Nat.lt_or_ge i listed.size with h | h
        · exact h
        · simp [Array.getElem?_eq_none h] at hun
      simp [hil]
    · have e2 : (j != i) = true := by simp [Ne.symm e]
      rw [getD_set_ne true e, e2, Bool.true_and]
  rw [hsub]
  have hmem : i ∈ leftOf ops listed := List.mem_filter.2 ⟨List.mem_range.2 his, by simp [hun]⟩
  have hle : ((leftOf ops listed).filter (fun j => j != i)).length < (leftOf ops listed).length := by
    refine List.length_filter_lt_length_iff_exists.2 ⟨i, hmem, by simp⟩
  exact hle
theorem wpAny_inv (R : Array Bool → Act → World → Prop)
    (step : ∀ listed a w i o, R listed a w → i ∈ Region.ready md ops listed → ops[i]? = some o → wpList P ops (Exit.then (R (listed.setIfInBounds i true)) Q) [o] a w)
    (fin : ∀ listed a w, R listed a w → Region.ready md ops listed = [] → Q .normal a w) :
    ∀ (fuel : Nat) (listed : Array Bool) (a : Act) (w : World), (leftOf ops listed).length ≤ fuel → R listed a w → wpAny P md ops Q fuel listed a w
  | 0, listed, a, w, hl, hR => by
    have hr : Region.ready md ops listed = [] := by
      apply List.eq_nil_iff_forall_not_mem.2
      intro i hi
      have := leftOf_set hi
      omega
    exact ⟨hr, fin _ _ _ hR hr⟩
  | fuel + 1, listed, a, w, hl, hR => by
    refine ⟨fun h => fin _ _ _ hR h, fun i hi => ?_⟩
    obtain ⟨_, oi, hoi, _⟩ := mem_ready.1 hi
    have := leftOf_set hi
    exact wpOp_mono (fun a' w' h' => wpAny_inv R step fin fuel _ a' w' (by omega) h') (wpOp_of_list hoi (step listed a w i oi hR hi hoi))
theorem all_listed {listed : Array Bool} (hB : (List.range ops.size).all (fun i => match ops[i]? with | some o => o.after.all fun e => !Region.binds md e || decide (e.on < i) | none => true) = true) (hsz : listed.size = ops.size) (hr : Region.ready md ops listed = []) : ∀ i, i < ops.size → listed.getD i false = true := by
  intro i
  induction i using Nat.strongRecOn with
  | _ i ih =>
    intro hi
    cases hl : listed.getD i false with
    | true => rfl
    | false =>
      exfalso
      have hmem : i ∈ Region.ready md ops listed := by
        refine mem_ready.2 ⟨getD_in (by omega) hl, ops[i], Array.getElem?_eq_getElem hi, fun e he hb => ?_⟩
        have h1 := List.all_eq_true.1 hB i (List.mem_range.2 hi)
        simp only [Array.getElem?_eq_getElem hi] at h1
        have h2 := Array.all_eq_true_iff_forall_mem.1 h1 e he
        simp only [hb, Bool.not_true, Bool.false_or, decide_eq_true_eq] at h2
        exact ih e.on h2 (by omega)
      rw [hr] at hmem
      cases hmem
theorem wp_region_inv {id : Nat} {a : Act} {w : World} {l : List Oper} (R : Array Bool → Act → World → Prop) (hm : P.follows .mixedOrders = true) (h0 : R (Array.replicate l.toArray.size false) a w.drew)
    (step : ∀ listed a w i o, R listed a w → i ∈ Region.ready .any l.toArray listed → l.toArray[i]? = some o → wpList P l.toArray (Exit.then (R (listed.setIfInBounds i true)) Q) [o] a w)
    (fin : ∀ listed a w, R listed a w → Region.ready .any l.toArray listed = [] → Q .normal a w) : (Code.region id l.toArray true).wp P Q a w := by
  refine wp_region_any hm (wpAny_inv R step fin _ _ _ _ ?_ h0)
  have h1 := List.length_filter_le (fun i => (Array.replicate l.toArray.size false).getD i true == false) (List.range l.toArray.size)
  rw [List.length_range] at h1
  exact h1
end
end Go.Proofs.Ytjicoifjgokoiaa
