/-
  The document's own MarksOf, walked.
-/
import Derived.Test.YtjicoifjgokoiabG8
import Derived.Test.YtjicoifjgokoiabG3
namespace Go.Proofs.Ytjicoifjgokoiab
open Go.RowKit
set_option linter.unusedVariables false
set_option linter.unusedSimpArgs false
set_option maxRecDepth 100000
set_option maxHeartbeats 1000000

/-- What a cell leads to is marked. -/
def Led (L : List HC) (Mk : List Bool) (i : Int) (c : HC) : Prop := (c.k = 0 → markAt Mk c.n = true) ∧ ∀ q : Int, 0 ≤ q → q < argsC c → markAt Mk (i + 1 + q) = true
def Below_ (L : List HC) (Mk : List Bool) (i : Nat) : Prop := ∀ (j : Nat) (c : HC), j < i → Mk[j]? = some true → L[j]? = some c → Led L Mk (j : Int) c
/-- A pass over the cells, at cell i; more: whether something was new. -/
structure Pass (L : List HC) (R : List Int) (c0 : Nat) (Mk : List Bool) (more : Bool) : Prop where
  len : Mk.length = L.length
  snd : ∀ i : Nat, Mk[i]? = some true → Rc L R (i : Int)
  rts : ∀ r ∈ R, isAddr L r = true → markAt Mk r = true
  le : Mk.count false ≤ c0
  lt : more = true → Mk.count false < c0
theorem Pass.mark {L : List HC} {R : List Int} {c0 : Nat} {Mk : List Bool} {more : Bool} (h : Pass L R c0 Mk more) {a : Int} (ha : isAddr L a = true) (hr : Rc L R a) (hm : Mk[a.toNat]? = some false) : Pass L R c0 (Mk.set a.toNat true) true := by
  have haa := isAddr_iff'.1 ha
  have hl := h.len
  have hc := count_mark (M := Mk) (i := a.toNat) (by omega) (by rw [hm]; simp)
  have hle := h.le
  refine ⟨by simpa using h.len, fun i hi => ?_, fun r h1 h2 => ?_, by omega, fun _ => by omega⟩
  · rw [List.getElem?_set] at hi
    split at hi
    · rename_i e
      rw [show ((i : Nat) : Int) = a by omega]; exact hr
    · exact h.snd i hi
  · have := markAt_iff.1 (h.rts r h1 h2)
    rw [markAt_iff, List.getElem?_set]
    split
    · rw [if_pos (by omega)]
    · exact this
theorem Below_.fin {L : List HC} {R : List Int} {c0 : Nat} {Mk : List Bool} {more : Bool} (h : Pass L R c0 Mk more) (hg : goodL L.length L = true) (hb : Below_ L Mk L.length) : Mk = marksM L R := by
  refine MarkOf.eq ⟨h.len, fun i hi => ⟨h.snd i, fun hrc => ?_⟩⟩
  have key : ∀ a, Rc L R a → markAt Mk a = true := by
    intro a ha
    have step : ∀ (a : Int) (c : HC), markAt Mk a = true → hat L a = some c → Led L Mk a c := fun a c h1 h2 => by
      obtain ⟨g0, g1, g2⟩ := hatS.1 h2
      have := hb a.toNat c (by omega) (markAt_iff.1 h1) g2
      rwa [show ((a.toNat : Nat) : Int) = a by omega] at this
    induction ha with
    | root h1 h2 => exact h.rts _ h1 h2
    | ref h1 hc hk ih => exact (step _ _ ih hc).1 hk
    | arg h1 hc i0 i1 ih => exact (step _ _ ih hc).2 _ i0 i1
  have := markAt_iff.1 (key _ hrc)
  rwa [show ((i : Nat) : Int).toNat = i by omega] at this
theorem mark_false {Mk : List Bool} {a : Int} {n : Nat} (hl : Mk.length = n) (h0 : 0 ≤ a) (h1 : a < n) (hm : ¬ markAt Mk a = true) : Mk[a.toNat]? = some false := by
  have e : Mk[a.toNat]? = some (Mk[a.toNat]'(by omega)) := List.getElem?_eq_getElem _
  rw [markAt_iff, e] at hm
  rw [e]
  cases hq : Mk[a.toNat]'(by omega) with
  | false => rfl
  | true => rw [hq] at hm; exact absurd rfl hm
section
variable {M : List Nat} {w0 : World} {H : List (Nat × Obj)} {F : List (World → Prop)}
theorem bool_at {P : List Bool} {rb : Nat} {w' : World} {L : List (Nat × Obj)} {F' : List (World → Prop)} (hS : St M w0 L F' w') (hm : (rb, bbob P) ∈ L) {i : Nat} {v : Bool} (hv : P[i]? = some v) : w'.cell? ⟨rb, i, none⟩ = some (.bool v) := by
  rw [cell_own (hS.own (rb, _) hm)]
  simp [boolsV, hv]
theorem marksOf_any (h : HH) (R : List Int) (A B RA : Option Addr) (c d rc : Nat) (w : World) (hH : Und F (HFl h A c B d)) (hR : Und F (Flat 1 (intsV R) RA R.length rc)) (hRl : R.length ≤ 9223372036854775807) (hS : St M w0 H F w) :
    Calls Try.prog 26 #[hv h A c B d, .slice RA R.length rc] w fun e w' => ∃ (A' : Option Addr) (c' : Nat) (F' : List (World → Prop)), e = .returned (.tuple #[.slice A' (marksH h R).1.length c', .int .i64 (marksH h R).2]) ∧ (∀ φ ∈ F, φ ∈ F') ∧ Und F' (Flat 1 (boolsV (marksH h R).1) A' (marksH h R).1.length c') ∧ St M w0 H F' w' := by
  have hL : Und F (Flat 3 (hcsL h.cs) A h.cs.length c) := hH.imp fun _ h => h.1
  refine goes_enter2 Try.func26 rfl Try.ntmps26 rfl ?_
  refine goes_seq ?_
  refine goes_region ?_
  refine lst_box hS rfl rfl ?_
  clear hS
  intro b1 wx1 hS
  refine lst_run (run_assign (by conv => lhs; whnf)) rfl ?_
  refine lst_run (run_assign (by conv => lhs; whnf)) rfl ?_
  refine lst_done ?_
  refine goes_seq ?_
  refine goes_seq ?_
  refine goes_region ?_
  first
    | refine lst_run (run_loadN_own (k := 2) hS rfl rfl rfl (by first | exact .head | exact .tail .head | exact .tail (.tail .head) | exact .tail (.tail (.tail .head)) | exact .tail (.tail (.tail (.tail .head))) | exact .tail (.tail (.tail (.tail (.tail .head))))) (by repeat constructor)) rfl ?_
    | refine lst_run (run_load2 rfl rfl rfl (by first | assumption | exact hS.cell0 (by assumption)) (by first | assumption | exact hS.cell0 (by assumption))) rfl ?_
  refine lst_enter (run_call (by kernel_rfl) (args_1 (by conv => lhs; whnf))) rfl ?_
  refine Calls.mono (isHeap_any h A B c d _ (hS.und hH)) ?_
  rintro _ w2 ⟨rfl, hb2⟩
  refine ⟨_, rfl, ?_⟩
  replace hS := hS.grow hb2
  cases hg : goodH h with
  | false =>
    have e0 : marksH h R = ([], 1) := by unfold marksH; rw [if_pos hg]
    rw [e0]
    refine lst_run (rfl) rfl ?_
    refine lst_done ?_
    refine goes_true rfl ?_
    refine goes_seq ?_
    refine goes_region ?_
    refine lst_run (run_assign (by conv => lhs; whnf)) rfl ?_
    refine lst_run (run_assign (by conv => lhs; whnf)) rfl ?_
    refine lst_done ?_
    refine goes_ret2 Try.func26 rfl (by conv => lhs; whnf) (by conv => lhs; whnf) ?_
    exact ⟨none, 0, F, rfl, fun _ h => h, fun w _ => Flat.nil_ _ _ _, hS.drop⟩
  | true =>
  have e0 : marksH h R = (marksM h.cs R, 0) := by unfold marksH; rw [if_neg (by rw [hg]; decide)]
  obtain ⟨hl1, hl2⟩ := good_len hg
  have hgl : goodL h.cs.length h.cs = true := by
    unfold goodH goodCs at hg
    simp only [Bool.and_eq_true] at hg
    exact hg.1.2
  rw [e0]
  refine lst_run (rfl) rfl ?_
  refine lst_done ?_
  refine goes_false rfl ?_
  refine goes_skip ?_
  refine goes_seq ?_
  refine goes_region ?_
  refine lst_run (run_fieldAddr (off := 0) rfl rfl) rfl ?_
  first
    | refine lst_run (run_load1_own hS rfl rfl (by first | exact .head | exact .tail .head | exact .tail (.tail .head) | exact .tail (.tail (.tail .head)) | exact .tail (.tail (.tail (.tail .head))) | exact .tail (.tail (.tail (.tail (.tail .head))))) (by repeat constructor)) rfl ?_
    | refine lst_run (run_load1 rfl rfl (by first | assumption | exact hS.cell0 (by assumption) | exact lv_next hS | exact lv_list hS)) rfl ?_
  refine lst_run (run_len_slice rfl rfl rfl) rfl ?_
  refine lst_makeZ (k := h.cs.length) (bts := 1) (z := .bool false) hS (by conv => lhs; whnf) (by conv => lhs; whnf) rfl rfl rfl rfl (by omega) (by omega) rfl ?_
  clear hS
  intro rb w3 hS
  rw [show List.replicate h.cs.length (Value.bool false) = boolsV (List.replicate h.cs.length false) by simp [boolsV]] at hS
  refine lst_run (run_assign (by conv => lhs; whnf)) rfl ?_
  refine lst_done ?_
  refine goes_seq ?_
  refine goes_seq ?_
  refine goes_region ?_
  refine lst_run (run_move (by conv => lhs; whnf)) rfl ?_
  refine lst_run (run_len_slice rfl rfl rfl) rfl ?_
  refine lst_run (run_move (by conv => lhs; whnf)) rfl ?_
  refine lst_done ?_
  refine goes_block ?_
  refine goes_loop1 22 (23 :: 24 :: 25 :: 8 :: 26 :: 27 :: 28 :: 29 :: 30 :: 31 :: 32 :: 33 :: 34 :: 35 :: 36 :: 37 :: []) (fun (Q : List Int) v w' => ∃ (D : List Int) (Mk : List Bool), R = D ++ Q ∧ v = .int .i64 (D.length : Nat) ∧ Mk.length = h.cs.length ∧ (∀ i : Nat, Mk[i]? = some true → Rc h.cs R (i : Int)) ∧ (∀ r ∈ D, isAddr h.cs r = true → markAt Mk r = true) ∧ St M w0 ((rb, bbob Mk) :: (b1, hob A h.cs.length c B h.tr.length d) :: H) F w') (fun Q => Q.length) (R) ?_ (by conv => lhs; whnf) ?_
  · refine ⟨[], List.replicate h.cs.length false, rfl, rfl, by simp, fun i hi => ?_, fun r hr => by simp at hr, hS⟩
    rw [List.getElem?_replicate] at hi
    split at hi <;> simp at hi
  clear hS
  rintro Q _ w4 jv ⟨D, Mk, hD, rfl, hml, hsd, hrt, hS⟩ ih
  have hlen : R.length = D.length + Q.length := by rw [hD]; simp
  cases Q with
  | cons x Q =>
    simp only [List.length_cons] at hlen
    have hxi : R[D.length]? = some x := by rw [hD]; simp
    obtain ⟨bt, ot, rfl⟩ := (hS.und hR).some_ (by omega)
    have hct : ∀ {H'} w', St M w0 H' F w' → w'.cell? ⟨bt, ot + ((D.length : Nat) : Int).toNat * 1, none⟩ = some (.int .i64 x) := fun w' hS => by
      have := (hS.und hR).int hxi
      rw [show ((D.length : Nat) : Int).toNat = D.length by omega]; exact this
    by_cases h0 : 0 ≤ x
    case neg =>
      refine goes_seq ?_
      refine goes_region ?_
      first
        | refine lst_run (run_lss_yes rfl rfl (by omega)) rfl ?_
        | refine lst_run (run_lss_no rfl rfl (by omega)) rfl ?_
        | refine lst_run (rfl) rfl ?_
      refine lst_done ?_
      refine goes_seq ?_
      refine goes_true rfl ?_
      refine goes_skip ?_
      refine goes_seq ?_
      refine goes_block ?_
      refine goes_seq ?_
      refine goes_region ?_
      refine lst_run (run_indexAddr (sz := 1) rfl rfl rfl rfl (by omega) (by omega)) rfl ?_
      first
        | refine lst_run (run_load1_own hS rfl rfl (by first | exact .head | exact .tail .head | exact .tail (.tail .head) | exact .tail (.tail (.tail .head)) | exact .tail (.tail (.tail (.tail .head))) | exact .tail (.tail (.tail (.tail (.tail .head))))) (by repeat constructor)) rfl ?_
        | refine lst_run (run_load1 rfl rfl (by first | assumption | exact hct _ hS | exact hS.cell0 (by assumption) | exact lv_next hS | exact lv_list hS)) rfl ?_
      refine lst_run (run_assign (by conv => lhs; whnf)) rfl ?_
      refine lst_done ?_
      refine goes_seq ?_
      refine goes_region ?_
      refine lst_run (run_move (by conv => lhs; whnf)) rfl ?_
      first
        | refine lst_run (run_geq_yes rfl rfl (by omega)) rfl ?_
        | refine lst_run (run_geq_no rfl rfl (by omega)) rfl ?_
        | refine lst_run (rfl) rfl ?_
      refine lst_run (run_move (by conv => lhs; whnf)) rfl ?_
      refine lst_pass rfl rfl rfl ?_
      refine lst_pass rfl rfl rfl ?_
      refine lst_pass rfl rfl rfl ?_
      refine lst_pass rfl rfl rfl ?_
      first
        | refine lst_run (run_pick_t rfl (by conv => lhs; whnf)) rfl ?_
        | refine lst_run (run_pick_f rfl (by conv => lhs; whnf)) rfl ?_
      refine lst_done ?_
      refine goes_false rfl ?_
      refine goes_skip ?_
      refine goes_inBlock ?_
      refine goes_region ?_
      refine lst_run (run_add rfl rfl (by omega) (by omega)) rfl ?_
      refine lst_run (run_move (by conv => lhs; whnf)) rfl ?_
      refine lst_done ?_
      refine ih (Q) _ _ _ ?_ ?_ (by conv => lhs; whnf) (by kernel_rfl)
      · simp
      · refine ⟨D ++ [x], Mk, by rw [hD]; simp, by simp, hml, hsd, fun r hr hr2 => ?_, hS⟩
        rcases List.mem_append.1 hr with hr | hr
        · exact hrt r hr hr2
        · rw [List.mem_singleton.1 hr] at hr2
          have := isAddr_iff'.1 hr2; omega
    by_cases h1 : x < h.cs.length
    case neg =>
      refine goes_seq ?_
      refine goes_region ?_
      first
        | refine lst_run (run_lss_yes rfl rfl (by omega)) rfl ?_
        | refine lst_run (run_lss_no rfl rfl (by omega)) rfl ?_
        | refine lst_run (rfl) rfl ?_
      refine lst_done ?_
      refine goes_seq ?_
      refine goes_true rfl ?_
      refine goes_skip ?_
      refine goes_seq ?_
      refine goes_block ?_
      refine goes_seq ?_
      refine goes_region ?_
      refine lst_run (run_indexAddr (sz := 1) rfl rfl rfl rfl (by omega) (by omega)) rfl ?_
      first
        | refine lst_run (run_load1_own hS rfl rfl (by first | exact .head | exact .tail .head | exact .tail (.tail .head) | exact .tail (.tail (.tail .head)) | exact .tail (.tail (.tail (.tail .head))) | exact .tail (.tail (.tail (.tail (.tail .head))))) (by repeat constructor)) rfl ?_
        | refine lst_run (run_load1 rfl rfl (by first | assumption | exact hct _ hS | exact hS.cell0 (by assumption) | exact lv_next hS | exact lv_list hS)) rfl ?_
      refine lst_run (run_assign (by conv => lhs; whnf)) rfl ?_
      refine lst_done ?_
      refine goes_seq ?_
      refine goes_region ?_
      refine lst_run (run_move (by conv => lhs; whnf)) rfl ?_
      first
        | refine lst_run (run_geq_yes rfl rfl (by omega)) rfl ?_
        | refine lst_run (run_geq_no rfl rfl (by omega)) rfl ?_
        | refine lst_run (rfl) rfl ?_
      refine lst_run (run_move (by conv => lhs; whnf)) rfl ?_
      refine lst_guard rfl rfl ?_
      refine lst_run (run_move (by conv => lhs; whnf)) rfl ?_
      refine lst_guard rfl rfl ?_
      refine lst_run (run_move (by conv => lhs; whnf)) rfl ?_
      refine lst_guard rfl rfl ?_
      refine lst_run (run_len_slice rfl rfl rfl) rfl ?_
      refine lst_guard rfl rfl ?_
      first
        | refine lst_run (run_lss_yes rfl rfl (by omega)) rfl ?_
        | refine lst_run (run_lss_no rfl rfl (by omega)) rfl ?_
        | refine lst_run (rfl) rfl ?_
      first
        | refine lst_run (run_pick_t rfl (by conv => lhs; whnf)) rfl ?_
        | refine lst_run (run_pick_f rfl (by conv => lhs; whnf)) rfl ?_
      refine lst_done ?_
      refine goes_false rfl ?_
      refine goes_skip ?_
      refine goes_inBlock ?_
      refine goes_region ?_
      refine lst_run (run_add rfl rfl (by omega) (by omega)) rfl ?_
      refine lst_run (run_move (by conv => lhs; whnf)) rfl ?_
      refine lst_done ?_
      refine ih (Q) _ _ _ ?_ ?_ (by conv => lhs; whnf) (by kernel_rfl)
      · simp
      · refine ⟨D ++ [x], Mk, by rw [hD]; simp, by simp, hml, hsd, fun r hr hr2 => ?_, hS⟩
        rcases List.mem_append.1 hr with hr | hr
        · exact hrt r hr hr2
        · rw [List.mem_singleton.1 hr] at hr2
          have := isAddr_iff'.1 hr2; omega
    have hax : isAddr h.cs x = true := isAddr_iff'.2 ⟨h0, h1⟩
    have hput := boolsV_put Mk x.toNat true (by omega)
    refine goes_seq ?_
    refine goes_region ?_
    first
      | refine lst_run (run_lss_yes rfl rfl (by omega)) rfl ?_
      | refine lst_run (run_lss_no rfl rfl (by omega)) rfl ?_
      | refine lst_run (rfl) rfl ?_
    refine lst_done ?_
    refine goes_seq ?_
    refine goes_true rfl ?_
    refine goes_skip ?_
    refine goes_seq ?_
    refine goes_block ?_
    refine goes_seq ?_
    refine goes_region ?_
    refine lst_run (run_indexAddr (sz := 1) rfl rfl rfl rfl (by omega) (by omega)) rfl ?_
    first
      | refine lst_run (run_load1_own hS rfl rfl (by first | exact .head | exact .tail .head | exact .tail (.tail .head) | exact .tail (.tail (.tail .head)) | exact .tail (.tail (.tail (.tail .head))) | exact .tail (.tail (.tail (.tail (.tail .head))))) (by repeat constructor)) rfl ?_
      | refine lst_run (run_load1 rfl rfl (by first | assumption | exact hct _ hS | exact hS.cell0 (by assumption) | exact lv_next hS | exact lv_list hS)) rfl ?_
    refine lst_run (run_assign (by conv => lhs; whnf)) rfl ?_
    refine lst_done ?_
    refine goes_seq ?_
    refine goes_region ?_
    refine lst_run (run_move (by conv => lhs; whnf)) rfl ?_
    first
      | refine lst_run (run_geq_yes rfl rfl (by omega)) rfl ?_
      | refine lst_run (run_geq_no rfl rfl (by omega)) rfl ?_
      | refine lst_run (rfl) rfl ?_
    refine lst_run (run_move (by conv => lhs; whnf)) rfl ?_
    refine lst_guard rfl rfl ?_
    refine lst_run (run_move (by conv => lhs; whnf)) rfl ?_
    refine lst_guard rfl rfl ?_
    refine lst_run (run_move (by conv => lhs; whnf)) rfl ?_
    refine lst_guard rfl rfl ?_
    refine lst_run (run_len_slice rfl rfl rfl) rfl ?_
    refine lst_guard rfl rfl ?_
    first
      | refine lst_run (run_lss_yes rfl rfl (by omega)) rfl ?_
      | refine lst_run (run_lss_no rfl rfl (by omega)) rfl ?_
      | refine lst_run (rfl) rfl ?_
    first
      | refine lst_run (run_pick_t rfl (by conv => lhs; whnf)) rfl ?_
      | refine lst_run (run_pick_f rfl (by conv => lhs; whnf)) rfl ?_
    refine lst_done ?_
    refine goes_true rfl ?_
    refine goes_region ?_
    refine lst_run (run_move (by conv => lhs; whnf)) rfl ?_
    refine lst_run (run_move (by conv => lhs; whnf)) rfl ?_
    refine lst_run (run_indexAddr (sz := 1) rfl rfl rfl rfl (by omega) (by omega)) rfl ?_
    refine lst_store1 hS rfl (by conv => lhs; whnf) rfl rfl .head (by rw [Nat.zero_add, Nat.mul_one]; exact hput) .head ?_
    clear hS
    intro w6 hS
    refine lst_done ?_
    refine goes_inBlock ?_
    refine goes_region ?_
    refine lst_run (run_add rfl rfl (by omega) (by omega)) rfl ?_
    refine lst_run (run_move (by conv => lhs; whnf)) rfl ?_
    refine lst_done ?_
    refine ih (Q) _ _ _ ?_ ?_ (by conv => lhs; whnf) (by kernel_rfl)
    · simp
    · refine ⟨D ++ [x], Mk.set x.toNat true, by rw [hD]; simp, by simp, by simpa using hml, fun i hi => ?_, fun r hr hr2 => ?_, hS⟩
      · rw [List.getElem?_set] at hi
        split at hi
        · rename_i e
          rw [show ((i : Nat) : Int) = x by omega]
          exact Rc.root (by rw [hD]; simp) hax
        · exact hsd i hi
      · rw [markAt_iff, List.getElem?_set]
        split
        · rw [if_pos (by omega)]
        · rename_i hne
          rcases List.mem_append.1 hr with hr | hr
          · exact markAt_iff.1 (hrt r hr hr2)
          · rw [List.mem_singleton.1 hr] at hne; exact absurd rfl hne
  | nil =>
    simp only [List.length_nil] at hlen
    have hRD : R = D := by simpa using hD
    rw [← hRD] at hrt
    clear hD
    refine goes_seq ?_
    refine goes_region ?_
    first
      | refine lst_run (run_lss_yes rfl rfl (by omega)) rfl ?_
      | refine lst_run (run_lss_no rfl rfl (by omega)) rfl ?_
      | refine lst_run (rfl) rfl ?_
    refine lst_done ?_
    refine goes_seq ?_
    refine goes_false rfl ?_
    refine goes_exit rfl ?_
    refine goes_seq ?_
    refine goes_seq ?_
    refine goes_region ?_
    refine lst_run (run_assign (by conv => lhs; whnf)) rfl ?_
    refine lst_done ?_
    refine goes_block ?_
    refine goes_loop1 9 (38 :: 39 :: 40 :: 41 :: 42 :: 43 :: 44 :: 45 :: 46 :: 11 :: 10 :: 47 :: 48 :: 49 :: 50 :: 51 :: 52 :: 53 :: 54 :: 55 :: 56 :: 57 :: 58 :: 59 :: 60 :: 61 :: 62 :: 63 :: 64 :: 65 :: 66 :: 12 :: 67 :: 68 :: 69 :: 70 :: 71 :: 72 :: 73 :: 74 :: 75 :: 78 :: 79 :: 80 :: 81 :: 82 :: 83 :: 84 :: 85 :: 86 :: 87 :: 88 :: 89 :: 76 :: 77 :: 90 :: []) (fun (x : List Bool × Bool) v w' => v = .bool x.2 ∧ (∃ c0, Pass h.cs R c0 x.1 false) ∧ (x.2 = false → Below_ h.cs x.1 h.cs.length) ∧ St M w0 ((rb, bbob x.1) :: (b1, hob A h.cs.length c B h.tr.length d) :: H) F w') (fun x => 2 * x.1.count false + (if x.2 = true then 1 else 0)) ((Mk, true)) ?_ (by conv => lhs; whnf) ?_
    · exact ⟨rfl, ⟨_, hml, hsd, hrt, Nat.le_refl _, fun h => (by cases h)⟩, fun h => (by cases h), hS⟩
    clear hS hml hsd hrt
    rintro ⟨Mk, more⟩ _ w5 jv2 ⟨rfl, ⟨cc, hp⟩, hbl, hS⟩ ih2
    dsimp only at hp hbl hS
    have hml := hp.len
    cases more with
    | false =>
      refine goes_seq ?_
      refine goes_seq ?_
      refine goes_region ?_
      refine lst_run (run_move (by conv => lhs; whnf)) rfl ?_
      refine lst_done ?_
      refine goes_false rfl ?_
      refine goes_exit rfl ?_
      refine goes_seq ?_
      refine goes_region ?_
      refine lst_run (run_move (by conv => lhs; whnf)) rfl ?_
      refine lst_run (run_assign (by conv => lhs; whnf)) rfl ?_
      refine lst_run (run_assign (by conv => lhs; whnf)) rfl ?_
      refine lst_done ?_
      refine goes_ret2 Try.func26 rfl (by conv => lhs; whnf) (by conv => lhs; whnf) ?_
      have hM : Mk = marksM h.cs R := (hbl rfl).fin hp hgl
      have hS3 : St M w0 ((b1, hob A h.cs.length c B h.tr.length d) :: H) (Flat 1 (boolsV Mk) (some ⟨rb, 0, none⟩) Mk.length Mk.length :: F) w5 := by
        have ho := hS.own (rb, _) (.head _)
        refine hS.drop.learn fun w' hw => Flat.own (sp := []) (el := 4) ?_ (boolsV_len Mk) (Nat.le_refl _)
        rw [hw.block rb (own_lt ho) fun hm => ?_, List.append_nil]
        · exact ho
        · obtain ⟨p, hp, e⟩ := List.mem_map.1 hm
          exact (List.pairwise_cons.1 hS.apart).1 p hp e.symm
      refine ⟨some ⟨rb, 0, none⟩, Mk.length, _, ?_, fun φ h => .tail _ h, ?_, hS3.drop⟩
      · rw [← hM, hml]
      · rw [← hM]; exact Und.head
    | true =>
      refine goes_seq ?_
      refine goes_seq ?_
      refine goes_region ?_
      refine lst_run (run_move (by conv => lhs; whnf)) rfl ?_
      refine lst_done ?_
      refine goes_true rfl ?_
      refine goes_skip ?_
      refine goes_block ?_
      refine goes_seq ?_
      refine goes_region ?_
      refine lst_run (run_assign (by conv => lhs; whnf)) rfl ?_
      refine lst_done ?_
      refine goes_seq ?_
      refine goes_region ?_
      refine lst_run (run_fieldAddr (off := 0) rfl rfl) rfl ?_
      first
        | refine lst_run (run_load1_own hS rfl rfl (by first | exact .head | exact .tail .head | exact .tail (.tail .head) | exact .tail (.tail (.tail .head)) | exact .tail (.tail (.tail (.tail .head))) | exact .tail (.tail (.tail (.tail (.tail .head))))) (by repeat constructor)) rfl ?_
        | refine lst_run (run_load1 rfl rfl (by first | assumption | exact hct _ hS | exact hS.cell0 (by assumption) | exact lv_next hS | exact lv_list hS)) rfl ?_
      refine lst_run (run_len_slice rfl rfl rfl) rfl ?_
      refine lst_run (run_move (by conv => lhs; whnf)) rfl ?_
      refine lst_done ?_
      refine goes_block ?_
      refine goes_loop2 42 9 (43 :: 44 :: 45 :: 46 :: 11 :: 10 :: 47 :: 48 :: 49 :: 50 :: 51 :: 52 :: 53 :: 54 :: 55 :: 56 :: 57 :: 58 :: 59 :: 60 :: 61 :: 62 :: 63 :: 64 :: 65 :: 66 :: 12 :: 67 :: 68 :: 69 :: 70 :: 71 :: 72 :: 73 :: 74 :: 75 :: 78 :: 79 :: 80 :: 81 :: 82 :: 83 :: 84 :: 85 :: 86 :: 87 :: 88 :: 89 :: 76 :: 77 :: 90 :: []) (fun (Q : List HC) v u w' => ∃ (E : List HC) (M1 : List Bool) (m1 : Bool), h.cs = E ++ Q ∧ v = .int .i64 (E.length : Nat) ∧ u = .bool m1 ∧ Pass h.cs R (Mk.count false) M1 m1 ∧ (m1 = false → Below_ h.cs M1 E.length) ∧ St M w0 ((rb, bbob M1) :: (b1, hob A h.cs.length c B h.tr.length d) :: H) F w') (fun Q => Q.length) (h.cs) ?_ (by conv => lhs; whnf) (by conv => lhs; whnf) ?_
      · exact ⟨[], Mk, false, rfl, rfl, rfl, ⟨hp.len, hp.snd, hp.rts, Nat.le_refl _, fun h => by cases h⟩, fun _ j c hj => by simp at hj, hS⟩
      clear hS
      rintro Q _ _ w6 jv3 ⟨E, M1, m1, hE, rfl, rfl, hp1, hbl1, hS⟩ ih3
      have hlen2 : h.cs.length = E.length + Q.length := by rw [hE]; simp
      have hml1 := hp1.len
      cases Q with
      | nil =>
        simp only [List.length_nil] at hlen2
        refine goes_seq ?_
        refine goes_region ?_
        first
          | refine lst_run (run_lss_yes rfl rfl (by omega)) rfl ?_
          | refine lst_run (run_lss_no rfl rfl (by omega)) rfl ?_
          | refine lst_run (rfl) rfl ?_
        refine lst_done ?_
        refine goes_seq ?_
        refine goes_false rfl ?_
        refine goes_exit rfl ?_
        refine goes_inBlock ?_
        refine ih2 (M1, m1) _ _ _ ?_ ?_ (by conv => lhs; whnf) (by kernel_rfl)
        · have h1 := hp1.le
          have h2 := hp1.lt
          dsimp only
          cases m1 with
          | true => simp at h2 ⊢; omega
          | false => simp; omega
        · exact ⟨rfl, ⟨_, hp1.len, hp1.snd, hp1.rts, hp1.le, fun h => by cases h⟩, fun e => by rw [show h.cs.length = E.length by omega]; exact hbl1 e, hS⟩
      | cons x Q =>
        simp only [List.length_cons] at hlen2
        have hxi : h.cs[E.length]? = some x := by rw [hE]; simp
        have hxh : hat h.cs ((E.length : Nat) : Int) = some x := by rw [hat_nat]; exact hxi
        obtain ⟨bh, oh, rfl⟩ := (hS.und hL).some_ (by omega)
        have hcc : ∀ {H'} w', St M w0 H' F w' → _ := fun w' hS => (hS.und hL).cell hxi
        rw [show E.length = ((E.length : Nat) : Int).toNat by omega] at hcc
        obtain ⟨v, hv⟩ : ∃ v, M1[E.length]? = some v := ⟨M1[E.length]'(by omega), List.getElem?_eq_getElem _⟩
        have hcv : ∀ {L' F'} w', St M w0 L' F' w' → (rb, bbob M1) ∈ L' → w'.cell? ⟨rb, 0 + ((E.length : Nat) : Int).toNat * 1, none⟩ = some (.bool v) := fun w' hS hm => by
          rw [show 0 + ((E.length : Nat) : Int).toNat * 1 = E.length by omega]; exact bool_at hS hm hv
        cases v with
        | false =>
          refine goes_seq ?_
          refine goes_region ?_
          first
            | refine lst_run (run_lss_yes rfl rfl (by omega)) rfl ?_
            | refine lst_run (run_lss_no rfl rfl (by omega)) rfl ?_
            | refine lst_run (rfl) rfl ?_
          refine lst_done ?_
          refine goes_seq ?_
          refine goes_true rfl ?_
          refine goes_skip ?_
          refine goes_seq ?_
          refine goes_block ?_
          refine goes_seq ?_
          refine goes_region ?_
          refine lst_run (run_move (by conv => lhs; whnf)) rfl ?_
          refine lst_run (run_indexAddr (sz := 3) rfl rfl rfl rfl (by omega) (by omega)) rfl ?_
          first
            | refine lst_run (run_loadN_own (k := 3) hS rfl rfl rfl (by first | exact .head | exact .tail .head | exact .tail (.tail .head) | exact .tail (.tail (.tail .head)) | exact .tail (.tail (.tail (.tail .head))) | exact .tail (.tail (.tail (.tail (.tail .head))))) (by repeat constructor)) rfl ?_
            | refine lst_run (run_load3 rfl rfl rfl (by first | assumption | exact (hcc _ hS).1 | exact (hcc _ hS).2.1 | exact (hcc _ hS).2.2 | exact hcv _ hS (.head _) | exact hcv _ hS (.tail _ (.head _)) | exact hS.cell0 (by assumption)) (by first | assumption | exact (hcc _ hS).1 | exact (hcc _ hS).2.1 | exact (hcc _ hS).2.2 | exact hcv _ hS (.head _) | exact hcv _ hS (.tail _ (.head _)) | exact hS.cell0 (by assumption)) (by first | assumption | exact (hcc _ hS).1 | exact (hcc _ hS).2.1 | exact (hcc _ hS).2.2 | exact hcv _ hS (.head _) | exact hcv _ hS (.tail _ (.head _)) | exact hS.cell0 (by assumption))) rfl ?_
          refine lst_alloc (cs := [_, _, _]) hS rfl rfl rfl ?_
          clear hS
          intro b2 wx2 hS
          refine lst_run (run_assign (by conv => lhs; whnf)) rfl ?_
          refine lst_storeN hS rfl (by conv => lhs; whnf) rfl rfl (by first | exact .head | exact .tail .head | exact .tail (.tail .head) | exact .tail (.tail (.tail .head)) | exact .tail (.tail (.tail (.tail .head))) | exact .tail (.tail (.tail (.tail (.tail .head))))) (by repeat constructor) (by first | exact .head | exact .tail .head | exact .tail (.tail .head) | exact .tail (.tail (.tail .head)) | exact .tail (.tail (.tail (.tail .head))) | exact .tail (.tail (.tail (.tail (.tail .head))))) ?_
          clear hS
          intro wx3 hS
          refine lst_done ?_
          refine goes_seq ?_
          refine goes_seq ?_
          refine goes_region ?_
          refine lst_run (run_move (by conv => lhs; whnf)) rfl ?_
          refine lst_run (run_move (by conv => lhs; whnf)) rfl ?_
          refine lst_run (run_indexAddr (sz := 1) rfl rfl rfl rfl (by omega) (by omega)) rfl ?_
          first
            | refine lst_run (run_load1_own hS rfl rfl (by first | exact .head | exact .tail .head | exact .tail (.tail .head) | exact .tail (.tail (.tail .head)) | exact .tail (.tail (.tail (.tail .head))) | exact .tail (.tail (.tail (.tail (.tail .head))))) (by repeat constructor)) rfl ?_
            | refine lst_run (run_load1 rfl rfl (by first | assumption | exact (hcc _ hS).1 | exact (hcc _ hS).2.1 | exact (hcc _ hS).2.2 | exact hcv _ hS (.head _) | exact hcv _ hS (.tail _ (.head _)) | exact hS.cell0 (by assumption) | exact lv_next hS | exact lv_list hS)) rfl ?_
          refine lst_run (rfl) rfl ?_
          refine lst_done ?_
          refine goes_true rfl ?_
          refine goes_exit rfl ?_
          refine goes_region ?_
          refine lst_run (run_add rfl rfl (by omega) (by omega)) rfl ?_
          refine lst_run (run_move (by conv => lhs; whnf)) rfl ?_
          refine lst_done ?_
          refine ih3 Q _ _ _ _ ?_ ?_ (by conv => lhs; whnf) (by conv => lhs; whnf) (by kernel_rfl)
          · simp
          · refine ⟨E ++ [x], M1, m1, by rw [hE]; simp, by simp, rfl, hp1, fun e j cj hj hj2 hj3 => ?_, hS.drop⟩
            simp at hj
            by_cases ej : j = E.length
            · subst ej; rw [hv] at hj2; cases hj2
            · exact hbl1 e j cj (by omega) hj2 hj3
        | true =>
          have hrcE : Rc h.cs R ((E.length : Nat) : Int) := hp1.snd _ hv
          have hgc := goodC_iff (good_hat hgl hxh)
          have hga := argsC_good (good_hat hgl hxh)
          have hext : ∀ {M2 : List Bool} {a : Int}, M2[E.length]? = some true → (M2.set a.toNat true)[E.length]? = some true := fun {M2 a} hq => by
            rw [List.getElem?_set]
            split
            · rw [if_pos]
              rename_i e; rw [e]
              rcases Nat.lt_or_ge E.length M2.length with g | g
              · exact g
              · rw [List.getElem?_eq_none g] at hq; cases hq
            · exact hq
          have hxn : x.k = 0 → isAddr h.cs x.n = true := fun hk => isAddr_iff'.2 (good_ref hgl hxh hk)
          obtain ⟨k, hk⟩ : ∃ k : Nat, argsC x = (k : Nat) := ⟨(argsC x).toNat, by omega⟩
          have hnext : ∀ (M2 : List Bool) (m2 : Bool), (m2 = false → Below_ h.cs M2 E.length ∧ Led h.cs M2 ((E.length : Nat) : Int) x) → (m2 = false → Below_ h.cs M2 (E ++ [x]).length) := fun M2 m2 hq e j cj hj hj2 hj3 => by
            obtain ⟨q1, q2⟩ := hq e
            simp at hj
            by_cases ej : j = E.length
            · subst ej; rw [hxi] at hj3; cases hj3; exact q2
            · exact q1 j cj (by omega) hj2 hj3
          by_cases k0 : x.k = 0
          · have hax := hxn k0
            have hxx := isAddr_iff'.1 hax
            have hA0 : argsC x = 0 := by unfold argsC; rw [if_neg (by omega)]
            by_cases hmk : markAt M1 x.n = true
            · have hcn : ∀ {L' F'} w', St M w0 L' F' w' → (rb, bbob M1) ∈ L' → w'.cell? ⟨rb, 0 + x.n.toNat * 1, none⟩ = some (.bool true) := fun w' hS hm => by
                rw [show 0 + x.n.toNat * 1 = x.n.toNat by omega]; exact bool_at hS hm (markAt_iff.1 hmk)
              refine goes_seq ?_
              refine goes_region ?_
              first
                | refine lst_run (run_lss_yes rfl rfl (by omega)) rfl ?_
                | refine lst_run (run_lss_no rfl rfl (by omega)) rfl ?_
                | refine lst_run (rfl) rfl ?_
              refine lst_done ?_
              refine goes_seq ?_
              refine goes_true rfl ?_
              refine goes_skip ?_
              refine goes_seq ?_
              refine goes_block ?_
              refine goes_seq ?_
              refine goes_region ?_
              refine lst_run (run_move (by conv => lhs; whnf)) rfl ?_
              refine lst_run (run_indexAddr (sz := 3) rfl rfl rfl rfl (by omega) (by omega)) rfl ?_
              first
                | refine lst_run (run_loadN_own (k := 3) hS rfl rfl rfl (by first | exact .head | exact .tail .head | exact .tail (.tail .head) | exact .tail (.tail (.tail .head)) | exact .tail (.tail (.tail (.tail .head))) | exact .tail (.tail (.tail (.tail (.tail .head))))) (by repeat constructor)) rfl ?_
                | refine lst_run (run_load3 rfl rfl rfl (by first | assumption | exact (hcc _ hS).1 | exact (hcc _ hS).2.1 | exact (hcc _ hS).2.2 | exact hcv _ hS (.head _) | exact hcv _ hS (.tail _ (.head _)) | exact hcn _ hS (.tail _ (.head _)) | exact hS.cell0 (by assumption)) (by first | assumption | exact (hcc _ hS).1 | exact (hcc _ hS).2.1 | exact (hcc _ hS).2.2 | exact hcv _ hS (.head _) | exact hcv _ hS (.tail _ (.head _)) | exact hcn _ hS (.tail _ (.head _)) | exact hS.cell0 (by assumption)) (by first | assumption | exact (hcc _ hS).1 | exact (hcc _ hS).2.1 | exact (hcc _ hS).2.2 | exact hcv _ hS (.head _) | exact hcv _ hS (.tail _ (.head _)) | exact hcn _ hS (.tail _ (.head _)) | exact hS.cell0 (by assumption))) rfl ?_
              refine lst_alloc (cs := [_, _, _]) hS rfl rfl rfl ?_
              clear hS
              intro b2 wx2 hS
              refine lst_run (run_assign (by conv => lhs; whnf)) rfl ?_
              refine lst_storeN hS rfl (by conv => lhs; whnf) rfl rfl (by first | exact .head | exact .tail .head | exact .tail (.tail .head) | exact .tail (.tail (.tail .head)) | exact .tail (.tail (.tail (.tail .head))) | exact .tail (.tail (.tail (.tail (.tail .head))))) (by repeat constructor) (by first | exact .head | exact .tail .head | exact .tail (.tail .head) | exact .tail (.tail (.tail .head)) | exact .tail (.tail (.tail (.tail .head))) | exact .tail (.tail (.tail (.tail (.tail .head))))) ?_
              clear hS
              intro wx3 hS
              refine lst_done ?_
              refine goes_seq ?_
              refine goes_seq ?_
              refine goes_region ?_
              refine lst_run (run_move (by conv => lhs; whnf)) rfl ?_
              refine lst_run (run_move (by conv => lhs; whnf)) rfl ?_
              refine lst_run (run_indexAddr (sz := 1) rfl rfl rfl rfl (by omega) (by omega)) rfl ?_
              first
                | refine lst_run (run_load1_own hS rfl rfl (by first | exact .head | exact .tail .head | exact .tail (.tail .head) | exact .tail (.tail (.tail .head)) | exact .tail (.tail (.tail (.tail .head))) | exact .tail (.tail (.tail (.tail (.tail .head))))) (by repeat constructor)) rfl ?_
                | refine lst_run (run_load1 rfl rfl (by first | assumption | exact (hcc _ hS).1 | exact (hcc _ hS).2.1 | exact (hcc _ hS).2.2 | exact hcv _ hS (.head _) | exact hcv _ hS (.tail _ (.head _)) | exact hcn _ hS (.tail _ (.head _)) | exact hS.cell0 (by assumption) | exact lv_next hS | exact lv_list hS)) rfl ?_
              refine lst_run (rfl) rfl ?_
              refine lst_done ?_
              refine goes_false rfl ?_
              refine goes_skip ?_
              refine goes_seq ?_
              refine goes_seq ?_
              refine goes_region ?_
              refine lst_run (run_fieldAddr (off := 0) rfl rfl) rfl ?_
              first
                | refine lst_run (run_load1_own hS rfl rfl (by first | exact .head | exact .tail .head | exact .tail (.tail .head) | exact .tail (.tail (.tail .head)) | exact .tail (.tail (.tail (.tail .head))) | exact .tail (.tail (.tail (.tail (.tail .head))))) (by repeat constructor)) rfl ?_
                | refine lst_run (run_load1 rfl rfl (by first | assumption | exact (hcc _ hS).1 | exact (hcc _ hS).2.1 | exact (hcc _ hS).2.2 | exact hcv _ hS (.head _) | exact hcv _ hS (.tail _ (.head _)) | exact hcn _ hS (.tail _ (.head _)) | exact hS.cell0 (by assumption) | exact lv_next hS | exact lv_list hS)) rfl ?_
              first
                | refine lst_run (run_eql_one_int rfl rfl) rfl ?_
                | refine lst_run (run_eql_no rfl rfl (by first | assumption | omega)) rfl ?_
                | refine lst_run (run_eql_yes rfl rfl (by omega)) rfl ?_
                | refine lst_run (rfl) rfl ?_
              refine lst_run (run_move (by conv => lhs; whnf)) rfl ?_
              refine lst_guard rfl rfl ?_
              refine lst_run (run_move (by conv => lhs; whnf)) rfl ?_
              refine lst_guard rfl rfl ?_
              refine lst_run (run_fieldAddr (off := 1) rfl rfl) rfl ?_
              refine lst_guard rfl rfl ?_
              first
                | refine lst_run (run_load1_own hS rfl rfl (by first | exact .head | exact .tail .head | exact .tail (.tail .head) | exact .tail (.tail (.tail .head)) | exact .tail (.tail (.tail (.tail .head))) | exact .tail (.tail (.tail (.tail (.tail .head))))) (by repeat constructor)) rfl ?_
                | refine lst_run (run_load1 rfl rfl (by first | assumption | exact (hcc _ hS).1 | exact (hcc _ hS).2.1 | exact (hcc _ hS).2.2 | exact hcv _ hS (.head _) | exact hcv _ hS (.tail _ (.head _)) | exact hcn _ hS (.tail _ (.head _)) | exact hS.cell0 (by assumption) | exact lv_next hS | exact lv_list hS)) rfl ?_
              refine lst_guard rfl rfl ?_
              refine lst_run (run_indexAddr (sz := 1) rfl rfl rfl rfl (by omega) (by omega)) rfl ?_
              refine lst_guard rfl rfl ?_
              first
                | refine lst_run (run_load1_own hS rfl rfl (by first | exact .head | exact .tail .head | exact .tail (.tail .head) | exact .tail (.tail (.tail .head)) | exact .tail (.tail (.tail (.tail .head))) | exact .tail (.tail (.tail (.tail (.tail .head))))) (by repeat constructor)) rfl ?_
                | refine lst_run (run_load1 rfl rfl (by first | assumption | exact (hcc _ hS).1 | exact (hcc _ hS).2.1 | exact (hcc _ hS).2.2 | exact hcv _ hS (.head _) | exact hcv _ hS (.tail _ (.head _)) | exact hcn _ hS (.tail _ (.head _)) | exact hS.cell0 (by assumption) | exact lv_next hS | exact lv_list hS)) rfl ?_
              refine lst_guard rfl rfl ?_
              refine lst_run (rfl) rfl ?_
              first
                | refine lst_run (run_pick_t rfl (by conv => lhs; whnf)) rfl ?_
                | refine lst_run (run_pick_f rfl (by conv => lhs; whnf)) rfl ?_
              refine lst_done ?_
              refine goes_false rfl ?_
              refine goes_skip ?_
              refine goes_seq ?_
              refine goes_region ?_
              refine lst_run (run_assign (by conv => lhs; whnf)) rfl ?_
              refine lst_done ?_
              refine goes_block ?_
              refine goes_loop2 12 9 (67 :: 68 :: 69 :: 70 :: 71 :: 72 :: 73 :: 74 :: 75 :: 78 :: 79 :: 80 :: 81 :: 82 :: 83 :: 84 :: 85 :: 86 :: 87 :: 88 :: 89 :: 76 :: 77 :: []) (fun (_ : Unit) v u w' => v = .int .i64 1 ∧ u = .bool m1 ∧ St M w0 ((b2, .cells (hcs x).toArray 59) :: (rb, bbob M1) :: (b1, hob (some ⟨bh, oh, none⟩) h.cs.length c B h.tr.length d) :: H) F w') (fun _ => 0) (()) ?_ (by conv => lhs; whnf) (by conv => lhs; whnf) ?_
              · exact ⟨rfl, rfl, hS⟩
              clear hS
              rintro _ _ _ w7 jv4 ⟨rfl, rfl, hS⟩ ih4
              refine goes_seq ?_
              refine goes_seq ?_
              refine goes_region ?_
              refine lst_run (run_fieldAddr (off := 0) rfl rfl) rfl ?_
              first
                | refine lst_run (run_load1_own hS rfl rfl (by first | exact .head | exact .tail .head | exact .tail (.tail .head) | exact .tail (.tail (.tail .head)) | exact .tail (.tail (.tail (.tail .head))) | exact .tail (.tail (.tail (.tail (.tail .head))))) (by repeat constructor)) rfl ?_
                | refine lst_run (run_load1 rfl rfl (by first | assumption | exact (hcc _ hS).1 | exact (hcc _ hS).2.1 | exact (hcc _ hS).2.2 | exact hcv _ hS (.head _) | exact hcv _ hS (.tail _ (.head _)) | exact hcn _ hS (.tail _ (.head _)) | exact hS.cell0 (by assumption) | exact lv_next hS | exact lv_list hS)) rfl ?_
              first
                | refine lst_run (run_eql_one_int rfl rfl) rfl ?_
                | refine lst_run (run_eql_no rfl rfl (by first | assumption | omega)) rfl ?_
                | refine lst_run (run_eql_yes rfl rfl (by omega)) rfl ?_
                | refine lst_run (rfl) rfl ?_
              refine lst_run (run_move (by conv => lhs; whnf)) rfl ?_
              refine lst_pass rfl rfl rfl ?_
              refine lst_pass rfl rfl rfl ?_
              refine lst_pass rfl rfl rfl ?_
              refine lst_pass rfl rfl rfl ?_
              first
                | refine lst_run (run_pick_t rfl (by conv => lhs; whnf)) rfl ?_
                | refine lst_run (run_pick_f rfl (by conv => lhs; whnf)) rfl ?_
              refine lst_done ?_
              refine goes_false rfl ?_
              refine goes_exit rfl ?_
              refine goes_inBlock ?_
              refine goes_region ?_
              refine lst_run (run_add rfl rfl (by omega) (by omega)) rfl ?_
              refine lst_run (run_move (by conv => lhs; whnf)) rfl ?_
              refine lst_done ?_
              refine ih3 Q _ _ _ _ ?_ ?_ (by conv => lhs; whnf) (by conv => lhs; whnf) (by kernel_rfl)
              · simp
              · exact ⟨E ++ [x], M1, m1, by rw [hE]; simp, by simp, rfl, hp1, hnext M1 m1 fun e => ⟨hbl1 e, fun _ => hmk, fun q q0 q1 => by omega⟩, hS.drop⟩
            · have hmf := mark_false hml1 hxx.1 hxx.2 hmk
              have hcn : ∀ {L' F'} w', St M w0 L' F' w' → (rb, bbob M1) ∈ L' → w'.cell? ⟨rb, 0 + x.n.toNat * 1, none⟩ = some (.bool false) := fun w' hS hm => by
                rw [show 0 + x.n.toNat * 1 = x.n.toNat by omega]; exact bool_at hS hm hmf
              have hput := boolsV_put M1 x.n.toNat true (by omega)
              refine goes_seq ?_
              refine goes_region ?_
              first
                | refine lst_run (run_lss_yes rfl rfl (by omega)) rfl ?_
                | refine lst_run (run_lss_no rfl rfl (by omega)) rfl ?_
                | refine lst_run (rfl) rfl ?_
              refine lst_done ?_
              refine goes_seq ?_
              refine goes_true rfl ?_
              refine goes_skip ?_
              refine goes_seq ?_
              refine goes_block ?_
              refine goes_seq ?_
              refine goes_region ?_
              refine lst_run (run_move (by conv => lhs; whnf)) rfl ?_
              refine lst_run (run_indexAddr (sz := 3) rfl rfl rfl rfl (by omega) (by omega)) rfl ?_
              first
                | refine lst_run (run_loadN_own (k := 3) hS rfl rfl rfl (by first | exact .head | exact .tail .head | exact .tail (.tail .head) | exact .tail (.tail (.tail .head)) | exact .tail (.tail (.tail (.tail .head))) | exact .tail (.tail (.tail (.tail (.tail .head))))) (by repeat constructor)) rfl ?_
                | refine lst_run (run_load3 rfl rfl rfl (by first | assumption | exact (hcc _ hS).1 | exact (hcc _ hS).2.1 | exact (hcc _ hS).2.2 | exact hcv _ hS (.head _) | exact hcv _ hS (.tail _ (.head _)) | exact hcn _ hS (.tail _ (.head _)) | exact hS.cell0 (by assumption)) (by first | assumption | exact (hcc _ hS).1 | exact (hcc _ hS).2.1 | exact (hcc _ hS).2.2 | exact hcv _ hS (.head _) | exact hcv _ hS (.tail _ (.head _)) | exact hcn _ hS (.tail _ (.head _)) | exact hS.cell0 (by assumption)) (by first | assumption | exact (hcc _ hS).1 | exact (hcc _ hS).2.1 | exact (hcc _ hS).2.2 | exact hcv _ hS (.head _) | exact hcv _ hS (.tail _ (.head _)) | exact hcn _ hS (.tail _ (.head _)) | exact hS.cell0 (by assumption))) rfl ?_
              refine lst_alloc (cs := [_, _, _]) hS rfl rfl rfl ?_
              clear hS
              intro b2 wx2 hS
              refine lst_run (run_assign (by conv => lhs; whnf)) rfl ?_
              refine lst_storeN hS rfl (by conv => lhs; whnf) rfl rfl (by first | exact .head | exact .tail .head | exact .tail (.tail .head) | exact .tail (.tail (.tail .head)) | exact .tail (.tail (.tail (.tail .head))) | exact .tail (.tail (.tail (.tail (.tail .head))))) (by repeat constructor) (by first | exact .head | exact .tail .head | exact .tail (.tail .head) | exact .tail (.tail (.tail .head)) | exact .tail (.tail (.tail (.tail .head))) | exact .tail (.tail (.tail (.tail (.tail .head))))) ?_
              clear hS
              intro wx3 hS
              refine lst_done ?_
              refine goes_seq ?_
              refine goes_seq ?_
              refine goes_region ?_
              refine lst_run (run_move (by conv => lhs; whnf)) rfl ?_
              refine lst_run (run_move (by conv => lhs; whnf)) rfl ?_
              refine lst_run (run_indexAddr (sz := 1) rfl rfl rfl rfl (by omega) (by omega)) rfl ?_
              first
                | refine lst_run (run_load1_own hS rfl rfl (by first | exact .head | exact .tail .head | exact .tail (.tail .head) | exact .tail (.tail (.tail .head)) | exact .tail (.tail (.tail (.tail .head))) | exact .tail (.tail (.tail (.tail (.tail .head))))) (by repeat constructor)) rfl ?_
                | refine lst_run (run_load1 rfl rfl (by first | assumption | exact (hcc _ hS).1 | exact (hcc _ hS).2.1 | exact (hcc _ hS).2.2 | exact hcv _ hS (.head _) | exact hcv _ hS (.tail _ (.head _)) | exact hcn _ hS (.tail _ (.head _)) | exact hS.cell0 (by assumption) | exact lv_next hS | exact lv_list hS)) rfl ?_
              refine lst_run (rfl) rfl ?_
              refine lst_done ?_
              refine goes_false rfl ?_
              refine goes_skip ?_
              refine goes_seq ?_
              refine goes_seq ?_
              refine goes_region ?_
              refine lst_run (run_fieldAddr (off := 0) rfl rfl) rfl ?_
              first
                | refine lst_run (run_load1_own hS rfl rfl (by first | exact .head | exact .tail .head | exact .tail (.tail .head) | exact .tail (.tail (.tail .head)) | exact .tail (.tail (.tail (.tail .head))) | exact .tail (.tail (.tail (.tail (.tail .head))))) (by repeat constructor)) rfl ?_
                | refine lst_run (run_load1 rfl rfl (by first | assumption | exact (hcc _ hS).1 | exact (hcc _ hS).2.1 | exact (hcc _ hS).2.2 | exact hcv _ hS (.head _) | exact hcv _ hS (.tail _ (.head _)) | exact hcn _ hS (.tail _ (.head _)) | exact hS.cell0 (by assumption) | exact lv_next hS | exact lv_list hS)) rfl ?_
              first
                | refine lst_run (run_eql_one_int rfl rfl) rfl ?_
                | refine lst_run (run_eql_no rfl rfl (by first | assumption | omega)) rfl ?_
                | refine lst_run (run_eql_yes rfl rfl (by omega)) rfl ?_
                | refine lst_run (rfl) rfl ?_
              refine lst_run (run_move (by conv => lhs; whnf)) rfl ?_
              refine lst_guard rfl rfl ?_
              refine lst_run (run_move (by conv => lhs; whnf)) rfl ?_
              refine lst_guard rfl rfl ?_
              refine lst_run (run_fieldAddr (off := 1) rfl rfl) rfl ?_
              refine lst_guard rfl rfl ?_
              first
                | refine lst_run (run_load1_own hS rfl rfl (by first | exact .head | exact .tail .head | exact .tail (.tail .head) | exact .tail (.tail (.tail .head)) | exact .tail (.tail (.tail (.tail .head))) | exact .tail (.tail (.tail (.tail (.tail .head))))) (by repeat constructor)) rfl ?_
                | refine lst_run (run_load1 rfl rfl (by first | assumption | exact (hcc _ hS).1 | exact (hcc _ hS).2.1 | exact (hcc _ hS).2.2 | exact hcv _ hS (.head _) | exact hcv _ hS (.tail _ (.head _)) | exact hcn _ hS (.tail _ (.head _)) | exact hS.cell0 (by assumption) | exact lv_next hS | exact lv_list hS)) rfl ?_
              refine lst_guard rfl rfl ?_
              refine lst_run (run_indexAddr (sz := 1) rfl rfl rfl rfl (by omega) (by omega)) rfl ?_
              refine lst_guard rfl rfl ?_
              first
                | refine lst_run (run_load1_own hS rfl rfl (by first | exact .head | exact .tail .head | exact .tail (.tail .head) | exact .tail (.tail (.tail .head)) | exact .tail (.tail (.tail (.tail .head))) | exact .tail (.tail (.tail (.tail (.tail .head))))) (by repeat constructor)) rfl ?_
                | refine lst_run (run_load1 rfl rfl (by first | assumption | exact (hcc _ hS).1 | exact (hcc _ hS).2.1 | exact (hcc _ hS).2.2 | exact hcv _ hS (.head _) | exact hcv _ hS (.tail _ (.head _)) | exact hcn _ hS (.tail _ (.head _)) | exact hS.cell0 (by assumption) | exact lv_next hS | exact lv_list hS)) rfl ?_
              refine lst_guard rfl rfl ?_
              refine lst_run (rfl) rfl ?_
              first
                | refine lst_run (run_pick_t rfl (by conv => lhs; whnf)) rfl ?_
                | refine lst_run (run_pick_f rfl (by conv => lhs; whnf)) rfl ?_
              refine lst_done ?_
              refine goes_true rfl ?_
              refine goes_region ?_
              refine lst_run (run_move (by conv => lhs; whnf)) rfl ?_
              refine lst_run (run_fieldAddr (off := 1) rfl rfl) rfl ?_
              first
                | refine lst_run (run_load1_own hS rfl rfl (by first | exact .head | exact .tail .head | exact .tail (.tail .head) | exact .tail (.tail (.tail .head)) | exact .tail (.tail (.tail (.tail .head))) | exact .tail (.tail (.tail (.tail (.tail .head))))) (by repeat constructor)) rfl ?_
                | refine lst_run (run_load1 rfl rfl (by first | assumption | exact (hcc _ hS).1 | exact (hcc _ hS).2.1 | exact (hcc _ hS).2.2 | exact hcv _ hS (.head _) | exact hcv _ hS (.tail _ (.head _)) | exact hcn _ hS (.tail _ (.head _)) | exact hS.cell0 (by assumption) | exact lv_next hS | exact lv_list hS)) rfl ?_
              refine lst_run (run_indexAddr (sz := 1) rfl rfl rfl rfl (by omega) (by omega)) rfl ?_
              refine lst_store1 hS rfl (by conv => lhs; whnf) rfl rfl (.tail .head) (by rw [Nat.zero_add, Nat.mul_one]; exact hput) (.tail .head) ?_
              clear hS
              intro w7 hS
              refine lst_run (run_assign (by conv => lhs; whnf)) rfl ?_
              refine lst_done ?_
              refine goes_seq ?_
              refine goes_region ?_
              refine lst_run (run_assign (by conv => lhs; whnf)) rfl ?_
              refine lst_done ?_
              refine goes_block ?_
              have hp2 := hp1.mark hax (Rc.ref hrcE hxh k0) hmf
              refine goes_loop2 12 9 (67 :: 68 :: 69 :: 70 :: 71 :: 72 :: 73 :: 74 :: 75 :: 78 :: 79 :: 80 :: 81 :: 82 :: 83 :: 84 :: 85 :: 86 :: 87 :: 88 :: 89 :: 76 :: 77 :: []) (fun (_ : Unit) v u w' => v = .int .i64 1 ∧ u = .bool true ∧ St M w0 ((b2, .cells (hcs x).toArray 59) :: (rb, bbob (M1.set x.n.toNat true)) :: (b1, hob (some ⟨bh, oh, none⟩) h.cs.length c B h.tr.length d) :: H) F w') (fun _ => 0) (()) ?_ (by conv => lhs; whnf) (by conv => lhs; whnf) ?_
              · exact ⟨rfl, rfl, hS⟩
              clear hS
              rintro _ _ _ w8 jv4 ⟨rfl, rfl, hS⟩ ih4
              refine goes_seq ?_
              refine goes_seq ?_
              refine goes_region ?_
              refine lst_run (run_fieldAddr (off := 0) rfl rfl) rfl ?_
              first
                | refine lst_run (run_load1_own hS rfl rfl (by first | exact .head | exact .tail .head | exact .tail (.tail .head) | exact .tail (.tail (.tail .head)) | exact .tail (.tail (.tail (.tail .head))) | exact .tail (.tail (.tail (.tail (.tail .head))))) (by repeat constructor)) rfl ?_
                | refine lst_run (run_load1 rfl rfl (by first | assumption | exact (hcc _ hS).1 | exact (hcc _ hS).2.1 | exact (hcc _ hS).2.2 | exact hcv _ hS (.head _) | exact hcv _ hS (.tail _ (.head _)) | exact hcn _ hS (.tail _ (.head _)) | exact hS.cell0 (by assumption) | exact lv_next hS | exact lv_list hS)) rfl ?_
              first
                | refine lst_run (run_eql_one_int rfl rfl) rfl ?_
                | refine lst_run (run_eql_no rfl rfl (by first | assumption | omega)) rfl ?_
                | refine lst_run (run_eql_yes rfl rfl (by omega)) rfl ?_
                | refine lst_run (rfl) rfl ?_
              refine lst_run (run_move (by conv => lhs; whnf)) rfl ?_
              refine lst_pass rfl rfl rfl ?_
              refine lst_pass rfl rfl rfl ?_
              refine lst_pass rfl rfl rfl ?_
              refine lst_pass rfl rfl rfl ?_
              first
                | refine lst_run (run_pick_t rfl (by conv => lhs; whnf)) rfl ?_
                | refine lst_run (run_pick_f rfl (by conv => lhs; whnf)) rfl ?_
              refine lst_done ?_
              refine goes_false rfl ?_
              refine goes_exit rfl ?_
              refine goes_inBlock ?_
              refine goes_region ?_
              refine lst_run (run_add rfl rfl (by omega) (by omega)) rfl ?_
              refine lst_run (run_move (by conv => lhs; whnf)) rfl ?_
              refine lst_done ?_
              refine ih3 Q _ _ _ _ ?_ ?_ (by conv => lhs; whnf) (by conv => lhs; whnf) (by kernel_rfl)
              · simp
              · exact ⟨E ++ [x], _, true, by rw [hE]; simp, by simp, rfl, hp2, fun e => (by cases e), hS.drop⟩
          · refine goes_seq ?_
            refine goes_region ?_
            first
              | refine lst_run (run_lss_yes rfl rfl (by omega)) rfl ?_
              | refine lst_run (run_lss_no rfl rfl (by omega)) rfl ?_
              | refine lst_run (rfl) rfl ?_
            refine lst_done ?_
            refine goes_seq ?_
            refine goes_true rfl ?_
            refine goes_skip ?_
            refine goes_seq ?_
            refine goes_block ?_
            refine goes_seq ?_
            refine goes_region ?_
            refine lst_run (run_move (by conv => lhs; whnf)) rfl ?_
            refine lst_run (run_indexAddr (sz := 3) rfl rfl rfl rfl (by omega) (by omega)) rfl ?_
            first
              | refine lst_run (run_loadN_own (k := 3) hS rfl rfl rfl (by first | exact .head | exact .tail .head | exact .tail (.tail .head) | exact .tail (.tail (.tail .head)) | exact .tail (.tail (.tail (.tail .head))) | exact .tail (.tail (.tail (.tail (.tail .head))))) (by repeat constructor)) rfl ?_
              | refine lst_run (run_load3 rfl rfl rfl (by first | assumption | exact (hcc _ hS).1 | exact (hcc _ hS).2.1 | exact (hcc _ hS).2.2 | exact hcv _ hS (.head _) | exact hcv _ hS (.tail _ (.head _)) | exact hcn _ hS (.tail _ (.head _)) | exact hS.cell0 (by assumption)) (by first | assumption | exact (hcc _ hS).1 | exact (hcc _ hS).2.1 | exact (hcc _ hS).2.2 | exact hcv _ hS (.head _) | exact hcv _ hS (.tail _ (.head _)) | exact hcn _ hS (.tail _ (.head _)) | exact hS.cell0 (by assumption)) (by first | assumption | exact (hcc _ hS).1 | exact (hcc _ hS).2.1 | exact (hcc _ hS).2.2 | exact hcv _ hS (.head _) | exact hcv _ hS (.tail _ (.head _)) | exact hcn _ hS (.tail _ (.head _)) | exact hS.cell0 (by assumption))) rfl ?_
            refine lst_alloc (cs := [_, _, _]) hS rfl rfl rfl ?_
            clear hS
            intro b2 wx2 hS
            refine lst_run (run_assign (by conv => lhs; whnf)) rfl ?_
            refine lst_storeN hS rfl (by conv => lhs; whnf) rfl rfl (by first | exact .head | exact .tail .head | exact .tail (.tail .head) | exact .tail (.tail (.tail .head)) | exact .tail (.tail (.tail (.tail .head))) | exact .tail (.tail (.tail (.tail (.tail .head))))) (by repeat constructor) (by first | exact .head | exact .tail .head | exact .tail (.tail .head) | exact .tail (.tail (.tail .head)) | exact .tail (.tail (.tail (.tail .head))) | exact .tail (.tail (.tail (.tail (.tail .head))))) ?_
            clear hS
            intro wx3 hS
            refine lst_done ?_
            refine goes_seq ?_
            refine goes_seq ?_
            refine goes_region ?_
            refine lst_run (run_move (by conv => lhs; whnf)) rfl ?_
            refine lst_run (run_move (by conv => lhs; whnf)) rfl ?_
            refine lst_run (run_indexAddr (sz := 1) rfl rfl rfl rfl (by omega) (by omega)) rfl ?_
            first
              | refine lst_run (run_load1_own hS rfl rfl (by first | exact .head | exact .tail .head | exact .tail (.tail .head) | exact .tail (.tail (.tail .head)) | exact .tail (.tail (.tail (.tail .head))) | exact .tail (.tail (.tail (.tail (.tail .head))))) (by repeat constructor)) rfl ?_
              | refine lst_run (run_load1 rfl rfl (by first | assumption | exact (hcc _ hS).1 | exact (hcc _ hS).2.1 | exact (hcc _ hS).2.2 | exact hcv _ hS (.head _) | exact hcv _ hS (.tail _ (.head _)) | exact hcn _ hS (.tail _ (.head _)) | exact hS.cell0 (by assumption) | exact lv_next hS | exact lv_list hS)) rfl ?_
            refine lst_run (rfl) rfl ?_
            refine lst_done ?_
            refine goes_false rfl ?_
            refine goes_skip ?_
            refine goes_seq ?_
            refine goes_seq ?_
            refine goes_region ?_
            refine lst_run (run_fieldAddr (off := 0) rfl rfl) rfl ?_
            first
              | refine lst_run (run_load1_own hS rfl rfl (by first | exact .head | exact .tail .head | exact .tail (.tail .head) | exact .tail (.tail (.tail .head)) | exact .tail (.tail (.tail (.tail .head))) | exact .tail (.tail (.tail (.tail (.tail .head))))) (by repeat constructor)) rfl ?_
              | refine lst_run (run_load1 rfl rfl (by first | assumption | exact (hcc _ hS).1 | exact (hcc _ hS).2.1 | exact (hcc _ hS).2.2 | exact hcv _ hS (.head _) | exact hcv _ hS (.tail _ (.head _)) | exact hcn _ hS (.tail _ (.head _)) | exact hS.cell0 (by assumption) | exact lv_next hS | exact lv_list hS)) rfl ?_
            first
              | refine lst_run (run_eql_one_int rfl rfl) rfl ?_
              | refine lst_run (run_eql_no rfl rfl (by first | assumption | omega)) rfl ?_
              | refine lst_run (run_eql_yes rfl rfl (by omega)) rfl ?_
              | refine lst_run (rfl) rfl ?_
            refine lst_run (run_move (by conv => lhs; whnf)) rfl ?_
            refine lst_pass rfl rfl rfl ?_
            refine lst_pass rfl rfl rfl ?_
            refine lst_pass rfl rfl rfl ?_
            refine lst_pass rfl rfl rfl ?_
            refine lst_pass rfl rfl rfl ?_
            refine lst_pass rfl rfl rfl ?_
            first
              | refine lst_run (run_pick_t rfl (by conv => lhs; whnf)) rfl ?_
              | refine lst_run (run_pick_f rfl (by conv => lhs; whnf)) rfl ?_
            refine lst_done ?_
            refine goes_false rfl ?_
            refine goes_skip ?_
            refine goes_seq ?_
            refine goes_region ?_
            refine lst_run (run_assign (by conv => lhs; whnf)) rfl ?_
            refine lst_done ?_
            refine goes_block ?_
            refine goes_loop2 12 9 (67 :: 68 :: 69 :: 70 :: 71 :: 72 :: 73 :: 74 :: 75 :: 78 :: 79 :: 80 :: 81 :: 82 :: 83 :: 84 :: 85 :: 86 :: 87 :: 88 :: 89 :: 76 :: 77 :: []) (fun (j : Nat) v u w' => ∃ (M3 : List Bool) (m3 : Bool) (i : Nat), i + j = k ∧ v = .int .i64 ((i : Int) + 1) ∧ u = .bool m3 ∧ Pass h.cs R (Mk.count false) M3 m3 ∧ (m3 = false → Below_ h.cs M3 E.length ∧ ∀ q : Int, 0 ≤ q → q < i → markAt M3 (((E.length : Nat) : Int) + 1 + q) = true) ∧ St M w0 ((b2, .cells (hcs x).toArray 59) :: (rb, bbob M3) :: (b1, hob (some ⟨bh, oh, none⟩) h.cs.length c B h.tr.length d) :: H) F w') (fun j => j) (k) ?_ (by conv => lhs; whnf) (by conv => lhs; whnf) ?_
            · exact ⟨M1, m1, 0, by omega, rfl, rfl, hp1, fun e => ⟨hbl1 e, fun q q0 q1 => by omega⟩, hS⟩
            clear hS
            rintro j _ _ w7 jv4 ⟨M3, m3, i, hij, rfl, rfl, hp3, hbl3, hS⟩ ih4
            have hml3 := hp3.len
            cases j with
            | zero =>
              have hend : ∀ w', St M w0 ((b2, .cells (hcs x).toArray 59) :: (rb, bbob M3) :: (b1, hob (some ⟨bh, oh, none⟩) h.cs.length c B h.tr.length d) :: H) F w' → ∃ (E' : List HC) (M1' : List Bool) (m1' : Bool), h.cs = E' ++ Q ∧ Value.int .i64 (((E.length : Nat) : Int) + 1) = .int .i64 (E'.length : Nat) ∧ Value.bool m3 = .bool m1' ∧ Pass h.cs R (Mk.count false) M1' m1' ∧ (m1' = false → Below_ h.cs M1' E'.length) ∧ St M w0 ((rb, bbob M1') :: (b1, hob (some ⟨bh, oh, none⟩) h.cs.length c B h.tr.length d) :: H) F w' := fun w' hS =>
                ⟨E ++ [x], M3, m3, by rw [hE]; simp, by simp, rfl, hp3, hnext M3 m3 fun e => ⟨(hbl3 e).1, fun e2 => absurd e2 k0, fun q q0 q1 => (hbl3 e).2 q q0 (by omega)⟩, hS.drop⟩
              by_cases k3 : x.k = 3
              · have hx3 : x.n = (k : Nat) := by unfold argsC at hk; rw [if_pos k3] at hk; exact hk
                refine goes_seq ?_
                refine goes_seq ?_
                refine goes_region ?_
                refine lst_run (run_fieldAddr (off := 0) rfl rfl) rfl ?_
                first
                  | refine lst_run (run_load1_own hS rfl rfl (by first | exact .head | exact .tail .head | exact .tail (.tail .head) | exact .tail (.tail (.tail .head)) | exact .tail (.tail (.tail (.tail .head))) | exact .tail (.tail (.tail (.tail (.tail .head))))) (by repeat constructor)) rfl ?_
                  | refine lst_run (run_load1 rfl rfl (by first | assumption | exact (hcc _ hS).1 | exact (hcc _ hS).2.1 | exact (hcc _ hS).2.2 | exact hcv _ hS (.head _) | exact hcv _ hS (.tail _ (.head _)) | exact hcn _ hS (.tail _ (.head _)) | exact hS.cell0 (by assumption) | exact lv_next hS | exact lv_list hS)) rfl ?_
                first
                  | refine lst_run (run_eql_one_int rfl rfl) rfl ?_
                  | refine lst_run (run_eql_no rfl rfl (by first | assumption | omega)) rfl ?_
                  | refine lst_run (run_eql_yes rfl rfl (by omega)) rfl ?_
                  | refine lst_run (rfl) rfl ?_
                refine lst_run (run_move (by conv => lhs; whnf)) rfl ?_
                refine lst_guard rfl rfl ?_
                refine lst_run (run_move (by conv => lhs; whnf)) rfl ?_
                refine lst_guard rfl rfl ?_
                refine lst_run (run_fieldAddr (off := 1) rfl rfl) rfl ?_
                refine lst_guard rfl rfl ?_
                first
                  | refine lst_run (run_load1_own hS rfl rfl (by first | exact .head | exact .tail .head | exact .tail (.tail .head) | exact .tail (.tail (.tail .head)) | exact .tail (.tail (.tail (.tail .head))) | exact .tail (.tail (.tail (.tail (.tail .head))))) (by repeat constructor)) rfl ?_
                  | refine lst_run (run_load1 rfl rfl (by first | assumption | exact (hcc _ hS).1 | exact (hcc _ hS).2.1 | exact (hcc _ hS).2.2 | exact hcv _ hS (.head _) | exact hcv _ hS (.tail _ (.head _)) | exact hcn _ hS (.tail _ (.head _)) | exact hS.cell0 (by assumption) | exact lv_next hS | exact lv_list hS)) rfl ?_
                refine lst_guard rfl rfl ?_
                first
                  | refine lst_run (run_leq_yes rfl rfl (by omega)) rfl ?_
                  | refine lst_run (run_leq_no rfl rfl (by omega)) rfl ?_
                  | refine lst_run (rfl) rfl ?_
                first
                  | refine lst_run (run_pick_t rfl (by conv => lhs; whnf)) rfl ?_
                  | refine lst_run (run_pick_f rfl (by conv => lhs; whnf)) rfl ?_
                refine lst_done ?_
                refine goes_false rfl ?_
                refine goes_exit rfl ?_
                refine goes_inBlock ?_
                refine goes_region ?_
                refine lst_run (run_add rfl rfl (by omega) (by omega)) rfl ?_
                refine lst_run (run_move (by conv => lhs; whnf)) rfl ?_
                refine lst_done ?_
                refine ih3 Q _ _ _ _ ?_ ?_ (by conv => lhs; whnf) (by conv => lhs; whnf) (by kernel_rfl)
                · simp
                · exact hend _ hS
              · refine goes_seq ?_
                refine goes_seq ?_
                refine goes_region ?_
                refine lst_run (run_fieldAddr (off := 0) rfl rfl) rfl ?_
                first
                  | refine lst_run (run_load1_own hS rfl rfl (by first | exact .head | exact .tail .head | exact .tail (.tail .head) | exact .tail (.tail (.tail .head)) | exact .tail (.tail (.tail (.tail .head))) | exact .tail (.tail (.tail (.tail (.tail .head))))) (by repeat constructor)) rfl ?_
                  | refine lst_run (run_load1 rfl rfl (by first | assumption | exact (hcc _ hS).1 | exact (hcc _ hS).2.1 | exact (hcc _ hS).2.2 | exact hcv _ hS (.head _) | exact hcv _ hS (.tail _ (.head _)) | exact hcn _ hS (.tail _ (.head _)) | exact hS.cell0 (by assumption) | exact lv_next hS | exact lv_list hS)) rfl ?_
                first
                  | refine lst_run (run_eql_one_int rfl rfl) rfl ?_
                  | refine lst_run (run_eql_no rfl rfl (by first | assumption | omega)) rfl ?_
                  | refine lst_run (run_eql_yes rfl rfl (by omega)) rfl ?_
                  | refine lst_run (rfl) rfl ?_
                refine lst_run (run_move (by conv => lhs; whnf)) rfl ?_
                refine lst_pass rfl rfl rfl ?_
                refine lst_pass rfl rfl rfl ?_
                refine lst_pass rfl rfl rfl ?_
                refine lst_pass rfl rfl rfl ?_
                first
                  | refine lst_run (run_pick_t rfl (by conv => lhs; whnf)) rfl ?_
                  | refine lst_run (run_pick_f rfl (by conv => lhs; whnf)) rfl ?_
                refine lst_done ?_
                refine goes_false rfl ?_
                refine goes_exit rfl ?_
                refine goes_inBlock ?_
                refine goes_region ?_
                refine lst_run (run_add rfl rfl (by omega) (by omega)) rfl ?_
                refine lst_run (run_move (by conv => lhs; whnf)) rfl ?_
                refine lst_done ?_
                refine ih3 Q _ _ _ _ ?_ ?_ (by conv => lhs; whnf) (by conv => lhs; whnf) (by kernel_rfl)
                · simp
                · exact hend _ hS
            | succ j =>
              have k3 : x.k = 3 := by
                rcases hgc with ⟨e, _⟩ | ⟨e, _⟩ | ⟨e, _⟩ | ⟨e, _⟩
                · omega
                · unfold argsC at hk; rw [if_neg (by omega)] at hk; omega
                · unfold argsC at hk; rw [if_neg (by omega)] at hk; omega
                · exact e
              have hx3 : x.n = (k : Nat) := by unfold argsC at hk; rw [if_pos k3] at hk; exact hk
              have hadr : isAddr h.cs (((E.length : Nat) : Int) + 1 + (i : Nat)) = true := isAddr_iff'.2 (by omega)
              have haa := isAddr_iff'.1 hadr
              have hidx : (((E.length : Nat) : Int) + ((i : Int) + 1)).toNat = (((E.length : Nat) : Int) + 1 + (i : Nat)).toNat := by omega
              by_cases hmk : markAt M3 (((E.length : Nat) : Int) + 1 + (i : Nat)) = true
              · have hcn : ∀ {L' F'} w', St M w0 L' F' w' → (rb, bbob M3) ∈ L' → w'.cell? ⟨rb, 0 + (((E.length : Nat) : Int) + ((i : Int) + 1)).toNat * 1, none⟩ = some (.bool true) := fun w' hS hm => by
                  rw [hidx, show 0 + (((E.length : Nat) : Int) + 1 + (i : Nat)).toNat * 1 = (((E.length : Nat) : Int) + 1 + (i : Nat)).toNat by omega]; exact bool_at hS hm (markAt_iff.1 hmk)
                refine goes_seq ?_
                refine goes_seq ?_
                refine goes_region ?_
                refine lst_run (run_fieldAddr (off := 0) rfl rfl) rfl ?_
                first
                  | refine lst_run (run_load1_own hS rfl rfl (by first | exact .head | exact .tail .head | exact .tail (.tail .head) | exact .tail (.tail (.tail .head)) | exact .tail (.tail (.tail (.tail .head))) | exact .tail (.tail (.tail (.tail (.tail .head))))) (by repeat constructor)) rfl ?_
                  | refine lst_run (run_load1 rfl rfl (by first | assumption | exact hcn _ hS (.tail _ (.head _)) | exact hS.cell0 (by assumption) | exact lv_next hS | exact lv_list hS)) rfl ?_
                first
                  | refine lst_run (run_eql_one_int rfl rfl) rfl ?_
                  | refine lst_run (run_eql_no rfl rfl (by first | assumption | omega)) rfl ?_
                  | refine lst_run (run_eql_yes rfl rfl (by omega)) rfl ?_
                  | refine lst_run (rfl) rfl ?_
                refine lst_run (run_move (by conv => lhs; whnf)) rfl ?_
                refine lst_guard rfl rfl ?_
                refine lst_run (run_move (by conv => lhs; whnf)) rfl ?_
                refine lst_guard rfl rfl ?_
                refine lst_run (run_fieldAddr (off := 1) rfl rfl) rfl ?_
                refine lst_guard rfl rfl ?_
                first
                  | refine lst_run (run_load1_own hS rfl rfl (by first | exact .head | exact .tail .head | exact .tail (.tail .head) | exact .tail (.tail (.tail .head)) | exact .tail (.tail (.tail (.tail .head))) | exact .tail (.tail (.tail (.tail (.tail .head))))) (by repeat constructor)) rfl ?_
                  | refine lst_run (run_load1 rfl rfl (by first | assumption | exact hcn _ hS (.tail _ (.head _)) | exact hS.cell0 (by assumption) | exact lv_next hS | exact lv_list hS)) rfl ?_
                refine lst_guard rfl rfl ?_
                first
                  | refine lst_run (run_leq_yes rfl rfl (by omega)) rfl ?_
                  | refine lst_run (run_leq_no rfl rfl (by omega)) rfl ?_
                  | refine lst_run (rfl) rfl ?_
                first
                  | refine lst_run (run_pick_t rfl (by conv => lhs; whnf)) rfl ?_
                  | refine lst_run (run_pick_f rfl (by conv => lhs; whnf)) rfl ?_
                refine lst_done ?_
                refine goes_true rfl ?_
                refine goes_skip ?_
                refine goes_seq ?_
                refine goes_block ?_
                refine goes_seq ?_
                refine goes_region ?_
                refine lst_run (run_move (by conv => lhs; whnf)) rfl ?_
                refine lst_run (run_move (by conv => lhs; whnf)) rfl ?_
                refine lst_run (run_move (by conv => lhs; whnf)) rfl ?_
                refine lst_run (run_add rfl rfl (by omega) (by omega)) rfl ?_
                refine lst_run (run_indexAddr (sz := 1) rfl rfl rfl rfl (by omega) (by omega)) rfl ?_
                first
                  | refine lst_run (run_load1_own hS rfl rfl (by first | exact .head | exact .tail .head | exact .tail (.tail .head) | exact .tail (.tail (.tail .head)) | exact .tail (.tail (.tail (.tail .head))) | exact .tail (.tail (.tail (.tail (.tail .head))))) (by repeat constructor)) rfl ?_
                  | refine lst_run (run_load1 rfl rfl (by first | assumption | exact hcn _ hS (.tail _ (.head _)) | exact hS.cell0 (by assumption) | exact lv_next hS | exact lv_list hS)) rfl ?_
                refine lst_run (rfl) rfl ?_
                refine lst_done ?_
                refine goes_false rfl ?_
                refine goes_skip ?_
                refine goes_inBlock ?_
                refine goes_region ?_
                refine lst_run (run_move (by conv => lhs; whnf)) rfl ?_
                refine lst_run (run_add rfl rfl (by omega) (by omega)) rfl ?_
                refine lst_run (run_assign (by conv => lhs; whnf)) rfl ?_
                refine lst_done ?_
                refine ih4 j _ _ _ _ ?_ ?_ (by conv => lhs; whnf) (by conv => lhs; whnf) (by kernel_rfl)
                · omega
                · refine ⟨M3, m3, i + 1, by omega, by simp, rfl, hp3, fun e => ⟨(hbl3 e).1, fun q q0 q1 => ?_⟩, hS⟩
                  by_cases eq : q = i
                  · subst eq; exact hmk
                  · exact (hbl3 e).2 q q0 (by omega)
              · have hmf := mark_false hml3 haa.1 haa.2 hmk
                have hcn : ∀ {L' F'} w', St M w0 L' F' w' → (rb, bbob M3) ∈ L' → w'.cell? ⟨rb, 0 + (((E.length : Nat) : Int) + ((i : Int) + 1)).toNat * 1, none⟩ = some (.bool false) := fun w' hS hm => by
                  rw [hidx, show 0 + (((E.length : Nat) : Int) + 1 + (i : Nat)).toNat * 1 = (((E.length : Nat) : Int) + 1 + (i : Nat)).toNat by omega]; exact bool_at hS hm hmf
                have hput := boolsV_put M3 (((E.length : Nat) : Int) + 1 + (i : Nat)).toNat true (by omega)
                refine goes_seq ?_
                refine goes_seq ?_
                refine goes_region ?_
                refine lst_run (run_fieldAddr (off := 0) rfl rfl) rfl ?_
                first
                  | refine lst_run (run_load1_own hS rfl rfl (by first | exact .head | exact .tail .head | exact .tail (.tail .head) | exact .tail (.tail (.tail .head)) | exact .tail (.tail (.tail (.tail .head))) | exact .tail (.tail (.tail (.tail (.tail .head))))) (by repeat constructor)) rfl ?_
                  | refine lst_run (run_load1 rfl rfl (by first | assumption | exact hcn _ hS (.tail _ (.head _)) | exact hS.cell0 (by assumption) | exact lv_next hS | exact lv_list hS)) rfl ?_
                first
                  | refine lst_run (run_eql_one_int rfl rfl) rfl ?_
                  | refine lst_run (run_eql_no rfl rfl (by first | assumption | omega)) rfl ?_
                  | refine lst_run (run_eql_yes rfl rfl (by omega)) rfl ?_
                  | refine lst_run (rfl) rfl ?_
                refine lst_run (run_move (by conv => lhs; whnf)) rfl ?_
                refine lst_guard rfl rfl ?_
                refine lst_run (run_move (by conv => lhs; whnf)) rfl ?_
                refine lst_guard rfl rfl ?_
                refine lst_run (run_fieldAddr (off := 1) rfl rfl) rfl ?_
                refine lst_guard rfl rfl ?_
                first
                  | refine lst_run (run_load1_own hS rfl rfl (by first | exact .head | exact .tail .head | exact .tail (.tail .head) | exact .tail (.tail (.tail .head)) | exact .tail (.tail (.tail (.tail .head))) | exact .tail (.tail (.tail (.tail (.tail .head))))) (by repeat constructor)) rfl ?_
                  | refine lst_run (run_load1 rfl rfl (by first | assumption | exact hcn _ hS (.tail _ (.head _)) | exact hS.cell0 (by assumption) | exact lv_next hS | exact lv_list hS)) rfl ?_
                refine lst_guard rfl rfl ?_
                first
                  | refine lst_run (run_leq_yes rfl rfl (by omega)) rfl ?_
                  | refine lst_run (run_leq_no rfl rfl (by omega)) rfl ?_
                  | refine lst_run (rfl) rfl ?_
                first
                  | refine lst_run (run_pick_t rfl (by conv => lhs; whnf)) rfl ?_
                  | refine lst_run (run_pick_f rfl (by conv => lhs; whnf)) rfl ?_
                refine lst_done ?_
                refine goes_true rfl ?_
                refine goes_skip ?_
                refine goes_seq ?_
                refine goes_block ?_
                refine goes_seq ?_
                refine goes_region ?_
                refine lst_run (run_move (by conv => lhs; whnf)) rfl ?_
                refine lst_run (run_move (by conv => lhs; whnf)) rfl ?_
                refine lst_run (run_move (by conv => lhs; whnf)) rfl ?_
                refine lst_run (run_add rfl rfl (by omega) (by omega)) rfl ?_
                refine lst_run (run_indexAddr (sz := 1) rfl rfl rfl rfl (by omega) (by omega)) rfl ?_
                first
                  | refine lst_run (run_load1_own hS rfl rfl (by first | exact .head | exact .tail .head | exact .tail (.tail .head) | exact .tail (.tail (.tail .head)) | exact .tail (.tail (.tail (.tail .head))) | exact .tail (.tail (.tail (.tail (.tail .head))))) (by repeat constructor)) rfl ?_
                  | refine lst_run (run_load1 rfl rfl (by first | assumption | exact hcn _ hS (.tail _ (.head _)) | exact hS.cell0 (by assumption) | exact lv_next hS | exact lv_list hS)) rfl ?_
                refine lst_run (rfl) rfl ?_
                refine lst_done ?_
                refine goes_true rfl ?_
                refine goes_region ?_
                refine lst_run (run_move (by conv => lhs; whnf)) rfl ?_
                refine lst_run (run_move (by conv => lhs; whnf)) rfl ?_
                refine lst_run (run_move (by conv => lhs; whnf)) rfl ?_
                refine lst_run (run_add rfl rfl (by omega) (by omega)) rfl ?_
                refine lst_run (run_indexAddr (sz := 1) rfl rfl rfl rfl (by omega) (by omega)) rfl ?_
                refine lst_store1 hS rfl (by conv => lhs; whnf) rfl rfl (.tail .head) (by rw [hidx, Nat.zero_add, Nat.mul_one]; exact hput) (.tail .head) ?_
                clear hS
                intro w8 hS
                refine lst_run (run_assign (by conv => lhs; whnf)) rfl ?_
                refine lst_done ?_
                refine goes_inBlock ?_
                refine goes_region ?_
                refine lst_run (run_move (by conv => lhs; whnf)) rfl ?_
                refine lst_run (run_add rfl rfl (by omega) (by omega)) rfl ?_
                refine lst_run (run_assign (by conv => lhs; whnf)) rfl ?_
                refine lst_done ?_
                refine ih4 j _ _ _ _ ?_ ?_ (by conv => lhs; whnf) (by conv => lhs; whnf) (by kernel_rfl)
                · omega
                · exact ⟨_, true, i + 1, by omega, by simp, rfl, hp3.mark hadr (Rc.arg hrcE hxh (by omega) (by omega)) hmf, fun e => (by cases e), hS⟩
end
end Go.Proofs.Ytjicoifjgokoiab
