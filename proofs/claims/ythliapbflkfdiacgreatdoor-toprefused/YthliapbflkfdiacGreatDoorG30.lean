/- XWalk18, XInv, Solves, XWalk19, ReadsL, Cuts: texts that follow one another, laid into one file. -/
import Derived.Test.YthliapbflkfdiacGreatDoorG29
import Derived.Test.YthliapbflkfdiacGreatDoorG14
import Derived.Test.YthliapbflkfdiacGreatDoorG25
import Derived.KernelRfl
import Derived.Test.YthliapbflkfdiacGreatDoorG5
import Derived.Test.YthliapbflkfdiacGreatDoorG1
import Derived.Test.YthliapbflkfdiacGreatDoorG20
import Derived.Test.YthliapbflkfdiacGreatDoorG2
import Derived.Lib.ConvBytes
namespace Go.Proofs.YthliapbflkfdiacGreatDoor
open Go.RowKit
set_option linter.unusedVariables false
set_option linter.unusedSimpArgs false
set_option maxRecDepth 100000
set_option maxHeartbeats 1000000
theorem chain_cnt {L : List XL} (hL : LnOk L) : ∀ (f : Nat) (i : Int) (p : List Bool × List Nat), (i = -1 ∨ (0 ≤ i ∧ i < L.length)) → p.1.length = L.length → p.2.length + p.1.count false ≤ L.length → (chainX L f i p).1.length = L.length ∧ (chainX L f i p).2.length + (chainX L f i p).1.count false ≤ L.length
  | 0, i, p, _, h1, h2 => ⟨h1, h2⟩
  | f + 1, i, p, hi, h1, h2 => by
    simp only [chainX]
    by_cases e1 : i = -1
    · rw [if_pos e1]; exact ⟨h1, h2⟩
    rw [if_neg e1]
    by_cases e2 : p.1[i.toNat]? = some true
    · rw [if_pos e2]; exact ⟨h1, h2⟩
    rw [if_neg e2]
    have hi' : 0 ≤ i ∧ i < L.length := hi.resolve_left e1
    have e3 : p.1[i.toNat]? = some false := by
      cases hv : p.1[i.toNat]? with
      | none => rw [List.getElem?_eq_none_iff] at hv; omega
      | some v => cases v with
        | true => exact absurd hv e2
        | false => rfl
    have hcnt := seen_set e3
    exact chain_cnt hL f _ _ (hL _ (List.mem_of_getElem? (lnk_get (L := L) (a := i.toNat) (by omega)))) (by simpa using h1) (by simp only [List.length_append, List.length_cons, List.length_nil]; omega)
theorem chains_cnt {L : List XL} (hL : LnOk L) : ∀ (C : List XC) (p : List Bool × List Nat), (∀ c ∈ C, c.at_ < L.length) → p.1.length = L.length → p.2.length + p.1.count false ≤ L.length → (chainsX L C p).2.length ≤ L.length
  | [], p, _, h1, h2 => by simp only [chainsX]; omega
  | c :: r, p, hC, h1, h2 => by
    simp only [chainsX]
    obtain ⟨a1, a2⟩ := chain_cnt hL (L.length + 1) (c.at_ : Nat) p (.inr ⟨by omega, by have := hC c (.head _); omega⟩) h1 h2
    exact chains_cnt hL r _ (fun c hc => hC c (.tail _ hc)) a1 a2
theorem live_len {x : XS} (hL : LnOk x.ln) (hC : ∀ c ∈ x.ch, c.at_ < x.ln.length) (hf : x.first = -1 ∨ (0 ≤ x.first ∧ x.first < x.ln.length)) : (liveX x).length ≤ x.ln.length := by
  unfold liveX
  obtain ⟨a1, a2⟩ := chain_cnt hL (x.ln.length + 1) x.first (List.replicate x.ln.length false, []) hf (by simp) (by simp)
  exact chains_cnt hL _ _ (fun c hc => hC c (List.mem_reverse.1 hc)) a1 a2
/-- The goals' places of some links. -/
def gsOf (L : List XL) (I : List Nat) : List Int := I.map fun i => (lnk L i).g
theorem setG_len (L : List XL) (i : Nat) (g : Int) : (setG L i g).length = L.length := by simp [setG]
/-- A choice with its bounds as they are behind a collection. -/
def LX.up (f g : Int → Int) (c : LX) : LX := ⟨c.at_, c.cls, c.A, c.c, (f (c.cells : Nat)).toNat, (g (c.bound : Nat)).toNat⟩
theorem modify_mid {α : Type} (D : List α) (c : α) (R : List α) (f : α → α) : (D ++ c :: R).modify D.length f = D ++ f c :: R := by
  induction D with
  | nil => rfl
  | cons d D ih => simp [ih]
theorem intsV_app (a b : List Int) : intsV (a ++ b) = intsV a ++ intsV b := by simp [intsV]
/-- What Collect answers of the machine's heap, told in a way. -/
structure Told (vars : Nat) (x : XS) (h' : HH) (f g : Int → Int) : Prop where
  eq : collectH x.h (rootsX vars x) (x.ch.reverse.map fun c => ((c.cells : Nat) : Int)) (x.ch.reverse.map fun c => ((c.bound : Nat) : Int)) = (h', (rootsX vars x).map f, (x.ch.reverse.map fun c => ((c.cells : Nat) : Int)).map f, (x.ch.reverse.map fun c => ((c.bound : Nat) : Int)).map g, 0)
  fn : ∀ a, 0 ≤ f a
  gn : ∀ a, 0 ≤ g a
/-- A row put anew. -/
theorem Row.anew {el sz g len cap : Nat} {xs' sp : List Value} {xs : List Value} (h : (xs ++ sp).length = cap * sz) (h1 : xs.length = len * sz) (h2 : len ≤ cap) (hp : 0 < len) (hl : xs'.length = xs.length) : Row el sz (.slice (some ⟨g, 0, none⟩) len cap) len xs' [(g, .cells (xs' ++ sp).toArray el)] :=
  Row.own_ (by omega) (by rw [List.length_append] at h ⊢; omega) h2 (by omega)
section
variable {M : List Nat} {w0 : World} {H : List (Nat × Obj)} {F0 : List (World → Prop)} {b : Nat} {P : List LB} {pA : Option Addr} {pc vars fuel every : Nat}
theorem mcollect_any (x : XS) (h' : HH) (fT gT : Int → Int) (w : World) (hbd : XBd x) (hL : LnOk x.ln) (hlv : ∀ k ∈ liveX x, k < x.ln.length) (hLp : 0 < x.ln.length) (hf : x.first = -1 ∨ (0 ≤ x.first ∧ x.first < x.ln.length)) (hv8 : vars ≤ 8) (ht : Told vars x h' fT gT) (hs : XSt M w0 H F0 b P pA pc vars fuel every x w) :
    Calls Tryz.prog 56 #[ptm b] w fun e w' => e = .returned (.tuple #[]) ∧ XSt M w0 H F0 b P pA pc vars fuel every (collX vars x) w' := by
  have hll := live_len hL (fun c hc => (hbd.ch c hc).1) hf
  have hlnb := hbd.ln
  have hcnb := hbd.cn
  have hcx : collX vars x = ⟨h', x.goals, setGs (liveX x) ((gsOf x.ln (liveX x)).map fT) x.ln, x.first, (x.ch.map fun c => ⟨c.at_, c.cls, (fT (c.cells : Nat)).toNat, (gT (c.bound : Nat)).toNat⟩), x.ev⟩ := by
    unfold collX
    rw [ht.eq]
    dsimp only
    rw [List.map_map, List.map_map, setCs_map, ← List.map_reverse, List.reverse_reverse]
    have : ((rootsX vars x).map fT).drop vars = (gsOf x.ln (liveX x)).map fT := by
      unfold rootsX
      rw [List.map_append, List.drop_left' (by simp)]
      rfl
    rw [this]
    rfl
  rw [hcx]
  have hroot : rootsX vars x = (List.range vars).map (fun v => ((v : Nat) : Int)) ++ gsOf x.ln (liveX x) := rfl
  obtain ⟨d, F, hFF, hok, hS⟩ := hs
  refine goes_enter1 Tryz.func56 rfl Tryz.ntmps56 rfl ?_
  refine goes_seq ?_
  refine goes_region ?_
  refine lst_run (run_assign (by conv => lhs; whnf)) rfl ?_
  refine lst_run (run_assign (by conv => lhs; whnf)) rfl ?_
  refine lst_run (run_assign (by conv => lhs; whnf)) rfl ?_
  refine lst_done ?_
  refine goes_seq ?_
  refine goes_seq ?_
  refine goes_region ?_
  refine lst_run (run_move (by conv => lhs; whnf)) rfl ?_
  refine lst_run (run_nilCheck rfl) rfl ?_
  refine lst_run (run_fieldAddr (off := 3) rfl rfl) rfl ?_
  first
    | refine lst_run (run_load1_own hS rfl rfl (by first | exact .head | exact .tail .head | exact .tail (.tail .head) | exact .tail (.tail (.tail .head)) | exact .tail (.tail (.tail (.tail .head))) | exact .tail (.tail (.tail (.tail (.tail .head))))) (by repeat constructor)) rfl ?_
    | refine lst_run (run_load1 rfl rfl (by first | assumption | exact hS.cell0 (by assumption) | exact lv_next hS | exact lv_list hS)) rfl ?_
  refine lst_run (run_move (by conv => lhs; whnf)) rfl ?_
  refine lst_done ?_
  refine goes_block ?_
  refine goes_loop2 18 2 (19 :: 20 :: 5 :: 21 :: 22 :: 23 :: 24 :: 25 :: []) (fun (i : Nat) v u w' => ∃ (A : Option Addr) (c : Nat) (O : List (Nat × Obj)), v = .int .i64 (i : Nat) ∧ u = .slice A i c ∧ i ≤ vars ∧ Row 3 1 (.slice A i c) i (intsV ((List.range i).map fun v => ((v : Nat) : Int))) O ∧ St M w0 ((b, mob P pA pc vars fuel every x d) :: (O ++ (d.O1 ++ (d.O2 ++ (d.O3 ++ H))))) F w') (fun i => vars - i) (0) ?_ (by conv => lhs; whnf) (by conv => lhs; whnf) ?_
  · exact ⟨none, 0, [], rfl, rfl, by omega, Row.nil_, hS⟩
  clear hS
  rintro i _ _ w2 jv ⟨A, c, O, rfl, rfl, hi, hrow, hS⟩ ih
  by_cases hlt : i < vars
  · refine goes_seq ?_
    refine goes_region ?_
    first
      | refine lst_run (run_lss_yes rfl rfl (by omega)) rfl ?_
      | refine lst_run (run_lss_no rfl rfl (by omega)) rfl ?_
      | refine lst_run (rfl) rfl ?_
    refine lst_done ?_
    refine goes_seq ?_
    refine goes_true rfl ?_
    refine goes_skip ?_
    refine goes_seq ?_
    refine goes_block ?_
    refine goes_seq ?_
    refine goes_region ?_
    refine lst_run (run_move (by conv => lhs; whnf)) rfl ?_
    refine lst_run (run_assign (by conv => lhs; whnf)) rfl ?_
    refine lst_done ?_
    refine goes_region ?_
    refine lst_run (run_move (by conv => lhs; whnf)) rfl ?_
    refine lst_run (run_move (by conv => lhs; whnf)) rfl ?_
    refine lst_buildSlice (cells := [_]) hS (.cons (by conv => lhs; whnf) .nil) rfl rfl ?_
    clear hS
    intro b1 wx1 hS
    refine lst_app (sz := 1) (bts := 8) hS (by conv => lhs; whnf) rfl rfl rfl rfl (hrow) rfl rfl (.cons _ (List.perm_append_comm_assoc [_] O _)) (by omega) (by omega) rfl ?_
    clear hS
    intro v8 O8 w8 hrow8 hS
    obtain ⟨A8, c8, rfl⟩ := hrow8.form
    replace hS := hS.perm (List.perm_append_comm_assoc O8 [_] _)
    refine lst_run (run_assign (by conv => lhs; whnf)) rfl ?_
    refine lst_done ?_
    refine goes_inBlock ?_
    refine goes_region ?_
    refine lst_run (run_add rfl rfl (by omega) (by omega)) rfl ?_
    refine lst_run (run_move (by conv => lhs; whnf)) rfl ?_
    refine lst_done ?_
    refine ih (i + 1) _ _ _ _ ?_ ?_ (by conv => lhs; whnf) (by conv => lhs; whnf) (by kernel_rfl)
    · omega
    · refine ⟨A8, c8, O8, rfl, rfl, by omega, ?_, hS⟩
      rw [List.range_succ, List.map_append, intsV_app]; exact hrow8
  obtain rfl : vars = i := by omega
  clear ih hlt hi
  refine goes_seq ?_
  refine goes_region ?_
  first
    | refine lst_run (run_lss_yes rfl rfl (by omega)) rfl ?_
    | refine lst_run (run_lss_no rfl rfl (by omega)) rfl ?_
    | refine lst_run (rfl) rfl ?_
  refine lst_done ?_
  refine goes_seq ?_
  refine goes_false rfl ?_
  refine goes_exit rfl ?_
  refine goes_seq ?_
  refine goes_region ?_
  refine lst_run (run_move (by conv => lhs; whnf)) rfl ?_
  replace hS := hS.perm (.cons _ (perm_deepL O d.O1 d.O2 d.O3 H))
  refine lst_enter (run_call (by kernel_rfl) (args_1 (by conv => lhs; whnf))) rfl ?_
  refine Calls.mono (mlive_any (H := O ++ H) (F0 := F) x _ hbd hL hLp hf ⟨d, F, fun _ h => h, hok, hS⟩) ?_
  rintro _ w3 ⟨VA, vc, F1, rfl, hF1, hV1, hq⟩
  refine ⟨_, rfl, ?_⟩
  clear hS hok
  obtain ⟨d, F2, hF2, hok, hS⟩ := hq
  replace hS := hS.perm (.cons _ (perm_deepL O d.O1 d.O2 d.O3 H).symm)
  have hV2 := hV1.mono hF2
  have hFF2 : ∀ φ ∈ F0, φ ∈ F2 := fun φ h => hF2 φ (hF1 φ (hFF φ h))
  clear hV1
  obtain ⟨hA, hc, hB, hd, LA, lc, O1, cs, CA, cc, O2, evs, EA, ec, O3⟩ := d
  have hrow1 : Row 101 3 (.slice LA x.ln.length lc) x.ln.length (xlL x.ln) O1 := hok.row1
  obtain ⟨gl, sp, rfl, rfl, hcap⟩ := hrow1.some_ hLp
  have hlcap := hrow1.cap
  have hcs : cs.map LX.xc = x.ch := hok.hc
  have hlc : cs.length = x.ch.length := by rw [← hcs]; simp
  have hrow2 : Row 151 4 (.slice CA cs.length cc) cs.length (xcL cs.reverse) O2 := hok.row2
  generalize hIe : liveX x = I at *
  replace hS : St M w0 ((b, mob P pA pc vars fuel every x ⟨hA, hc, hB, hd, some ⟨gl, 0, none⟩, lc, [(gl, .cells (xlL x.ln ++ sp).toArray 101)], cs, CA, cc, O2, evs, EA, ec, O3⟩) :: (O ++ ((gl, .cells (xlL x.ln ++ sp).toArray 101) :: (O2 ++ (O3 ++ H))))) F2 _ := hS
  refine lst_run (run_assign (by conv => lhs; whnf)) rfl ?_
  refine lst_done ?_
  refine goes_seq ?_
  refine goes_seq ?_
  refine goes_region ?_
  refine lst_run (run_move (by conv => lhs; whnf)) rfl ?_
  refine lst_run (run_len_slice rfl rfl rfl) rfl ?_
  refine lst_run (run_move (by conv => lhs; whnf)) rfl ?_
  refine lst_done ?_
  refine goes_block ?_
  refine goes_loop2 30 2 (31 :: 32 :: 33 :: 8 :: 34 :: 35 :: 36 :: 37 :: 38 :: 39 :: 40 :: 41 :: 42 :: 43 :: 44 :: 45 :: []) (fun (R : List Nat) v u w' => ∃ (D : List Nat) (A : Option Addr) (c : Nat) (O : List (Nat × Obj)), I = D ++ R ∧ v = .int .i64 (D.length : Nat) ∧ u = .slice A (vars + D.length) c ∧ Row 3 1 (.slice A (vars + D.length) c) (vars + D.length) (intsV ((List.range vars).map (fun v => ((v : Nat) : Int)) ++ gsOf x.ln D)) O ∧ St M w0 ((b, mob P pA pc vars fuel every x ⟨hA, hc, hB, hd, some ⟨gl, 0, none⟩, lc, [(gl, .cells (xlL x.ln ++ sp).toArray 101)], cs, CA, cc, O2, evs, EA, ec, O3⟩) :: (O ++ ((gl, .cells (xlL x.ln ++ sp).toArray 101) :: (O2 ++ (O3 ++ H))))) F2 w') (fun R => R.length) (I) ?_ (by conv => lhs; whnf) (by conv => lhs; whnf) ?_
  · exact ⟨[], A, c, O, rfl, rfl, rfl, by simpa [gsOf] using hrow, hS⟩
  clear hS hrow
  rintro R _ _ w4 jv2 ⟨D, A, c, O, hDR, rfl, rfl, hrow, hS⟩ ih
  have hlen : I.length = D.length + R.length := by rw [hDR]; simp
  cases R with
  | cons k R =>
    simp only [List.length_cons] at hlen
    obtain ⟨bv, ov, rfl⟩ := (hS.und hV2).some_ (by omega)
    have hkl := hlv k (by rw [hDR]; simp)
    have hk : ∀ {H'} w', St M w0 H' F2 w' → w'.cell? ⟨bv, ov + ((D.length : Nat) : Int).toNat * 1, none⟩ = some (.int .i64 (k : Nat)) := fun w' hS => by
      have := (hS.und hV2).get (j := D.length) (v := .int .i64 (k : Nat)) (by rw [hDR]; simp [natsV, intsV])
      rw [show ((D.length : Nat) : Int).toNat * 1 = D.length by omega]; exact this
    obtain ⟨l0, l1, l2⟩ := xlL_get x.ln k _ (lnk_get hkl)
    have hll' : ∀ {M2 H' F'} w', St M2 w0 H' F' w' → (gl, Obj.cells (xlL x.ln ++ sp).toArray 101) ∈ H' → _ := fun {M2 H' F'} w' (hS : St M2 w0 H' F' w') hm => Row.cell (w := w') hrow1 hS (by intro p hp; obtain rfl := List.mem_singleton.1 hp; exact hm) rfl l0
    refine goes_seq ?_
    refine goes_region ?_
    first
      | refine lst_run (run_lss_yes rfl rfl (by omega)) rfl ?_
      | refine lst_run (run_lss_no rfl rfl (by omega)) rfl ?_
      | refine lst_run (rfl) rfl ?_
    refine lst_done ?_
    refine goes_seq ?_
    refine goes_true rfl ?_
    refine goes_skip ?_
    refine goes_seq ?_
    refine goes_block ?_
    refine goes_seq ?_
    refine goes_region ?_
    refine lst_run (run_indexAddr (sz := 1) rfl rfl rfl rfl (by omega) (by omega)) rfl ?_
    first
      | refine lst_run (run_load1_own hS rfl rfl (by first | exact .head | exact .tail .head | exact .tail (.tail .head) | exact .tail (.tail (.tail .head)) | exact .tail (.tail (.tail (.tail .head))) | exact .tail (.tail (.tail (.tail (.tail .head))))) (by repeat constructor)) rfl ?_
      | refine lst_run (run_load1 rfl rfl (by first | assumption | exact hk _ hS | exact hll' _ hS (by simp) | exact hS.cell0 (by assumption) | exact lv_next hS | exact lv_list hS)) rfl ?_
    refine lst_run (run_assign (by conv => lhs; whnf)) rfl ?_
    refine lst_done ?_
    refine goes_region ?_
    refine lst_run (run_move (by conv => lhs; whnf)) rfl ?_
    refine lst_run (run_move (by conv => lhs; whnf)) rfl ?_
    refine lst_run (run_nilCheck rfl) rfl ?_
    refine lst_run (run_fieldAddr (off := 7) rfl rfl) rfl ?_
    first
      | refine lst_run (run_load1_own hS rfl rfl (by first | exact .head | exact .tail .head | exact .tail (.tail .head) | exact .tail (.tail (.tail .head)) | exact .tail (.tail (.tail (.tail .head))) | exact .tail (.tail (.tail (.tail (.tail .head))))) (by repeat constructor)) rfl ?_
      | refine lst_run (run_load1 rfl rfl (by first | assumption | exact hk _ hS | exact hll' _ hS (by simp) | exact hS.cell0 (by assumption) | exact lv_next hS | exact lv_list hS)) rfl ?_
    refine lst_run (run_move (by conv => lhs; whnf)) rfl ?_
    refine lst_run (run_indexAddr (sz := 3) rfl rfl rfl rfl (by omega) (by omega)) rfl ?_
    refine lst_run (run_fieldAddr (off := 0) rfl rfl) rfl ?_
    first
      | refine lst_run (run_load1_own hS rfl rfl (by first | exact .head | exact .tail .head | exact .tail (.tail .head) | exact .tail (.tail (.tail .head)) | exact .tail (.tail (.tail (.tail .head))) | exact .tail (.tail (.tail (.tail (.tail .head))))) (by repeat constructor)) rfl ?_
      | refine lst_run (run_load1 rfl rfl (by first | assumption | exact hk _ hS | exact hll' _ hS (by simp) | exact hS.cell0 (by assumption) | exact lv_next hS | exact lv_list hS)) rfl ?_
    refine lst_buildSlice (cells := [_]) hS (.cons (by conv => lhs; whnf) .nil) rfl rfl ?_
    clear hS
    intro b1 wx1 hS
    refine lst_app (sz := 1) (bts := 8) hS (by conv => lhs; whnf) rfl rfl rfl rfl (hrow) rfl rfl (.cons _ (List.perm_append_comm_assoc [_] O _)) (by omega) (by omega) rfl ?_
    clear hS
    intro v8 O8 w8 hrow8 hS
    obtain ⟨A8, c8, rfl⟩ := hrow8.form
    replace hS := hS.perm (List.perm_append_comm_assoc O8 [_] _)
    refine lst_run (run_assign (by conv => lhs; whnf)) rfl ?_
    refine lst_done ?_
    refine goes_inBlock ?_
    refine goes_region ?_
    refine lst_run (run_add rfl rfl (by omega) (by omega)) rfl ?_
    refine lst_run (run_move (by conv => lhs; whnf)) rfl ?_
    refine lst_done ?_
    refine ih (R) _ _ _ _ ?_ ?_ (by conv => lhs; whnf) (by conv => lhs; whnf) (by kernel_rfl)
    · simp
    · refine ⟨D ++ [k], A8, c8, O8, by rw [hDR]; simp, by simp, by simp [Nat.add_assoc], ?_, hS⟩
      have e : gsOf x.ln (D ++ [k]) = gsOf x.ln D ++ [(lnk x.ln k).g] := by simp [gsOf]
      rw [e, ← List.append_assoc, intsV_app, List.length_append, ← Nat.add_assoc]; exact hrow8
  | nil =>
  simp only [List.length_nil] at hlen
  have hID : I = D := by rw [hDR]; simp
  clear ih
  obtain ⟨F3, hF3, hR3, hS⟩ := St.freezeRow hrow (hS.perm List.perm_middle.symm)
  dsimp only [mob, mcs] at hS
  refine goes_seq ?_
  refine goes_region ?_
  first
    | refine lst_run (run_lss_yes rfl rfl (by omega)) rfl ?_
    | refine lst_run (run_lss_no rfl rfl (by omega)) rfl ?_
    | refine lst_run (rfl) rfl ?_
  refine lst_done ?_
  refine goes_seq ?_
  refine goes_false rfl ?_
  refine goes_exit rfl ?_
  refine goes_seq ?_
  refine goes_seq ?_
  refine goes_region ?_
  refine lst_run (run_move (by conv => lhs; whnf)) rfl ?_
  refine lst_run (run_nilCheck rfl) rfl ?_
  refine lst_run (run_fieldAddr (off := 9) rfl rfl) rfl ?_
  first
    | refine lst_run (run_load1_own hS rfl rfl (by first | exact .head | exact .tail .head | exact .tail (.tail .head) | exact .tail (.tail (.tail .head)) | exact .tail (.tail (.tail (.tail .head))) | exact .tail (.tail (.tail (.tail (.tail .head))))) (by repeat constructor)) rfl ?_
    | refine lst_run (run_load1 rfl rfl (by first | assumption | exact hk _ hS | exact hll' _ hS (by simp) | exact hS.cell0 (by assumption) | exact lv_next hS | exact lv_list hS)) rfl ?_
  refine lst_run (run_len_slice rfl rfl rfl) rfl ?_
  refine lst_run (run_move (by conv => lhs; whnf)) rfl ?_
  refine lst_done ?_
  refine goes_block ?_
  have hV3 := hV2.mono hF3
  have hok3 := hok.mono hF3
  have hFF3 : ∀ φ ∈ F0, φ ∈ F3 := fun φ h => hF3 φ (hFF2 φ h)
  clear hV2 hok hFF2
  refine goes_loop3 51 3 4 (52 :: 53 :: 54 :: 10 :: 55 :: 56 :: 57 :: 58 :: 59 :: 60 :: 61 :: 62 :: 63 :: 64 :: 65 :: []) (fun (R : List LX) v u z w' => ∃ (D : List LX) (A2 : Option Addr) (c2 : Nat) (Ot : List (Nat × Obj)) (A3 : Option Addr) (c3 : Nat) (Om : List (Nat × Obj)), cs.reverse = D ++ R ∧ v = .int .i64 (D.length : Nat) ∧ u = .slice A2 D.length c2 ∧ z = .slice A3 D.length c3 ∧ Row 3 1 (.slice A2 D.length c2) D.length (intsV (D.map fun c => ((c.cells : Nat) : Int))) Ot ∧ Row 3 1 (.slice A3 D.length c3) D.length (intsV (D.map fun c => ((c.bound : Nat) : Int))) Om ∧ St M w0 ((b, mob P pA pc vars fuel every x ⟨hA, hc, hB, hd, some ⟨gl, 0, none⟩, lc, [(gl, .cells (xlL x.ln ++ sp).toArray 101)], cs, CA, cc, O2, evs, EA, ec, O3⟩) :: (Ot ++ (Om ++ ((gl, .cells (xlL x.ln ++ sp).toArray 101) :: (O2 ++ (O3 ++ H)))))) F3 w') (fun R => R.length) (cs.reverse) ?_ (by conv => lhs; whnf) (by conv => lhs; whnf) (by conv => lhs; whnf) ?_
  · exact ⟨[], none, 0, [], none, 0, [], rfl, rfl, rfl, rfl, Row.nil_, Row.nil_, hS⟩
  clear hS
  rintro R _ _ _ w5 jv3 ⟨E, A2, c2, Ot, A3, c3, Om, hER, rfl, rfl, rfl, hrt, hrm, hS⟩ ih
  have hlen2 : cs.length = E.length + R.length := by
    have := congrArg List.length hER
    simpa using this
  cases R with
  | cons k R =>
    simp only [List.length_cons] at hlen2
    obtain ⟨k0, k1, k2, k3⟩ := xcL_get cs.reverse E.length k (by rw [hER]; simp)
    obtain ⟨gc, sp2, rfl, rfl, hcap2⟩ := hrow2.some_ (by omega)
    have hcl : ∀ {M2 H' F'} w', St M2 w0 H' F' w' → (gc, Obj.cells (xcL cs.reverse ++ sp2).toArray 151) ∈ H' → _ := fun {M2 H' F'} w' (hS : St M2 w0 H' F' w') hm => And.intro (Row.cell (w := w') hrow2 hS (by intro p hp; obtain rfl := List.mem_singleton.1 hp; exact hm) rfl k0) (And.intro (Row.cell (w := w') hrow2 hS (by intro p hp; obtain rfl := List.mem_singleton.1 hp; exact hm) rfl k1) (And.intro (Row.cell (w := w') hrow2 hS (by intro p hp; obtain rfl := List.mem_singleton.1 hp; exact hm) rfl k2) (Row.cell (w := w') hrow2 hS (by intro p hp; obtain rfl := List.mem_singleton.1 hp; exact hm) rfl k3)))
    refine goes_seq ?_
    refine goes_region ?_
    first
      | refine lst_run (run_lss_yes rfl rfl (by omega)) rfl ?_
      | refine lst_run (run_lss_no rfl rfl (by omega)) rfl ?_
      | refine lst_run (rfl) rfl ?_
    refine lst_done ?_
    refine goes_seq ?_
    refine goes_true rfl ?_
    refine goes_skip ?_
    refine goes_seq ?_
    refine goes_block ?_
    refine goes_seq ?_
    refine goes_region ?_
    refine lst_run (run_indexAddr (sz := 4) rfl rfl rfl rfl (by omega) (by omega)) rfl ?_
    first
      | refine lst_run (run_loadN_own (k := 4) hS rfl rfl rfl (by first | exact .head | exact .tail .head | exact .tail (.tail .head) | exact .tail (.tail (.tail .head)) | exact .tail (.tail (.tail (.tail .head))) | exact .tail (.tail (.tail (.tail (.tail .head))))) (by repeat constructor)) rfl ?_
      | refine lst_run (run_loadN_own (k := 4) hS rfl rfl rfl (by first | exact .head | exact .tail .head | exact .tail (.tail .head) | exact .tail (.tail (.tail .head)) | exact .tail (.tail (.tail (.tail .head))) | exact .tail (.tail (.tail (.tail (.tail .head))))) (by assumption)) rfl ?_
      | refine lst_run (run_load4 rfl rfl rfl (by first | assumption | exact (hcl _ hS (by simp)).1 | exact (hcl _ hS (by simp)).2.1 | exact (hcl _ hS (by simp)).2.2.1 | exact (hcl _ hS (by simp)).2.2.2 | exact hS.cell0 (by assumption)) (by first | assumption | exact (hcl _ hS (by simp)).1 | exact (hcl _ hS (by simp)).2.1 | exact (hcl _ hS (by simp)).2.2.1 | exact (hcl _ hS (by simp)).2.2.2 | exact hS.cell0 (by assumption)) (by first | assumption | exact (hcl _ hS (by simp)).1 | exact (hcl _ hS (by simp)).2.1 | exact (hcl _ hS (by simp)).2.2.1 | exact (hcl _ hS (by simp)).2.2.2 | exact hS.cell0 (by assumption)) (by first | assumption | exact (hcl _ hS (by simp)).1 | exact (hcl _ hS (by simp)).2.1 | exact (hcl _ hS (by simp)).2.2.1 | exact (hcl _ hS (by simp)).2.2.2 | exact hS.cell0 (by assumption))) rfl ?_
    refine lst_alloc (cs := [_, _, _, _]) hS rfl rfl rfl ?_
    clear hS
    intro b1 wx1 hS
    refine lst_storeN hS rfl (by conv => lhs; whnf) rfl rfl (by first | exact .head | exact .tail .head | exact .tail (.tail .head) | exact .tail (.tail (.tail .head)) | exact .tail (.tail (.tail (.tail .head))) | exact .tail (.tail (.tail (.tail (.tail .head))))) (by repeat constructor) (by first | exact .head | exact .tail .head | exact .tail (.tail .head) | exact .tail (.tail (.tail .head)) | exact .tail (.tail (.tail (.tail .head))) | exact .tail (.tail (.tail (.tail (.tail .head))))) ?_
    clear hS
    intro wx2 hS
    refine lst_done ?_
    refine goes_seq ?_
    refine goes_region ?_
    refine lst_run (run_move (by conv => lhs; whnf)) rfl ?_
    refine lst_run (run_fieldAddr (off := 2) rfl rfl) rfl ?_
    first
      | refine lst_run (run_load1_own hS rfl rfl (by first | exact .head | exact .tail .head | exact .tail (.tail .head) | exact .tail (.tail (.tail .head)) | exact .tail (.tail (.tail (.tail .head))) | exact .tail (.tail (.tail (.tail (.tail .head))))) (by repeat constructor)) rfl ?_
      | refine lst_run (run_load1 rfl rfl (by first | assumption | exact (hcl _ hS (by simp)).1 | exact (hcl _ hS (by simp)).2.1 | exact (hcl _ hS (by simp)).2.2.1 | exact (hcl _ hS (by simp)).2.2.2 | exact hS.cell0 (by assumption) | exact lv_next hS | exact lv_list hS)) rfl ?_
    refine lst_buildSlice (cells := [_]) hS (.cons (by conv => lhs; whnf) .nil) rfl rfl ?_
    clear hS
    intro b2 wx3 hS
    refine lst_app (sz := 1) (bts := 8) hS (by conv => lhs; whnf) rfl rfl rfl rfl (hrt) rfl rfl (.cons _ (List.perm_append_comm_assoc [_, _] Ot _)) (by omega) (by omega) rfl ?_
    clear hS
    intro v8 O8 w8 hrow8 hS
    obtain ⟨A8, c8, rfl⟩ := hrow8.form
    replace hS := hS.perm (List.perm_append_comm_assoc O8 [_, _] _)
    refine lst_run (run_assign (by conv => lhs; whnf)) rfl ?_
    refine lst_done ?_
    refine goes_region ?_
    refine lst_run (run_move (by conv => lhs; whnf)) rfl ?_
    refine lst_run (run_fieldAddr (off := 3) rfl rfl) rfl ?_
    first
      | refine lst_run (run_load1_own hS rfl rfl (by first | exact .head | exact .tail .head | exact .tail (.tail .head) | exact .tail (.tail (.tail .head)) | exact .tail (.tail (.tail (.tail .head))) | exact .tail (.tail (.tail (.tail (.tail .head))))) (by repeat constructor)) rfl ?_
      | refine lst_run (run_load1 rfl rfl (by first | assumption | exact (hcl _ hS (by simp)).1 | exact (hcl _ hS (by simp)).2.1 | exact (hcl _ hS (by simp)).2.2.1 | exact (hcl _ hS (by simp)).2.2.2 | exact hS.cell0 (by assumption) | exact lv_next hS | exact lv_list hS)) rfl ?_
    refine lst_buildSlice (cells := [_]) hS (.cons (by conv => lhs; whnf) .nil) rfl rfl ?_
    clear hS
    intro b3 wx4 hS
    refine lst_app (sz := 1) (bts := 8) hS (by conv => lhs; whnf) rfl rfl rfl rfl (hrm) rfl rfl (.cons _ (perm_out2 [_, _] O8 Om _)) (by omega) (by omega) rfl ?_
    clear hS
    intro v9 O9 w9 hrow9 hS
    obtain ⟨A9, c9, rfl⟩ := hrow9.form
    replace hS := hS.perm (perm_out2 [_, _] O8 O9 _).symm
    refine lst_run (run_assign (by conv => lhs; whnf)) rfl ?_
    refine lst_done ?_
    refine goes_inBlock ?_
    refine goes_region ?_
    refine lst_run (run_add rfl rfl (by omega) (by omega)) rfl ?_
    refine lst_run (run_move (by conv => lhs; whnf)) rfl ?_
    refine lst_done ?_
    refine ih (R) _ _ _ _ _ ?_ ?_ (by conv => lhs; whnf) (by conv => lhs; whnf) (by conv => lhs; whnf) (by kernel_rfl)
    · simp
    · refine ⟨E ++ [k], A8, c8, O8, A9, c9, O9, by rw [hER]; simp, by simp, by simp, by simp, ?_, ?_, hS.drop⟩
      · rw [List.map_append, intsV_app, List.length_append]; exact hrow8
      · rw [List.map_append, intsV_app, List.length_append]; exact hrow9
  | nil =>
  simp only [List.length_nil] at hlen2
  have hEc : cs.reverse = E := by rw [hER]; simp
  clear ih
  obtain ⟨F4, hF4, hT4, hS⟩ := St.freezeRow hrt (hS.perm List.perm_middle.symm)
  obtain ⟨F5, hF5, hK5, hS⟩ := St.freezeRow hrm (hS.perm List.perm_middle.symm)
  refine goes_seq ?_
  refine goes_region ?_
  first
    | refine lst_run (run_lss_yes rfl rfl (by omega)) rfl ?_
    | refine lst_run (run_lss_no rfl rfl (by omega)) rfl ?_
    | refine lst_run (rfl) rfl ?_
  refine lst_done ?_
  refine goes_seq ?_
  refine goes_false rfl ?_
  refine goes_exit rfl ?_
  refine goes_seq ?_
  refine goes_region ?_
  refine lst_run (run_move (by conv => lhs; whnf)) rfl ?_
  refine lst_run (run_move (by conv => lhs; whnf)) rfl ?_
  refine lst_run (run_nilCheck rfl) rfl ?_
  refine lst_run (run_fieldAddr (off := 0) rfl rfl) rfl ?_
  first
    | refine lst_run (run_loadN_own (k := 2) hS rfl rfl rfl (by first | exact .head | exact .tail .head | exact .tail (.tail .head) | exact .tail (.tail (.tail .head)) | exact .tail (.tail (.tail (.tail .head))) | exact .tail (.tail (.tail (.tail (.tail .head))))) (by repeat constructor)) rfl ?_
    | refine lst_run (run_loadN_own (k := 2) hS rfl rfl rfl (by first | exact .head | exact .tail .head | exact .tail (.tail .head) | exact .tail (.tail (.tail .head)) | exact .tail (.tail (.tail (.tail .head))) | exact .tail (.tail (.tail (.tail (.tail .head))))) (by assumption)) rfl ?_
    | refine lst_run (run_load2 rfl rfl rfl (by first | assumption | exact (hcl _ hS (by simp)).1 | exact (hcl _ hS (by simp)).2.1 | exact (hcl _ hS (by simp)).2.2.1 | exact (hcl _ hS (by simp)).2.2.2 | exact hS.cell0 (by assumption)) (by first | assumption | exact (hcl _ hS (by simp)).1 | exact (hcl _ hS (by simp)).2.1 | exact (hcl _ hS (by simp)).2.2.1 | exact (hcl _ hS (by simp)).2.2.2 | exact hS.cell0 (by assumption))) rfl ?_
  refine lst_run (run_move (by conv => lhs; whnf)) rfl ?_
  refine lst_run (run_move (by conv => lhs; whnf)) rfl ?_
  refine lst_run (run_move (by conv => lhs; whnf)) rfl ?_
  have hFF5 : ∀ φ ∈ F0, φ ∈ F5 := fun φ h => hF5 φ (hF4 φ (hFF3 φ h))
  have hR5 := (hR3.mono hF4).mono hF5
  have hT5 := hT4.mono hF5
  have hok5 := (hok3.mono hF4).mono hF5
  have hV5 := (hV3.mono hF4).mono hF5
  clear hT4 hR3 hok3 hV3 hFF3
  have hchE : x.ch.reverse = E.map LX.xc := by rw [← hcs, ← List.map_reverse, hEc]
  have teq := ht.eq
  rw [hroot, hID, hchE, List.map_map, List.map_map] at teq
  obtain ⟨Rt, hRt⟩ : ∃ Rt, Rt = (List.range vars).map (fun v => ((v : Nat) : Int)) ++ gsOf x.ln D := ⟨_, rfl⟩
  rw [← hRt] at teq hR5
  obtain ⟨Tt, hTt⟩ : ∃ Tt, Tt = E.map (fun c => ((c.cells : Nat) : Int)) := ⟨_, rfl⟩
  obtain ⟨Kt, hKt⟩ : ∃ Kt, Kt = E.map (fun c => ((c.bound : Nat) : Int)) := ⟨_, rfl⟩
  rw [← hTt] at hT5
  rw [← hKt] at hK5
  replace teq : collectH x.h Rt Tt Kt = (h', Rt.map fT, Tt.map fT, Kt.map gT, 0) := by rw [hTt, hKt]; exact teq
  have hRl : Rt.length = vars + D.length := by rw [hRt]; simp [gsOf]
  have hTl : Tt.length = E.length := by rw [hTt]; simp
  have hKl : Kt.length = E.length := by rw [hKt]; simp
  have hElen : E.length = cs.length := by rw [← hEc]; simp
  have hIl : D.length ≤ x.ln.length := by rw [← hID]; exact hll
  have hcall : ∀ {H'} w', St M w0 H' F5 w' → Calls Tryz.prog 95 #[hv x.h hA hc hB hd, .slice A (vars + D.length) c, .slice A2 E.length c2, .slice A3 E.length c3] w' fun e w'' => ∃ (A' : Option Addr) (c' : Nat) (B' : Option Addr) (d' : Nat) (a1 a2 a3 : Option Addr) (c1 c2 c3 : Nat) (F' : List (World → Prop)),
      e = .returned (.tuple #[hv h' A' c' B' d', .slice a1 (vars + D.length) c1, .slice a2 E.length c2, .slice a3 E.length c3, .int .i64 0]) ∧ (∀ φ ∈ F5, φ ∈ F') ∧ Und F' (HFl h' A' c' B' d') ∧ Und F' (Flat 1 (intsV (Rt.map fT)) a1 (vars + D.length) c1) ∧ Und F' (Flat 1 (intsV (Tt.map fT)) a2 E.length c2) ∧ Und F' (Flat 1 (intsV (Kt.map gT)) a3 E.length c3) ∧ St M w0 H' F' w'' := by
    intro H' w' hS
    have h0 := collect_any x.h Rt Tt Kt hA hB A A2 A3 hc hd c c2 c3 w' hok5.hh (by rw [hRl]; exact hR5) (by rw [hTl]; exact hT5) (by rw [hKl]; exact hK5) (by omega) (by omega) (by omega) hS
    rw [teq, hRl, hTl, hKl] at h0
    refine h0.mono ?_
    rintro e w'' ⟨A', c', B', d', a1, a2, a3, c1, c2, c3, F', he, hF', q1, q2, q3, q4, q5⟩
    simp only [List.length_map, hRl, hTl, hKl] at he q2 q3 q4
    exact ⟨A', c', B', d', a1, a2, a3, c1, c2, c3, F', he, hF', q1, q2, q3, q4, q5⟩
  refine lst_enter (run_call (by kernel_rfl) (args_4 (by conv => lhs; whnf) (by conv => lhs; whnf) (by conv => lhs; whnf) (by conv => lhs; whnf))) rfl ?_
  refine Calls.mono (hcall _ hS) ?_
  rintro _ w6 ⟨A6, c6, B6, d6, a1, a2, a3, c16, c26, c36, F6, rfl, hF6, hH6, hr6, ht6, hk6, hS'⟩
  refine ⟨_, rfl, ?_⟩
  replace hS := hS'
  clear hS'
  have hok6 := hok5.mono hF6
  have hV6 := hV5.mono hF6
  have hFF6 : ∀ φ ∈ F0, φ ∈ F6 := fun φ h => hF6 φ (hFF5 φ h)
  clear hcall hok5 hV5 hR5 hT5 hK5 hFF5
  refine lst_run (run_move (by conv => lhs; whnf)) rfl ?_
  refine lst_run (run_extract rfl rfl) rfl ?_
  refine lst_run (run_extract rfl rfl) rfl ?_
  refine lst_run (run_extract rfl rfl) rfl ?_
  refine lst_run (run_extract rfl rfl) rfl ?_
  refine lst_run (run_extract rfl rfl) rfl ?_
  refine lst_run (run_nilCheck rfl) rfl ?_
  refine lst_run (run_fieldAddr (off := 0) rfl rfl) rfl ?_
  refine lst_storeN hS rfl (by conv => lhs; whnf) rfl rfl (by first | exact .head | exact .tail .head | exact .tail (.tail .head) | exact .tail (.tail (.tail .head)) | exact .tail (.tail (.tail (.tail .head))) | exact .tail (.tail (.tail (.tail (.tail .head))))) (by repeat constructor) (by first | exact .head | exact .tail .head | exact .tail (.tail .head) | exact .tail (.tail (.tail .head)) | exact .tail (.tail (.tail (.tail .head))) | exact .tail (.tail (.tail (.tail (.tail .head))))) ?_
  clear hS
  intro wx1 hS
  refine lst_run (run_assign (by conv => lhs; whnf)) rfl ?_
  refine lst_run (run_assign (by conv => lhs; whnf)) rfl ?_
  refine lst_run (run_assign (by conv => lhs; whnf)) rfl ?_
  refine lst_done ?_
  refine goes_seq ?_
  refine goes_seq ?_
  refine goes_region ?_
  refine lst_run (run_move (by conv => lhs; whnf)) rfl ?_
  refine lst_run (run_len_slice rfl rfl rfl) rfl ?_
  refine lst_run (run_move (by conv => lhs; whnf)) rfl ?_
  refine lst_done ?_
  refine goes_block ?_
  replace hS : St M w0 ((b, mob P pA pc vars fuel every (XS.mk h' x.goals x.ln x.first x.ch x.ev) (XD.mk A6 c6 B6 d6 (some ⟨gl, 0, none⟩) lc [] cs CA cc [] evs EA ec [])) :: ((gl, .cells (xlL x.ln ++ sp).toArray 101) :: (O2 ++ (O3 ++ H)))) F6 _ := hS
  refine goes_loop1 85 (86 :: 87 :: 88 :: 89 :: 11 :: 12 :: 90 :: 91 :: 92 :: 93 :: 94 :: 95 :: 96 :: 97 :: 98 :: 99 :: 100 :: 101 :: 102 :: 103 :: 104 :: 105 :: 106 :: []) (fun (R : List Nat) v w' => ∃ (D1 : List Nat) (L' : List XL), I = D1 ++ R ∧ v = .int .i64 (D1.length : Nat) ∧ L'.length = x.ln.length ∧ setGs R ((gsOf x.ln R).map fT) L' = setGs I ((gsOf x.ln I).map fT) x.ln ∧ St M w0 ((b, mob P pA pc vars fuel every (XS.mk h' x.goals x.ln x.first x.ch x.ev) (XD.mk A6 c6 B6 d6 (some ⟨gl, 0, none⟩) lc [] cs CA cc [] evs EA ec [])) :: (gl, .cells (xlL L' ++ sp).toArray 101) :: (O2 ++ (O3 ++ H))) F6 w') (fun R => R.length) (I) ?_ (by conv => lhs; whnf) ?_
  · exact ⟨[], x.ln, rfl, rfl, rfl, rfl, hS⟩
  clear hS
  rintro R _ w7 jv4 ⟨D1, L', hD1, rfl, hLl, heq, hS⟩ ih
  have hlen3 : I.length = D1.length + R.length := by rw [hD1]; simp
  cases R with
  | cons k R =>
    simp only [List.length_cons] at hlen3
    obtain ⟨bv, ov, rfl⟩ := (hS.und hV6).some_ (by omega)
    obtain ⟨ba, oa, rfl⟩ := (hS.und hr6).some_ (by rw [hID] at hlen3; omega)
    have hkl := hlv k (by rw [hD1]; simp)
    have hk : ∀ {H'} w', St M w0 H' F6 w' → w'.cell? ⟨bv, ov + ((D1.length : Nat) : Int).toNat * 1, none⟩ = some (.int .i64 (k : Nat)) := fun w' hS => by
      have := (hS.und hV6).get (j := D1.length) (v := .int .i64 (k : Nat)) (by rw [hD1]; simp [natsV, intsV])
      rw [show ((D1.length : Nat) : Int).toNat * 1 = D1.length by omega]; exact this
    have hg : ∀ {H'} w', St M w0 H' F6 w' → w'.cell? ⟨ba, oa + (((vars : Nat) : Int) + ((D1.length : Nat) : Int)).toNat * 1, none⟩ = some (.int .i64 (fT (lnk x.ln k).g)) := fun w' hS => by
      have e0 : Rt[vars + D1.length]? = some (lnk x.ln k).g := by
        rw [hRt, List.getElem?_append_right (by simp), ← hID, hD1]; simp [gsOf]
      have := (hS.und hr6).get (j := vars + D1.length) (v := .int .i64 (fT (lnk x.ln k).g)) (by simp [intsV, e0])
      rw [show (((vars : Nat) : Int) + ((D1.length : Nat) : Int)).toNat * 1 = vars + D1.length by omega]; exact this
    have hput := xlL_put L' sp k (fT (lnk x.ln k).g) (by omega)
    have hIl2 : I.length = D.length := by rw [hID]
    dsimp only [mob, mcs] at hS
    refine goes_seq ?_
    refine goes_region ?_
    first
      | refine lst_run (run_lss_yes rfl rfl (by omega)) rfl ?_
      | refine lst_run (run_lss_no rfl rfl (by omega)) rfl ?_
      | refine lst_run (rfl) rfl ?_
    refine lst_done ?_
    refine goes_seq ?_
    refine goes_true rfl ?_
    refine goes_skip ?_
    refine goes_seq ?_
    refine goes_block ?_
    refine goes_seq ?_
    refine goes_region ?_
    refine lst_run (run_move (by conv => lhs; whnf)) rfl ?_
    refine lst_run (run_indexAddr (sz := 1) rfl rfl rfl rfl (by omega) (by omega)) rfl ?_
    first
      | refine lst_run (run_load1_own hS rfl rfl (by first | exact .head | exact .tail .head | exact .tail (.tail .head) | exact .tail (.tail (.tail .head)) | exact .tail (.tail (.tail (.tail .head))) | exact .tail (.tail (.tail (.tail (.tail .head))))) (by repeat constructor)) rfl ?_
      | refine lst_run (run_load1 rfl rfl (by first | assumption | exact hk _ hS | exact hg _ hS | exact hS.cell0 (by assumption) | exact lv_next hS | exact lv_list hS)) rfl ?_
    refine lst_run (run_assign (by conv => lhs; whnf)) rfl ?_
    refine lst_run (run_assign (by conv => lhs; whnf)) rfl ?_
    refine lst_done ?_
    refine goes_draw (St _ _ _ _) 16 ((0, true) :: (1, true) :: (2, true) :: (3, true) :: (4, true) :: (5, true) :: (6, true) :: (7, true) :: (8, true) :: (9, true) :: (10, true) :: (11, true) :: (12, true) :: (13, true) :: (14, true) :: (15, true) :: []) (by kernel_rfl) (by kernel_rfl) (hS.drew) ?_
    replace hS := hS.drew
    refine ord_read rfl (fun _ hS => run_move (by conv => lhs; whnf)) rfl ?_
    refine ord_read rfl (fun _ hS => run_nilCheck rfl) rfl ?_
    refine ord_read rfl (fun _ hS => run_fieldAddr (off := 7) rfl rfl) rfl ?_
    first
      | refine ord_read rfl (fun _ hS => run_load1_own hS rfl rfl (by first | exact .head | exact .tail .head | exact .tail (.tail .head) | exact .tail (.tail (.tail .head)) | exact .tail (.tail (.tail (.tail .head))) | exact .tail (.tail (.tail (.tail (.tail .head))))) (by repeat constructor)) rfl ?_
      | refine ord_read rfl (fun _ hS => run_load1 rfl rfl (by first | assumption | exact hk _ hS | exact hg _ hS | exact hS.cell0 (by assumption) | exact lv_next hS | exact lv_list hS)) rfl ?_
    refine ord_read rfl (fun _ hS => run_move (by conv => lhs; whnf)) rfl ?_
    refine ord_read rfl (fun _ hS => run_move (by conv => lhs; whnf)) rfl ?_
    refine ord_read rfl (fun _ hS => run_move (by conv => lhs; whnf)) rfl ?_
    refine ord_read rfl (fun _ hS => run_nilCheck rfl) rfl ?_
    refine ord_read rfl (fun _ hS => run_fieldAddr (off := 3) rfl rfl) rfl ?_
    first
      | refine ord_read rfl (fun _ hS => run_load1_own hS rfl rfl (by first | exact .head | exact .tail .head | exact .tail (.tail .head) | exact .tail (.tail (.tail .head)) | exact .tail (.tail (.tail (.tail .head))) | exact .tail (.tail (.tail (.tail (.tail .head))))) (by repeat constructor)) rfl ?_
      | refine ord_read rfl (fun _ hS => run_load1 rfl rfl (by first | assumption | exact hk _ hS | exact hg _ hS | exact hS.cell0 (by assumption) | exact lv_next hS | exact lv_list hS)) rfl ?_
    refine ord_read rfl (fun _ hS => run_move (by conv => lhs; whnf)) rfl ?_
    refine ord_read rfl (fun _ hS => run_add rfl rfl (by omega) (by omega)) rfl ?_
    refine ord_read rfl (fun _ hS => run_indexAddr (sz := 1) rfl rfl rfl rfl (by omega) (by omega)) rfl ?_
    first
      | refine ord_read rfl (fun _ hS => run_load1_own hS rfl rfl (by first | exact .head | exact .tail .head | exact .tail (.tail .head) | exact .tail (.tail (.tail .head)) | exact .tail (.tail (.tail (.tail .head))) | exact .tail (.tail (.tail (.tail (.tail .head))))) (by repeat constructor)) rfl ?_
      | refine ord_read rfl (fun _ hS => run_load1 rfl rfl (by first | assumption | exact hk _ hS | exact hg _ hS | exact hS.cell0 (by assumption) | exact lv_next hS | exact lv_list hS)) rfl ?_
    refine ord_read rfl (fun _ hS => run_indexAddr (sz := 3) rfl rfl rfl rfl (by omega) (by omega)) rfl ?_
    refine ord_read rfl (fun _ hS => run_fieldAddr (off := 0) rfl rfl) rfl ?_
    refine ord_end ?_
    refine lst_store1 hS rfl (by conv => lhs; whnf) rfl rfl (.tail .head) (by rw [Nat.zero_add]; exact hput) (.tail .head) ?_
    clear hS
    intro w8 hS
    refine lst_done ?_
    refine goes_inBlock ?_
    refine goes_region ?_
    refine lst_run (run_add rfl rfl (by omega) (by omega)) rfl ?_
    refine lst_run (run_move (by conv => lhs; whnf)) rfl ?_
    refine lst_done ?_
    refine ih (R) _ _ _ ?_ ?_ (by conv => lhs; whnf) (by kernel_rfl)
    · simp
    · exact ⟨D1 ++ [k], setG L' k (fT (lnk x.ln k).g), by rw [hD1]; simp, by simp, by rw [setG_len]; exact hLl, heq, hS⟩
  | nil =>
  clear ih
  simp only [List.length_nil] at hlen3
  dsimp only [mob, mcs] at hS
  refine goes_seq ?_
  refine goes_region ?_
  first
    | refine lst_run (run_lss_yes rfl rfl (by omega)) rfl ?_
    | refine lst_run (run_lss_no rfl rfl (by omega)) rfl ?_
    | refine lst_run (rfl) rfl ?_
  refine lst_done ?_
  refine goes_seq ?_
  refine goes_false rfl ?_
  refine goes_exit rfl ?_
  refine goes_seq ?_
  refine goes_region ?_
  refine lst_run (run_move (by conv => lhs; whnf)) rfl ?_
  refine lst_run (run_nilCheck rfl) rfl ?_
  refine lst_run (run_fieldAddr (off := 9) rfl rfl) rfl ?_
  first
    | refine lst_run (run_load1_own hS rfl rfl (by first | exact .head | exact .tail .head | exact .tail (.tail .head) | exact .tail (.tail (.tail .head)) | exact .tail (.tail (.tail (.tail .head))) | exact .tail (.tail (.tail (.tail (.tail .head))))) (by repeat constructor)) rfl ?_
    | refine lst_run (run_load1 rfl rfl (by first | assumption | exact hk _ hS | exact hg _ hS | exact hS.cell0 (by assumption) | exact lv_next hS | exact lv_list hS)) rfl ?_
  refine lst_run (run_len_slice rfl rfl rfl) rfl ?_
  refine lst_run (run_move (by conv => lhs; whnf)) rfl ?_
  refine lst_done ?_
  refine goes_block ?_
  replace heq : L' = setGs I ((gsOf x.ln I).map fT) x.ln := heq
  replace hS := hS.perm (.cons _ (List.perm_middle (l₁ := O2)).symm)
  refine goes_loop1 112 (113 :: 114 :: 13 :: 115 :: 116 :: 117 :: 118 :: 119 :: 120 :: 121 :: 122 :: 123 :: 124 :: 125 :: 126 :: 127 :: 128 :: 129 :: 130 :: 131 :: 132 :: 133 :: 134 :: 135 :: 136 :: 137 :: []) (fun (R : List LX) v w' => ∃ (E1 : List LX) (O2' : List (Nat × Obj)), E = E1 ++ R ∧ v = .int .i64 (E1.length : Nat) ∧ Row 151 4 (.slice CA cs.length cc) cs.length (xcL (E1.map (LX.up fT gT) ++ R)) O2' ∧ St M w0 ((b, mob P pA pc vars fuel every (XS.mk h' x.goals x.ln x.first x.ch x.ev) (XD.mk A6 c6 B6 d6 (some ⟨gl, 0, none⟩) lc [] cs CA cc [] evs EA ec [])) :: (O2' ++ ((gl, .cells (xlL L' ++ sp).toArray 101) :: (O3 ++ H)))) F6 w') (fun R => R.length) (E) ?_ (by conv => lhs; whnf) ?_
  · exact ⟨[], O2, rfl, rfl, by rw [← hEc]; exact hrow2, hS⟩
  clear hS
  rintro R _ w9 jv5 ⟨E1, O2', hE1, rfl, hrow, hS⟩ ih
  have hlen4 : E.length = E1.length + R.length := by rw [hE1]; simp
  cases R with
  | cons k R =>
    simp only [List.length_cons] at hlen4
    have hupl : (E1.map (LX.up fT gT)).length = E1.length := by simp
    generalize hEu : E1.map (LX.up fT gT) = Eu at *
    have hcp := hrow.cap
    have hxl := hrow.len_
    obtain ⟨gc, sp2, rfl, rfl, hcap2⟩ := hrow.some_ (by omega)
    obtain ⟨bt, ot, rfl⟩ := (hS.und ht6).some_ (by omega)
    obtain ⟨bk, ok, rfl⟩ := (hS.und hk6).some_ (by omega)
    have hc1 : ∀ {H'} w', St M w0 H' F6 w' → w'.cell? ⟨bt, ot + ((E1.length : Nat) : Int).toNat * 1, none⟩ = some (.int .i64 (((fT (k.cells : Nat)).toNat : Nat) : Int)) := fun w' hS => by
      have := (hS.und ht6).get (j := E1.length) (v := .int .i64 (fT (k.cells : Nat))) (by rw [hTt, hE1]; simp [intsV])
      rw [show ((E1.length : Nat) : Int).toNat * 1 = E1.length by omega, Int.toNat_of_nonneg (ht.fn _)]; exact this
    have hc2 : ∀ {H'} w', St M w0 H' F6 w' → w'.cell? ⟨bk, ok + ((E1.length : Nat) : Int).toNat * 1, none⟩ = some (.int .i64 (((gT (k.bound : Nat)).toNat : Nat) : Int)) := fun w' hS => by
      have := (hS.und hk6).get (j := E1.length) (v := .int .i64 (gT (k.bound : Nat))) (by rw [hKt, hE1]; simp [intsV])
      rw [show ((E1.length : Nat) : Int).toNat * 1 = E1.length by omega, Int.toNat_of_nonneg (ht.gn _)]; exact this
    have hp1 : Put (xcL (Eu ++ k :: R) ++ sp2) (E1.length * 4 + 2) (.int .i64 (((fT (k.cells : Nat)).toNat : Nat) : Int)) (xcL (Eu ++ k.cells' (fT (k.cells : Nat)).toNat :: R) ++ sp2) := by
      have := xcL_put2 (Eu ++ k :: R) sp2 Eu.length (fT (k.cells : Nat)).toNat (by simp)
      rwa [modify_mid, hupl] at this
    have hp2 : Put (xcL (Eu ++ k.cells' (fT (k.cells : Nat)).toNat :: R) ++ sp2) (E1.length * 4 + 3) (.int .i64 (((gT (k.bound : Nat)).toNat : Nat) : Int)) (xcL (Eu ++ (k.cells' (fT (k.cells : Nat)).toNat).bound' (gT (k.bound : Nat)).toNat :: R) ++ sp2) := by
      have := xcL_put3 (Eu ++ k.cells' (fT (k.cells : Nat)).toNat :: R) sp2 Eu.length (gT (k.bound : Nat)).toNat (by simp)
      rwa [modify_mid, hupl] at this
    replace hS : St M w0 ((b, mob P pA pc vars fuel every (XS.mk h' x.goals x.ln x.first x.ch x.ev) (XD.mk A6 c6 B6 d6 (some ⟨gl, 0, none⟩) lc [] cs (some ⟨gc, 0, none⟩) cc [] evs EA ec [])) :: (gc, .cells (xcL (Eu ++ k :: R) ++ sp2).toArray 151) :: ((gl, .cells (xlL L' ++ sp).toArray 101) :: (O3 ++ H))) F6 _ := hS
    dsimp only [mob, mcs] at hS
    refine goes_seq ?_
    refine goes_region ?_
    first
      | refine lst_run (run_lss_yes rfl rfl (by omega)) rfl ?_
      | refine lst_run (run_lss_no rfl rfl (by omega)) rfl ?_
      | refine lst_run (rfl) rfl ?_
    refine lst_done ?_
    refine goes_seq ?_
    refine goes_true rfl ?_
    refine goes_skip ?_
    refine goes_seq ?_
    refine goes_block ?_
    refine goes_seq ?_
    refine goes_region ?_
    refine lst_run (run_move (by conv => lhs; whnf)) rfl ?_
    refine lst_run (run_assign (by conv => lhs; whnf)) rfl ?_
    refine lst_done ?_
    refine goes_seq ?_
    refine goes_draw (St _ _ _ _) 11 ((0, true) :: (1, true) :: (2, true) :: (3, true) :: (4, true) :: (5, true) :: (6, true) :: (7, true) :: (8, true) :: (9, true) :: (10, true) :: []) (by kernel_rfl) (by kernel_rfl) (hS.drew) ?_
    replace hS := hS.drew
    refine ord_read rfl (fun _ hS => run_move (by conv => lhs; whnf)) rfl ?_
    refine ord_read rfl (fun _ hS => run_nilCheck rfl) rfl ?_
    refine ord_read rfl (fun _ hS => run_fieldAddr (off := 9) rfl rfl) rfl ?_
    first
      | refine ord_read rfl (fun _ hS => run_load1_own hS rfl rfl (by first | exact .head | exact .tail .head | exact .tail (.tail .head) | exact .tail (.tail (.tail .head)) | exact .tail (.tail (.tail (.tail .head))) | exact .tail (.tail (.tail (.tail (.tail .head))))) (by repeat constructor)) rfl ?_
      | refine ord_read rfl (fun _ hS => run_load1 rfl rfl (by first | assumption | exact hc1 _ hS | exact hc2 _ hS | exact hS.cell0 (by assumption) | exact lv_next hS | exact lv_list hS)) rfl ?_
    refine ord_read rfl (fun _ hS => run_move (by conv => lhs; whnf)) rfl ?_
    refine ord_read rfl (fun _ hS => run_move (by conv => lhs; whnf)) rfl ?_
    refine ord_read rfl (fun _ hS => run_move (by conv => lhs; whnf)) rfl ?_
    refine ord_read rfl (fun _ hS => run_indexAddr (sz := 1) rfl rfl rfl rfl (by omega) (by omega)) rfl ?_
    first
      | refine ord_read rfl (fun _ hS => run_load1_own hS rfl rfl (by first | exact .head | exact .tail .head | exact .tail (.tail .head) | exact .tail (.tail (.tail .head)) | exact .tail (.tail (.tail (.tail .head))) | exact .tail (.tail (.tail (.tail (.tail .head))))) (by repeat constructor)) rfl ?_
      | refine ord_read rfl (fun _ hS => run_load1 rfl rfl (by first | assumption | exact hc1 _ hS | exact hc2 _ hS | exact hS.cell0 (by assumption) | exact lv_next hS | exact lv_list hS)) rfl ?_
    refine ord_read rfl (fun _ hS => run_indexAddr (sz := 4) rfl rfl rfl rfl (by omega) (by omega)) rfl ?_
    refine ord_read rfl (fun _ hS => run_fieldAddr (off := 2) rfl rfl) rfl ?_
    refine ord_end ?_
    refine lst_store1 hS rfl (by conv => lhs; whnf) rfl rfl (.tail .head) (by rw [Nat.zero_add]; exact hp1) (.tail .head) ?_
    clear hS
    intro w10 hS
    refine lst_done ?_
    refine goes_draw (St _ _ _ _) 11 ((0, true) :: (1, true) :: (2, true) :: (3, true) :: (4, true) :: (5, true) :: (6, true) :: (7, true) :: (8, true) :: (9, true) :: (10, true) :: []) (by kernel_rfl) (by kernel_rfl) (hS.drew) ?_
    replace hS := hS.drew
    refine ord_read rfl (fun _ hS => run_move (by conv => lhs; whnf)) rfl ?_
    refine ord_read rfl (fun _ hS => run_nilCheck rfl) rfl ?_
    refine ord_read rfl (fun _ hS => run_fieldAddr (off := 9) rfl rfl) rfl ?_
    first
      | refine ord_read rfl (fun _ hS => run_load1_own hS rfl rfl (by first | exact .head | exact .tail .head | exact .tail (.tail .head) | exact .tail (.tail (.tail .head)) | exact .tail (.tail (.tail (.tail .head))) | exact .tail (.tail (.tail (.tail (.tail .head))))) (by repeat constructor)) rfl ?_
      | refine ord_read rfl (fun _ hS => run_load1 rfl rfl (by first | assumption | exact hc1 _ hS | exact hc2 _ hS | exact hS.cell0 (by assumption) | exact lv_next hS | exact lv_list hS)) rfl ?_
    refine ord_read rfl (fun _ hS => run_move (by conv => lhs; whnf)) rfl ?_
    refine ord_read rfl (fun _ hS => run_move (by conv => lhs; whnf)) rfl ?_
    refine ord_read rfl (fun _ hS => run_move (by conv => lhs; whnf)) rfl ?_
    refine ord_read rfl (fun _ hS => run_indexAddr (sz := 1) rfl rfl rfl rfl (by omega) (by omega)) rfl ?_
    first
      | refine ord_read rfl (fun _ hS => run_load1_own hS rfl rfl (by first | exact .head | exact .tail .head | exact .tail (.tail .head) | exact .tail (.tail (.tail .head)) | exact .tail (.tail (.tail (.tail .head))) | exact .tail (.tail (.tail (.tail (.tail .head))))) (by repeat constructor)) rfl ?_
      | refine ord_read rfl (fun _ hS => run_load1 rfl rfl (by first | assumption | exact hc1 _ hS | exact hc2 _ hS | exact hS.cell0 (by assumption) | exact lv_next hS | exact lv_list hS)) rfl ?_
    refine ord_read rfl (fun _ hS => run_indexAddr (sz := 4) rfl rfl rfl rfl (by omega) (by omega)) rfl ?_
    refine ord_read rfl (fun _ hS => run_fieldAddr (off := 3) rfl rfl) rfl ?_
    refine ord_end ?_
    refine lst_store1 hS rfl (by conv => lhs; whnf) rfl rfl (.tail .head) (by rw [Nat.zero_add]; exact hp2) (.tail .head) ?_
    clear hS
    intro w11 hS
    refine lst_done ?_
    refine goes_inBlock ?_
    refine goes_region ?_
    refine lst_run (run_add rfl rfl (by omega) (by omega)) rfl ?_
    refine lst_run (run_move (by conv => lhs; whnf)) rfl ?_
    refine lst_done ?_
    refine ih (R) _ _ _ ?_ ?_ (by conv => lhs; whnf) (by kernel_rfl)
    · simp
    · refine ⟨E1 ++ [k], [(gc, .cells (xcL (Eu ++ (k.cells' (fT (k.cells : Nat)).toNat).bound' (gT (k.bound : Nat)).toNat :: R) ++ sp2).toArray 151)], by rw [hE1]; simp, by simp, ?_, hS⟩
      have e : (E1 ++ [k]).map (LX.up fT gT) ++ R = Eu ++ (k.cells' (fT (k.cells : Nat)).toNat).bound' (gT (k.bound : Nat)).toNat :: R := by rw [List.map_append, hEu]; simp [LX.up, LX.cells', LX.bound']
      rw [e]
      exact Row.anew hcap2 hxl hcp (by omega) (by rw [xcL_len, xcL_len]; simp)
  | nil =>
  clear ih
  simp only [List.length_nil] at hlen4
  refine goes_seq ?_
  refine goes_region ?_
  first
    | refine lst_run (run_lss_yes rfl rfl (by omega)) rfl ?_
    | refine lst_run (run_lss_no rfl rfl (by omega)) rfl ?_
    | refine lst_run (rfl) rfl ?_
  refine lst_done ?_
  refine goes_seq ?_
  refine goes_false rfl ?_
  refine goes_exit rfl ?_
  refine goes_end0 Tryz.func56 rfl ?_
  refine ⟨rfl, ⟨A6, c6, B6, d6, some ⟨gl, 0, none⟩, lc, [(gl, .cells (xlL L' ++ sp).toArray 101)], cs.map (LX.up fT gT), CA, cc, O2', evs, EA, ec, O3⟩, F6, hFF6, ⟨hH6, ?_, ?_, ?_, ?_, hok6.he, hok6.re, hok6.row3, hok6.rp⟩, ?_⟩
  · show Row _ 3 (.slice (some ⟨gl, 0, none⟩) (setGs I ((gsOf x.ln I).map fT) x.ln).length lc) (setGs I ((gsOf x.ln I).map fT) x.ln).length (xlL (setGs I ((gsOf x.ln I).map fT) x.ln)) _
    rw [← heq, hLl]
    exact Row.anew hcap hrow1.len_ hlcap hLp (by rw [xlL_len, xlL_len, hLl])
  · show (cs.map (LX.up fT gT)).map LX.xc = _
    rw [← hcs, List.map_map, List.map_map]
    rfl
  · intro q hq
    obtain ⟨q', hq', rfl⟩ := List.mem_map.1 hq
    exact hok6.rc q' hq'
  · show Row _ 4 (.slice CA (cs.map (LX.up fT gT)).length cc) (cs.map (LX.up fT gT)).length (xcL (cs.map (LX.up fT gT)).reverse) O2'
    rw [List.length_map, ← List.map_reverse, hEc]
    rw [List.append_nil] at hE1 hrow
    rw [hE1]; exact hrow
  · have h5 := hS.perm (.cons _ (List.perm_middle (l₁ := O2')))
    have em : mob P pA pc vars fuel every (XS.mk h' x.goals x.ln x.first x.ch x.ev) (XD.mk A6 c6 B6 d6 (some ⟨gl, 0, none⟩) lc [] cs CA cc [] evs EA ec []) = mob P pA pc vars fuel every ⟨h', x.goals, setGs I ((gsOf x.ln I).map fT) x.ln, x.first, x.ch.map (fun c => ⟨c.at_, c.cls, (fT (c.cells : Nat)).toNat, (gT (c.bound : Nat)).toNat⟩), x.ev⟩ ⟨A6, c6, B6, d6, some ⟨gl, 0, none⟩, lc, [(gl, .cells (xlL L' ++ sp).toArray 101)], cs.map (LX.up fT gT), CA, cc, O2', evs, EA, ec, O3⟩ := by
      show Obj.cells _ _ _ = Obj.cells _ _ _
      rw [← heq]
      simp [hLl]
    rw [em] at h5
    exact h5
end
end Go.Proofs.YthliapbflkfdiacGreatDoor
namespace Go.Proofs.YthliapbflkfdiacGreatDoor
open Go.RowKit
set_option linter.unusedVariables false
set_option linter.unusedSimpArgs false
set_option maxRecDepth 8000

theorem layL_pos (T : Ts) : ∀ (p : Nat), ∀ g ∈ (layL T p).2, (p : Int) ≤ g ∧ g ≤ (p + (layL T p).1.length : Nat) := by
  induction T with
  | nil => intro p g hg; cases hg
  | cons k n s ar r _ ih =>
    intro p g hg
    simp only [layL, List.length_append] at hg ⊢
    rcases List.mem_cons.1 hg with rfl | hg
    · omega
    · have := ih _ g hg
      omega
theorem blockC_len' (c : Cl) : (blockC c).length = c.vars.toNat + ((lay1 c.k c.n c.s c.hd c.vars.toNat).length + (layL c.bd (c.vars.toNat + (lay1 c.k c.n c.s c.hd c.vars.toNat).length)).1.length) := by
  simp only [blockC, List.length_append, varsB_len]
theorem gok_of {c : Cl} (h : cB c = true) : GOk c := by
  obtain ⟨h0, h1, h2, h3, h4⟩ := cB_iff h
  have hb := blockC_len h
  rw [blockC_len'] at hb
  refine ⟨h0, by omega, by unfold goalsC; rw [layL_len]; omega, fun g hg => ?_⟩
  have := layL_pos _ _ g hg
  omega
theorem lbok_of {x : LB} (h : cB x.cl = true) : x.ok := by
  obtain ⟨h0, h1, h2, h3, h4⟩ := cB_iff h
  have hb := blockC_len h
  refine ⟨h0, by omega, by omega, ?_⟩
  have e : (blockC x.cl)[x.cl.vars.toNat]? = some (headX x.cl) := by
    unfold blockC headX
    rw [List.getElem?_append_right (by rw [varsB_len]; omega), varsB_len, Nat.sub_self]
    unfold lay1
    by_cases hk : x.cl.k = 3
    · rw [if_pos hk, if_pos hk]; rfl
    · rw [if_neg hk, if_neg hk]; rfl
  unfold hat; rw [if_pos h0]; exact e
theorem goalsQ_ok {v : Nat} {q : Ts} (h : qB (v : Nat) q = true) : (goalsQ (v : Nat) q).length ≤ 1000 ∧ ∀ g ∈ goalsQ (v : Nat) q, 0 ≤ g ∧ g ≤ 1000000 := by
  simp only [qB, Bool.and_eq_true, decide_eq_true_eq] at h
  obtain ⟨⟨⟨v0, v1⟩, v2⟩, v3⟩ := h
  have hn := Ts.goals_nodes _ _ v3
  have hll := layL_le q v
  unfold goalsQ
  rw [Int.toNat_natCast]
  refine ⟨by rw [layL_len]; omega, fun g hg => ?_⟩
  have := layL_pos _ _ g hg
  omega
theorem ChsRel.cls {q f : Nat} {L : List XL} : ∀ {B : Bnd} {h : HH} {cs : List Ch} {ds : List XC} {n : Nat}, ChsRel q f L B h cs ds → chsOk cs n → ∀ d ∈ ds, d.cls.length ≤ cntC cs ∧ ∀ c ∈ d.cls, cB c = true
  | _, _, [], [], _, _, _, d, hd => by cases hd
  | _, _, c :: cs, e :: ds, n, ⟨R, g, _, _, _, _, b5, _, b7⟩, ⟨_, _, _, _, k5, k6⟩, d, hd => by
    rcases List.mem_cons.1 hd with rfl | hd
    · rw [b5]; exact ⟨by simp only [cntC]; omega, k5⟩
    · obtain ⟨h1, h2⟩ := b7.cls k6 d hd
      exact ⟨by simp only [cntC]; omega, h2⟩
theorem XRel.goals150 {q F : Nat} {s : SS} {x : XS} (H : XRel q F s x) : x.goals ≤ F ∧ F ≤ 150 := by
  have := H.i.fuel; have := H.i.f150; omega
theorem XRel.bd {q F : Nat} {s : SS} {x : XS} (H : XRel q F s x) : XBd x := by
  have hI := H.gs.c
  have hl := H.i.ch.len
  have h1 := hI.ch.len
  have h2 := hI.fr
  unfold mu at h2
  have h3 := H.i.lsz
  refine ⟨by omega, by omega, fun d hd => ?_⟩
  obtain ⟨c1, c2⟩ := H.i.csz d hd
  have hg := H.goals150
  obtain ⟨k1, k2⟩ := H.i.ch.cls hI.ch d hd
  exact ⟨H.i.ch.at_lt d hd, by omega, by omega, by omega, fun c hc => gok_of (k2 c hc)⟩
theorem XRel.lnok {q F : Nat} {s : SS} {x : XS} (H : XRel q F s x) : LnOk x.ln := by
  intro l hl
  obtain ⟨i, hi⟩ := List.mem_iff_getElem?.1 hl
  have := H.i.lnx i l hi
  have hil : i < x.ln.length := by
    rcases Nat.lt_or_ge i x.ln.length with h | h
    · exact h
    · rw [List.getElem?_eq_none h] at hi; cases hi
  omega
theorem at_mem : ∀ {T : Ts} {i : Nat}, i < T.length → T.Mem (T.at_ i)
  | .nil, i, h => by simp [Ts.length] at h
  | .cons k n s a r, 0, h => .inl rfl
  | .cons k n s a r, i + 1, h => .inr (at_mem (by simpa [Ts.length] using h))
theorem leads_of {q f : Nat} {B : Bnd} {h : HH} {R : Tm → Int → Prop} (H : GRel q f B h R) (hB : ∀ x ∈ B, tgd x.2) (hl : h.cs.length ≤ 65536) {t : Tm} {a : Int} (ht : R t a) (hg : tgd t) : Leads h a := by
  have da : isAddr h.cs a = true := H.bm.db ht
  have ho : HOk h := H.bm.okb
  obtain ⟨y, c, h1, h2, h3, h4⟩ := ho.view da
  obtain ⟨l1, l2⟩ := look_cell H ht
  have hc : cellX h a = c := by unfold cellX; rw [h1.look, h2]; rfl
  rw [hc] at l1 l2
  refine ⟨c, by rw [h1.look]; exact h2, ?_⟩
  have hgc := goodC_iff (good_hat ho.gl h2)
  by_cases hk : c.k = 2
  · have hn := l2 (by omega)
    have hq : tgd (lookM B t) := look_Q hB hg
    obtain ⟨g1, _⟩ := hq
    simp only [Ts.good, Bool.and_eq_true] at g1
    have g2 := g1.1.1
    unfold nodeB at g2
    rw [if_neg (by omega), if_neg (by omega), if_pos (by omega)] at g2
    simp only [Bool.and_eq_true, decide_eq_true_eq] at g2
    omega
  · rcases hgc with ⟨_, b1, b2, _⟩ | ⟨_, b1, _⟩ | ⟨b1, _⟩ | ⟨_, b1, b2, _⟩
    · omega
    · omega
    · exact absurd b1 hk
    · omega
/-- What a goal's processing asks of the machine. -/
theorem XRel.stepOk {q F : Nat} {s : SS} {x : XS} (H : XRel q F s x) (hne : x.first ≠ -1) : MStepOk x := by
  have hg := H.goals150
  have hcs := H.cs
  have hts := H.ts
  have hlen : x.h.cs.length ≤ 65536 := by omega
  obtain ⟨R, hG, hC⟩ := H.cur
  cases hgs : s.goals with
  | nil => rw [hgs] at hC; exact absurd hC hne
  | cons g rest =>
    rw [hgs] at hC
    obtain ⟨k, l, hk, h2, h3, h4, h5, h6⟩ := hC
    have hlk := lnk_of h2
    have hkl : k < x.ln.length := by
      rcases Nat.lt_or_ge k x.ln.length with h | h
      · exact h
      · rw [List.getElem?_eq_none h] at h2; cases h2
    obtain ⟨c1, c2, c3, c4, c5, c6, c7, c8⟩ := goal_cell hG h3
    have hgl := goodC_iff (good_hat hG.bm.okb.gl c8)
    have htg := H.gs.gg g (by rw [hgs]; exact List.mem_cons_self ..)
    have hog := H.gs.og
    rw [hgs] at hog
    have hl := H.i.ch.len
    refine ⟨H.bd, hlen, by omega, by omega, by omega, ?_, ?_⟩
    · rw [hk, Int.toNat_natCast, hlk, h4]
      have := hog.1
      omega
    · rw [hk, Int.toNat_natCast, hlk]
      refine ⟨_, c8, c5, by omega, fun hb hn => ?_⟩
      have har : 2 ≤ g.1.ar.length := by
        rw [← c2]
        unfold builtB at hb
        rcases hn with e | e
        · rw [e] at hb; simp at hb; omega
        · rw [e] at hb; simp at hb; omega
      have hA : ∀ i, i < g.1.ar.length → Leads x.h (l.g + 1 + (i : Nat)) := fun i hi => leads_of hG H.gs.c.gb hlen (c7 hi) (tgd_down _ htg _ (at_mem hi))
      refine ⟨by simpa using hA 0 (by omega), by simpa using hA 1 (by omega)⟩
/-- What Collect answers of the machine's heap. -/
theorem XRel.told {q F : Nat} {s : SS} {x : XS} (H : XRel q F s x) : ∃ (h' : HH) (f g : Int → Int), Told q x h' f g := by
  obtain ⟨R, hG, hC⟩ := H.cur
  have hgd := H.i.gd
  have hlive : ∀ k ∈ liveX x, isAddr x.h.cs (lnk x.ln k).g = true :=
    chains_all (P := Pl x.ln x.h.cs) (fun i hi hp => hp.next i hi) _ _ (fun c hc => H.i.ch.pl c (List.mem_reverse.1 hc)) (chain_all (P := Pl x.ln x.h.cs) (fun i hi hp => hp.next i hi) _ _ _ ⟨_, _, hC, fun t a ht => hG.bm.db ht.1⟩ fun k hk => by cases hk)
  have hroot : ∀ r ∈ rootsX q x, isAddr x.h.cs r = true := by
    intro r hr
    unfold rootsX at hr
    rcases List.mem_append.1 hr with hr | hr
    · obtain ⟨v, hv, rfl⟩ := List.mem_map.1 hr
      exact hG.bm.db (hG.qv v (List.mem_range.1 hv))
    · obtain ⟨k, hk, rfl⟩ := List.mem_map.1 hr
      exact hlive k hk
  refine ⟨⟨collL (marksM x.h.cs (rootsX q x)) x.h.cs, collT (marksM x.h.cs (rootsX q x)) x.h.tr⟩, rkI (marksM x.h.cs (rootsX q x)), rkI (x.h.tr.map (markAt (marksM x.h.cs (rootsX q x)))), ?_, fun a => by show (0 : Int) ≤ (rk _ _ : Nat); omega, fun a => by show (0 : Int) ≤ (rk _ _ : Nat); omega⟩
  unfold collectH
  rw [if_neg (by rw [hgd]; decide), if_neg (by rw [List.all_eq_true.2 hroot]; decide)]
theorem XRel.live {q F : Nat} {s : SS} {x : XS} (H : XRel q F s x) : (∀ k ∈ liveX x, k < x.ln.length) ∧ (x.first = -1 ∨ (0 ≤ x.first ∧ x.first < x.ln.length)) := by
  obtain ⟨R, hG, hC⟩ := H.cur
  have hb := hC.bd
  obtain ⟨hI, hf, hcl⟩ := live_ok H.i.lnx hb.1 hb.2 H.i.ch.at_lt
  exact ⟨hI.lt, by omega⟩
/-- What holds between two steps. -/
def Iv (q F n : Nat) (x : XS) : Prop := ∃ s : SS, XRel q F s x ∧ s.ev.length < 12 ∧ mu s < n
theorem Iv.start {q : Ts} {v F : Nat} (hq : qB (v : Nat) q = true) (hF : F ≤ 150) : Iv v F 4000 (startX q (v : Nat)) := by
  obtain ⟨hI, hmu⟩ := start_inv hq hF
  exact ⟨_, start_sim hq hF, by simp [startM], by omega⟩
theorem Iv.next {P : List Cl} {q F every n : Nat} {x : XS} (hp : pB P = true) (h : Iv q F n x) : ∃ n', n = n' + 1 ∧ (stepX P q F every x).2.ev.length ≤ 12 ∧ ((stepX P q F every x).1 = 0 → Iv q F n' (stepX P q F every x).2) := by
  obtain ⟨s, H, hev, hmu⟩ := h
  obtain ⟨h1, h2, h3⟩ := step_sim (every := every) hp H hev
  obtain ⟨hst, hst2⟩ := step_ok (vars := q) H.gs hev hp
  have hev3 := step_ev P q s H.gs hev hp
  refine ⟨n - 1, by omega, by rw [h2]; exact hev3, fun h0 => ?_⟩
  rw [← h1] at h0
  exact ⟨_, h3 h0, hst2 h0, by have := (hst.go h0).2; omega⟩
end Go.Proofs.YthliapbflkfdiacGreatDoor
namespace Go.Proofs.YthliapbflkfdiacGreatDoor
open Go.RowKit
set_option linter.unusedVariables false
set_option linter.unusedSimpArgs false
set_option maxRecDepth 100000
set_option maxHeartbeats 1000000

theorem ClsAt.segC {w : World} {b : Nat} : ∀ {L : List LC} {o : Nat}, ClsAt w b L o → (∀ x ∈ L, LCRd x w) → SegC w (fun _ => True) (L.map LC.cl) b o
  | [], _, _, _ => trivial
  | c :: r, o, ⟨h0, h1, h2, h3, h4, h5, h6⟩, hr => ⟨trivial, h0, h1, h2, ⟨_, h3, (hr c (.head _)).1.sl⟩, ⟨_, h4, (hr c (.head _)).2.sl⟩, h5, h6.segC fun x hx => hr x (.tail _ hx)⟩
theorem ClsR.slC {L : List LC} {A : Option Addr} {c : Nat} {w : World} (h : ClsR L A c w) : SlC w (fun _ => True) (.slice A L.length c) (L.map LC.cl) := by
  refine ⟨A, c, by simp, by simpa using h.1, fun hl => ?_⟩
  obtain ⟨b, o, e, hs⟩ := h.2.1 (by simpa using hl)
  exact ⟨b, o, e, hs.segC h.2.2⟩
section
variable {M : List Nat} {w0 : World} {H : List (Nat × Obj)} {F : List (World → Prop)}
end
end Go.Proofs.YthliapbflkfdiacGreatDoor
namespace Go.Proofs.YthliapbflkfdiacGreatDoor
open Go.RowKit
set_option linter.unusedVariables false
set_option linter.unusedSimpArgs false
set_option maxRecDepth 100000
set_option maxHeartbeats 1000000
section
variable {M : List Nat} {w0 : World} {H : List (Nat × Obj)} {F : List (World → Prop)}
theorem mstepI_any {b : Nat} {P : List LB} {pA : Option Addr} {pc vars fuel every n : Nat} {x : XS} (hp : pB (P.map LB.cl) = true) (hIv : Iv vars fuel n x) (hevr : every ≤ 9223372036854775807) (w : World) (hs : XSt M w0 H F b P pA pc vars fuel every x w) :
    Calls Tryz.prog 31 #[ptm b] w fun e w' => e = .returned (.int .i64 (stepX (P.map LB.cl) vars fuel every x).1) ∧ XSt M w0 H F b P pA pc vars fuel every (stepX (P.map LB.cl) vars fuel every x).2 w' := by
  obtain ⟨s, hR, hev, hmu⟩ := hIv
  have hp2 : (P.map LB.cl).length ≤ 24 ∧ ∀ x ∈ P.map LB.cl, cB x = true := by
    unfold pB at hp
    simp only [Bool.and_eq_true, decide_eq_true_eq, List.all_eq_true] at hp
    exact hp
  have hq8 := hR.i.q8
  have hg := hR.goals150
  have hmb : XRel vars fuel s (maybeX vars every x) ∧ (maybeX vars every x).first = x.first ∧ (maybeX vars every x).goals = x.goals := by
    unfold maybeX
    split
    · exact coll_sim hR
    · exact ⟨hR, rfl, rfl⟩
  refine mstep_any x w (fun p hpm => ?_) (by simpa using hp2.1) hq8 hR.bd (by rw [hR.i.ev]; exact hev) (by omega) hg.1 hevr (fun h1 h2 h3 h4 w2 hs2 => ?_) (fun h1 h2 => ⟨?_, hmb.2.2⟩) hs
  · have := hp2.2 p.cl (List.mem_map.2 ⟨p, hpm, rfl⟩)
    exact ⟨lbok_of this, gok_of this⟩
  · obtain ⟨h', f, g, ht⟩ := hR.told
    obtain ⟨hlv, hf⟩ := hR.live
    exact mcollect_any x h' f g w2 hR.bd hR.lnok hlv (by omega) hf hq8 ht hs2
  · exact hmb.1.stepOk (by rw [hmb.2.1]; exact h1)
theorem runAll_any (X : List LC) (xA : Option Addr) (xc : Nat) (q : TA) (qA : Option Addr) (qc : Nat) (vars fuel every : Int) (w : World) (hX : Und F (ClsR X xA xc)) (hq : Und F (ArA qA qc q))
    (hpl : X.length ≤ 9223372036854775807) (hpw : ClsWide (X.map LC.cl)) (hql : q.len ≤ 9223372036854775807) (hqw : q.ts.wide) (hev : every ≤ 9223372036854775807) (hS : St M w0 H F w) :
    Calls Tryz.prog 12 #[.slice xA X.length xc, .slice qA q.len qc, .int .i64 vars, .int .i64 fuel, .int .i64 every] w fun e w' => ∃ (A : Option Addr) (c : Nat) (L : List KE) (F' : List (World → Prop)), e = .returned (.tuple #[.slice A L.length c, .int .i64 (allX (X.map LC.cl) q.ts vars fuel every).2]) ∧ L.map KE.ev = (allX (X.map LC.cl) q.ts vars fuel every).1 ∧ (∀ φ ∈ F, φ ∈ F') ∧ Und F' (KER L A c) ∧ St M w0 H F' w' := by
  by_cases hp : pB (X.map LC.cl) = true
  case neg =>
    exact rall_any (fun _ _ => False) X xA xc q qA qc vars fuel every w hX hq (fun w' hS => goodProgramW_any _ _ w' (hS.und hX).slC (by simpa using hpl) hpw) (fun w' hS => goodQueryW_any vars _ _ w' (hS.und hq).sl (by rw [TA.len_ts]; exact hql) hqw)
      (fun h => absurd h hp) (fun h => absurd h hp) (fun _ _ _ _ _ _ _ _ h => h.elim) (fun _ _ h => h.elim) hS
  by_cases hqB : qB vars q.ts = true
  case neg =>
    exact rall_any (fun _ _ => False) X xA xc q qA qc vars fuel every w hX hq (fun w' hS => goodProgramW_any _ _ w' (hS.und hX).slC (by simpa using hpl) hpw) (fun w' hS => goodQueryW_any vars _ _ w' (hS.und hq).sl (by rw [TA.len_ts]; exact hql) hqw)
      (fun _ h => absurd h hqB) (fun _ h => absurd h hqB) (fun _ _ _ _ _ _ _ _ h => h.elim) (fun _ _ h => h.elim) hS
  by_cases hf : 0 ≤ fuel ∧ fuel ≤ 150
  case neg =>
    exact rall_any (fun _ _ => False) X xA xc q qA qc vars fuel every w hX hq (fun w' hS => goodProgramW_any _ _ w' (hS.und hX).slC (by simpa using hpl) hpw) (fun w' hS => goodQueryW_any vars _ _ w' (hS.und hq).sl (by rw [TA.len_ts]; exact hql) hqw)
      (fun _ _ h1 h2 => absurd ⟨h1, h2⟩ hf) (fun _ _ h1 h2 => absurd ⟨h1, h2⟩ hf) (fun _ _ _ _ _ _ _ _ h => h.elim) (fun _ _ h => h.elim) hS
  have hp2 : (X.map LC.cl).length ≤ 24 ∧ ∀ x ∈ X.map LC.cl, cB x = true := by
    unfold pB at hp
    simp only [Bool.and_eq_true, decide_eq_true_eq, List.all_eq_true] at hp
    exact hp
  have hqB2 := hqB
  simp only [qB, Bool.and_eq_true, decide_eq_true_eq] at hqB2
  obtain ⟨v, rfl⟩ : ∃ v : Nat, vars = v := ⟨vars.toNat, by omega⟩
  have hgq := goalsQ_ok (v := v) (q := q.ts) hqB
  have hXw : ∀ c ∈ X, c.hd.ar.len ≤ 9223372036854775807 ∧ c.hd.ar.ts.wide ∧ c.bd.len ≤ 9223372036854775807 ∧ c.bd.ts.wide := fun c hc => by
    have h1 := hpw c.cl (List.mem_map.2 ⟨c, hc, rfl⟩)
    have h2 := c.hd.ar.len_ts
    have h3 := c.bd.len_ts
    obtain ⟨a1, a2, a3, a4⟩ := h1
    exact ⟨by rw [← h2]; exact a1, a2, by rw [← h3]; exact a3, a4⟩
  have hpc : ∀ c ∈ X, cB c.cl = true := fun c hc => hp2.2 c.cl (List.mem_map.2 ⟨c, hc, rfl⟩)
  have hXl : X.length ≤ 24 := by simpa using hp2.1
  have hst := Iv.start (q := q.ts) (v := v) (F := fuel.toNat) hqB (by omega)
  have hnew := fun w' hS => newMachine_any (M := M) (w0 := w0) (H := H) (F := F) X xA xc q qA qc v fuel.toNat every.toNat w' hX hq hXl hgq hql hqw hXw hpc hqB hS
  have hgp : ∀ w', St M w0 H F w' → Calls Tryz.prog 28 #[.slice xA X.length xc] w' fun e w'' => e = .returned (.bool (pB (X.map LC.cl))) ∧ Below w'.heap.size w' w'' := fun w' hS => goodProgramW_any _ _ w' (hS.und hX).slC (by simpa using hpl) hpw
  have hgo : ∀ w', St M w0 H F w' → Calls Tryz.prog 29 #[.slice qA q.len qc, .int .i64 (v : Nat)] w' fun e w'' => e = .returned (.bool (qB (v : Nat) q.ts)) ∧ Below w'.heap.size w' w'' := fun w' hS => goodQueryW_any (v : Nat) _ _ w' (hS.und hq).sl (by rw [TA.len_ts]; exact hql) hqw
  refine rall_any (Iv v fuel.toNat) X xA xc q qA qc (v : Nat) fuel every w hX hq hgp hgo (fun _ _ _ _ _ w' hS => ?_) (fun _ _ _ _ _ => hst) (fun b P pA pc F1 hPX n s hI w' hs => ?_) (fun n s hI => ?_) hS
  · rw [Int.toNat_natCast]; exact hnew w' hS
  · rw [Int.toNat_natCast] at hs ⊢
    rw [← hPX]
    exact mstepI_any (by rw [hPX]; exact hp) hI (by omega) w' hs
  · rw [Int.toNat_natCast]
    exact hI.next hp
end
end Go.Proofs.YthliapbflkfdiacGreatDoor
namespace Go.Proofs.YthliapbflkfdiacGreatDoor
open Go.RowKit Go.Shelf
set_option linter.unusedVariables false
set_option linter.unusedSimpArgs false
set_option maxRecDepth 100000
set_option maxHeartbeats 1000000

end Go.Proofs.YthliapbflkfdiacGreatDoor
namespace Go.Proofs.YthliapbflkfdiacGreatDoor
open Go.RowKit
set_option linter.unusedVariables false
set_option linter.unusedSimpArgs false
section
variable {P : Program} {n : Nat} {e : Env} {w : World} {ty : TypeId} {pos : String} {after : Array Edge} {x y z : Operand} {dst : Option Nat} {t : TypeId}
end
section
variable {P : Program} {n : Nat} {e : Env} {w w' : World} {ty : TypeId} {pos : String} {after : Array Edge} {x y z : Operand} {dst : Option Nat} {t t2 : TypeId}
theorem sub48 (c : UInt8) : IntKind.u8.wrap ((c.toNat : Int) - 48) = ((c - 48).toNat : Int) := by
  have h : ∀ k : Fin 256, IntKind.u8.wrap (((UInt8.ofNat k.val).toNat : Int) - 48) = ((UInt8.ofNat k.val - 48).toNat : Int) := by decide +kernel
  have := h ⟨c.toNat, c.toNat_lt⟩
  simpa using this
theorem run_sub_u8 {c : UInt8} (hx : ev n e x = .int .u8 c.toNat) (hy : ev n e y = .int .u8 48) :
    (execOp (ev n e) ⟨dst, .binOp .sub t x y t2, ty, pos, after, none⟩).run P w = .ok (.value (.int .u8 ((c - 48).toNat : Nat))) w := by
  have : (execOp (ev n e) ⟨dst, .binOp .sub t x y t2, ty, pos, after, none⟩).run P w = .ok (.value (.int .u8 (IntKind.u8.wrap ((c.toNat : Int) - 48)))) w := by simp only [execOp, hx, hy]; rfl
  rw [this, sub48]
def isIntP (P : Program) (t : TypeId) (k : IntKind) : Bool := match P.underlying t with | some (.int q) => q == k | _ => false
theorem intP {k : IntKind} (h : isIntP P t k = true) : P.underlying t = some (.int k) := by
  unfold isIntP at h
  split at h
  · rename_i q hq; rw [hq, eq_of_beq h]
  · cases h
theorem run_convert_to {u v : Value} {src dt : TypeId} (hx : ev n e x = u) (h : (convert src dt u).run P w = .ok v w') : (execOp (ev n e) ⟨dst, .convert src dt x, ty, pos, after, none⟩).run P w = .ok (.value v) w' := by
  subst hx
  show (Sem.bind (convert _ _ _) _).run _ _ = _
  rw [Sem.run_bind', h]
  rfl
theorem run_convert_u8 {c : UInt8} {src dt : TypeId} (hx : ev n e x = .int .u8 (c.toNat : Nat)) (hs : isIntP P src .u8 = true) (hd : isIntP P dt .i64 = true) :
    (execOp (ev n e) ⟨dst, .convert src dt x, ty, pos, after, none⟩).run P w = .ok (.value (.int .i64 (c.toNat : Nat))) w := by
  refine run_convert_to hx ?_
  have := c.toNat_lt
  simp [convert, run_underlying (intP hs), run_underlying (intP hd), Conv.intToInt]
  exact wrap_of (by omega) (by omega)
end
section
variable {M : List Nat} {w0 : World} {H : List (Nat × Obj)} {F : List (World → Prop)}
end
end Go.Proofs.YthliapbflkfdiacGreatDoor
