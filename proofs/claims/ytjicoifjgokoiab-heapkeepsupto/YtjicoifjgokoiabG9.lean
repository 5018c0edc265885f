/- HWalk8, HWalk9, Copy, Path: texts that follow one another, laid into one file. -/
import Derived.Test.YtjicoifjgokoiabG5
import Derived.Test.YtjicoifjgokoiabG8
import Derived.Test.YtjicoifjgokoiabG6
import Derived.Test.YtjicoifjgokoiabG1
import Derived.Test.YtjicoifjgokoiabRows
import Derived.Deep.LoopGhost
import Derived.Lib.Hide
import Derived.StillTailTactics
import Derived.RegionTactic
import Derived.OneCell
namespace Go.Proofs.Ytjicoifjgokoiab
open Go.RowKit
set_option linter.unusedVariables false
set_option linter.unusedSimpArgs false
set_option maxRecDepth 100000
set_option maxHeartbeats 1000000

abbrev iob (P : List Int) : Obj := .cells (intsV P).toArray 3
abbrev bob (A : Option Addr) (n c : Nat) (B : Option Addr) (m d pb np : Nat) (nodes most : Int) : Obj := .cells [.slice A n c, .slice B m d, .slice (some ⟨pb, 0, none⟩) np np, .int .i64 nodes, .int .i64 most].toArray 73
theorem intsV_put (P : List Int) (i : Nat) (x : Int) (h : i < P.length) : Put (intsV P) i (.int .i64 x) (intsV (P.set i x)) := by
  have := put_of (l := intsV P) (v := .int .i64 x) (i := i) (by simpa [intsV] using h)
  rwa [show (intsV P).set i (.int .i64 x) = intsV (P.set i x) by simp [intsV, List.map_set]] at this
section
variable {M : List Nat} {w0 : World} {H : List (Nat × Obj)} {F : List (World → Prop)} {bb pb c m d : Nat} {A B : Option Addr} {L : List HC} {nodes most : Int}
theorem places_at {P : List Int} {o : Obj} {H' : List (Nat × Obj)} {F' : List (World → Prop)} {w' : World} (hS : St M w0 ((bb, o) :: (pb, iob P) :: H') F' w') {i : Int} {v : Int} (h0 : 0 ≤ i) (hv : P[i.toNat]? = some v) : w'.cell? ⟨pb, 0 + i.toNat * 1, none⟩ = some (.int .i64 v) := by
  have ho := hS.own (pb, _) (.tail _ (.head _))
  rw [cell_own ho]
  simp [intsV, hv]
theorem get_in {P : List Int} {i : Nat} (h : i < P.length) : ∃ v, P[i]? = some v := ⟨P[i], List.getElem?_eq_getElem h⟩
theorem blook_any (P : List Int) (a : Int) (w : World) (hL : Und F (Flat 3 (hcsL L) A L.length c)) (hg : goodL L.length L = true) (hl : L.length ≤ 65536) (ha : isAddr L a = true) (hP : PInv L P)
    (hS : St M w0 ((bb, bob A L.length c B m d pb P.length nodes most) :: (pb, iob P) :: H) F w) :
    Calls Try.prog 70 #[ptr bb, .int .i64 a] w fun e w' => e = .returned (.int .i64 (hlook L a)) ∧ ∃ P', PInv L P' ∧ St M w0 ((bb, bob A L.length c B m d pb P'.length nodes most) :: (pb, iob P') :: H) F w' := by
  have ha' := isAddr_iff.1 ha
  have hadr : ∀ {e : Int} {x : HC}, hat L e = some x → x.k = 0 → isAddr L x.n = true := fun h hk => by
    have := good_ref hg h hk
    unfold isAddr; simp [this]
  have hpl := hP.1
  refine goes_enter2 Try.func70 rfl Try.ntmps70 rfl ?_
  refine goes_seq ?_
  refine goes_region ?_
  refine lst_run (run_assign (by conv => lhs; whnf)) rfl ?_
  refine lst_done ?_
  refine goes_seq ?_
  refine goes_region ?_
  refine lst_run (run_move (by conv => lhs; whnf)) rfl ?_
  refine lst_run (run_assign (by conv => lhs; whnf)) rfl ?_
  refine lst_done ?_
  refine goes_seq ?_
  refine goes_block ?_
  refine goes_mb1 5 (8 :: 9 :: 10 :: 11 :: 12 :: 13 :: 14 :: 15 :: 16 :: 17 :: 18 :: 19 :: 20 :: 21 :: 22 :: 23 :: 24 :: 25 :: 26 :: 27 :: 28 :: 29 :: 30 :: 31 :: 32 :: 33 :: 34 :: 35 :: 36 :: 37 :: 38 :: 39 :: 40 :: 41 :: 42 :: 43 :: 44 :: []) (fun v w' => ∃ (e : Int) (P' : List Int), v = .int .i64 e ∧ isAddr L e = true ∧ PMid L P' a e ∧ P'[e.toNat]? = some (hlook L a) ∧ St M w0 ((bb, bob A L.length c B m d pb P.length nodes most) :: (pb, iob P') :: H) F w') ?_ ?_
  · intro hmeet
    refine goes_loop1 5 (8 :: 9 :: 10 :: 11 :: 12 :: 13 :: 14 :: 15 :: 16 :: 17 :: 18 :: 19 :: 20 :: 21 :: 22 :: 23 :: 24 :: 25 :: 26 :: 27 :: 28 :: 29 :: 30 :: 31 :: 32 :: 33 :: 34 :: 35 :: 36 :: 37 :: 38 :: 39 :: 40 :: 41 :: 42 :: 43 :: 44 :: []) (fun (P' : List Int) v w' => ∃ e : Int, v = .int .i64 e ∧ isAddr L e = true ∧ PMid L P' a e ∧ St M w0 ((bb, bob A L.length c B m d pb P.length nodes most) :: (pb, iob P') :: H) F w') (fun P' => P'.count (-2)) (P) ?_ (by conv => lhs; whnf) ?_
    · exact ⟨a, rfl, ha, hP.mid a, hS⟩
    clear hS
    rintro P' _ w2 jv ⟨e, rfl, he, hM, hS⟩ ih
    obtain ⟨x, hx⟩ := isAddr_iff.1 he
    obtain ⟨e0, e1, hgx⟩ := hat_get hx
    have hpl' := hM.1
    obtain ⟨v, hv⟩ := get_in (P := P') (i := e.toNat) (by omega)
    have hpa : ∀ {o H' F'} w', St M w0 ((bb, o) :: (pb, iob P') :: H') F' w' → w'.cell? ⟨pb, 0 + e.toNat * 1, none⟩ = some (.int .i64 v) := fun w' hS => places_at hS e0 hv
    by_cases hu : v = -2
    case neg =>
      refine goes_seq ?_
      refine goes_seq ?_
      refine goes_region ?_
      refine lst_run (run_move (by conv => lhs; whnf)) rfl ?_
      refine lst_run (run_nilCheck rfl) rfl ?_
      refine lst_run (run_fieldAddr (off := 2) rfl rfl) rfl ?_
      first
        | refine lst_run (run_load1_own hS rfl rfl (by first | exact .head | exact .tail .head | exact .tail (.tail .head) | exact .tail (.tail (.tail .head)) | exact .tail (.tail (.tail (.tail .head))) | exact .tail (.tail (.tail (.tail (.tail .head))))) (by repeat constructor)) rfl ?_
        | refine lst_run (run_load1 rfl rfl (by first | assumption | exact hpa _ hS | exact hS.cell0 (by assumption) | exact lv_next hS | exact lv_list hS)) rfl ?_
      refine lst_run (run_move (by conv => lhs; whnf)) rfl ?_
      refine lst_run (run_indexAddr (sz := 1) rfl rfl rfl rfl (by omega) (by omega)) rfl ?_
      first
        | refine lst_run (run_load1_own hS rfl rfl (by first | exact .head | exact .tail .head | exact .tail (.tail .head) | exact .tail (.tail (.tail .head)) | exact .tail (.tail (.tail (.tail .head))) | exact .tail (.tail (.tail (.tail (.tail .head))))) (by repeat constructor)) rfl ?_
        | refine lst_run (run_load1 rfl rfl (by first | assumption | exact hpa _ hS | exact hS.cell0 (by assumption) | exact lv_next hS | exact lv_list hS)) rfl ?_
      first
        | refine lst_run (run_eql_one_int rfl rfl) rfl ?_
        | refine lst_run (run_eql_no rfl rfl (by first | assumption | omega)) rfl ?_
        | refine lst_run (run_eql_yes rfl rfl (by omega)) rfl ?_
        | refine lst_run (rfl) rfl ?_
      refine lst_done ?_
      refine goes_false rfl ?_
      refine goes_exit rfl ?_
      have hk := hM.known e0 hv hu
      exact hmeet _ _ _ ⟨e, P', rfl, he, hM, by rw [hv, hk], hS⟩ (by conv => lhs; whnf) (by kernel_rfl)
    subst hu
    refine goes_seq ?_
    refine goes_seq ?_
    refine goes_region ?_
    refine lst_run (run_move (by conv => lhs; whnf)) rfl ?_
    refine lst_run (run_nilCheck rfl) rfl ?_
    refine lst_run (run_fieldAddr (off := 2) rfl rfl) rfl ?_
    first
      | refine lst_run (run_load1_own hS rfl rfl (by first | exact .head | exact .tail .head | exact .tail (.tail .head) | exact .tail (.tail (.tail .head)) | exact .tail (.tail (.tail (.tail .head))) | exact .tail (.tail (.tail (.tail (.tail .head))))) (by repeat constructor)) rfl ?_
      | refine lst_run (run_load1 rfl rfl (by first | assumption | exact hpa _ hS | exact hS.cell0 (by assumption) | exact lv_next hS | exact lv_list hS)) rfl ?_
    refine lst_run (run_move (by conv => lhs; whnf)) rfl ?_
    refine lst_run (run_indexAddr (sz := 1) rfl rfl rfl rfl (by omega) (by omega)) rfl ?_
    first
      | refine lst_run (run_load1_own hS rfl rfl (by first | exact .head | exact .tail .head | exact .tail (.tail .head) | exact .tail (.tail (.tail .head)) | exact .tail (.tail (.tail (.tail .head))) | exact .tail (.tail (.tail (.tail (.tail .head))))) (by repeat constructor)) rfl ?_
      | refine lst_run (run_load1 rfl rfl (by first | assumption | exact hpa _ hS | exact hS.cell0 (by assumption) | exact lv_next hS | exact lv_list hS)) rfl ?_
    first
      | refine lst_run (run_eql_one_int rfl rfl) rfl ?_
      | refine lst_run (run_eql_no rfl rfl (by first | assumption | omega)) rfl ?_
      | refine lst_run (run_eql_yes rfl rfl (by omega)) rfl ?_
      | refine lst_run (rfl) rfl ?_
    refine lst_done ?_
    refine goes_true rfl ?_
    refine goes_skip ?_
    refine goes_block ?_
    refine goes_seq ?_
    refine goes_seq ?_
    refine goes_region ?_
    refine lst_run (run_move (by conv => lhs; whnf)) rfl ?_
    refine lst_run (run_nilCheck rfl) rfl ?_
    refine lst_run (run_fieldAddr (off := 0) rfl rfl) rfl ?_
    first
      | refine lst_run (run_loadN_own (k := 2) hS rfl rfl rfl (by first | exact .head | exact .tail .head | exact .tail (.tail .head) | exact .tail (.tail (.tail .head)) | exact .tail (.tail (.tail (.tail .head))) | exact .tail (.tail (.tail (.tail (.tail .head))))) (by repeat constructor)) rfl ?_
      | refine lst_run (run_load2 rfl rfl rfl (by first | assumption | exact hpa _ hS | exact hS.cell0 (by assumption)) (by first | assumption | exact hpa _ hS | exact hS.cell0 (by assumption))) rfl ?_
    refine lst_run (run_move (by conv => lhs; whnf)) rfl ?_
    refine lst_enter (run_call (by kernel_rfl) (args_2 (by conv => lhs; whnf) (by conv => lhs; whnf))) rfl ?_
    refine Calls.mono (bound_any L A B c m d e x _ (hS.und hL) hx) ?_
    rintro _ w3 ⟨rfl, hb3⟩
    refine ⟨_, rfl, ?_⟩
    replace hS := hS.grow hb3
    by_cases hb : x.k = 0 ∧ x.n ≠ e
    case neg =>
      rw [decide_eq_false hb]
      have hput := intsV_put P' e.toNat e (by omega)
      refine lst_run (rfl) rfl ?_
      refine lst_done ?_
      refine goes_true rfl ?_
      refine goes_seq ?_
      refine goes_region ?_
      refine lst_run (run_move (by conv => lhs; whnf)) rfl ?_
      refine lst_run (run_nilCheck rfl) rfl ?_
      refine lst_run (run_fieldAddr (off := 2) rfl rfl) rfl ?_
      first
        | refine lst_run (run_load1_own hS rfl rfl (by first | exact .head | exact .tail .head | exact .tail (.tail .head) | exact .tail (.tail (.tail .head)) | exact .tail (.tail (.tail (.tail .head))) | exact .tail (.tail (.tail (.tail (.tail .head))))) (by repeat constructor)) rfl ?_
        | refine lst_run (run_load1 rfl rfl (by first | assumption | exact hpa _ hS | exact hS.cell0 (by assumption) | exact lv_next hS | exact lv_list hS)) rfl ?_
      refine lst_run (run_move (by conv => lhs; whnf)) rfl ?_
      refine lst_run (run_move (by conv => lhs; whnf)) rfl ?_
      refine lst_run (run_indexAddr (sz := 1) rfl rfl rfl rfl (by omega) (by omega)) rfl ?_
      refine lst_store1 hS rfl (by conv => lhs; whnf) rfl rfl (.tail .head) (by rw [Nat.zero_add, Nat.mul_one]; exact hput) (.tail .head) ?_
      clear hS
      intro w6 hS
      refine lst_done ?_
      refine goes_exit rfl ?_
      refine hmeet _ _ _ ⟨e, P'.set e.toNat e, rfl, he, hM.told hx hb, ?_, hS⟩ (by conv => lhs; whnf) (by kernel_rfl)
      obtain ⟨n, hw⟩ := hM.2.1
      rw [hw.look, hlook_self hx hb, List.getElem?_set_self (by omega)]
    rw [decide_eq_true hb]
    obtain ⟨b', o', rfl⟩ := (hS.und hL).some_ (by omega)
    have hcc : ∀ {H'} w', St M w0 H' F w' → _ := fun w' hS => (hS.und hL).cell hgx
    have hput := intsV_put P' e.toNat (-1) (by omega)
    refine lst_run (rfl) rfl ?_
    refine lst_done ?_
    refine goes_false rfl ?_
    refine goes_skip ?_
    refine goes_seq ?_
    refine goes_region ?_
    refine lst_run (run_move (by conv => lhs; whnf)) rfl ?_
    refine lst_run (run_nilCheck rfl) rfl ?_
    refine lst_run (run_fieldAddr (off := 2) rfl rfl) rfl ?_
    first
      | refine lst_run (run_load1_own hS rfl rfl (by first | exact .head | exact .tail .head | exact .tail (.tail .head) | exact .tail (.tail (.tail .head)) | exact .tail (.tail (.tail (.tail .head))) | exact .tail (.tail (.tail (.tail (.tail .head))))) (by repeat constructor)) rfl ?_
      | refine lst_run (run_load1 rfl rfl (by first | assumption | exact (hcc _ hS).1 | exact (hcc _ hS).2.1 | exact (hcc _ hS).2.2 | exact hS.cell0 (by assumption) | exact lv_next hS | exact lv_list hS)) rfl ?_
    refine lst_run (run_move (by conv => lhs; whnf)) rfl ?_
    refine lst_run (run_indexAddr (sz := 1) rfl rfl rfl rfl (by omega) (by omega)) rfl ?_
    refine lst_store1 hS rfl (by conv => lhs; whnf) rfl rfl (.tail .head) (by rw [Nat.zero_add, Nat.mul_one]; exact hput) (.tail .head) ?_
    clear hS
    intro w6 hS
    refine lst_done ?_
    refine goes_region ?_
    refine lst_run (run_move (by conv => lhs; whnf)) rfl ?_
    refine lst_run (run_nilCheck rfl) rfl ?_
    refine lst_run (run_fieldAddr (off := 0) rfl rfl) rfl ?_
    refine lst_run (run_fieldAddr (off := 0) rfl rfl) rfl ?_
    first
      | refine lst_run (run_load1_own hS rfl rfl (by first | exact .head | exact .tail .head | exact .tail (.tail .head) | exact .tail (.tail (.tail .head)) | exact .tail (.tail (.tail (.tail .head))) | exact .tail (.tail (.tail (.tail (.tail .head))))) (by repeat constructor)) rfl ?_
      | refine lst_run (run_load1 rfl rfl (by first | assumption | exact (hcc _ hS).1 | exact (hcc _ hS).2.1 | exact (hcc _ hS).2.2 | exact hS.cell0 (by assumption) | exact lv_next hS | exact lv_list hS)) rfl ?_
    refine lst_run (run_move (by conv => lhs; whnf)) rfl ?_
    refine lst_run (run_indexAddr (sz := 3) rfl rfl rfl rfl (by omega) (by omega)) rfl ?_
    refine lst_run (run_fieldAddr (off := 1) rfl rfl) rfl ?_
    first
      | refine lst_run (run_load1_own hS rfl rfl (by first | exact .head | exact .tail .head | exact .tail (.tail .head) | exact .tail (.tail (.tail .head)) | exact .tail (.tail (.tail (.tail .head))) | exact .tail (.tail (.tail (.tail (.tail .head))))) (by repeat constructor)) rfl ?_
      | refine lst_run (run_load1 rfl rfl (by first | assumption | exact (hcc _ hS).1 | exact (hcc _ hS).2.1 | exact (hcc _ hS).2.2 | exact hS.cell0 (by assumption) | exact lv_next hS | exact lv_list hS)) rfl ?_
    refine lst_run (run_assign (by conv => lhs; whnf)) rfl ?_
    refine lst_done ?_
    refine goes_inBlock ?_
    refine ih (P'.set e.toNat (-1)) _ _ _ ?_ ?_ (by conv => lhs; whnf) (by kernel_rfl)
    · exact count_set hv (by decide)
    · exact ⟨x.n, rfl, hadr hx hb.1, hM.next hx hb.1 hb.2, hS⟩
  clear hS
  rintro jv _ w2 ⟨e, P1, rfl, he, hM, hv, hS⟩
  obtain ⟨x, hx⟩ := isAddr_iff.1 he
  obtain ⟨e0, e1, hgx⟩ := hat_get hx
  have hpl' := hM.1
  have hpa : ∀ {o H' F'} w', St M w0 ((bb, o) :: (pb, iob P1) :: H') F' w' → w'.cell? ⟨pb, 0 + e.toNat * 1, none⟩ = some (.int .i64 (hlook L a)) := fun w' hS => places_at hS e0 hv
  by_cases hn : hlook L a < 0
  · have hm : hlook L a = -1 := by
      rcases hlookF_end (L := L) L.length a with h1 | ⟨c, h1, _⟩
      · exact h1
      · have := (hat_get h1).1; unfold hlook at hn; omega
    refine goes_seq ?_
    refine goes_region ?_
    refine lst_run (run_move (by conv => lhs; whnf)) rfl ?_
    refine lst_run (run_nilCheck rfl) rfl ?_
    refine lst_run (run_fieldAddr (off := 2) rfl rfl) rfl ?_
    first
      | refine lst_run (run_load1_own hS rfl rfl (by first | exact .head | exact .tail .head | exact .tail (.tail .head) | exact .tail (.tail (.tail .head)) | exact .tail (.tail (.tail (.tail .head))) | exact .tail (.tail (.tail (.tail (.tail .head))))) (by repeat constructor)) rfl ?_
      | refine lst_run (run_load1 rfl rfl (by first | assumption | exact hpa _ hS | exact hS.cell0 (by assumption) | exact lv_next hS | exact lv_list hS)) rfl ?_
    refine lst_run (run_move (by conv => lhs; whnf)) rfl ?_
    refine lst_run (run_indexAddr (sz := 1) rfl rfl rfl rfl (by omega) (by omega)) rfl ?_
    first
      | refine lst_run (run_load1_own hS rfl rfl (by first | exact .head | exact .tail .head | exact .tail (.tail .head) | exact .tail (.tail (.tail .head)) | exact .tail (.tail (.tail (.tail .head))) | exact .tail (.tail (.tail (.tail (.tail .head))))) (by repeat constructor)) rfl ?_
      | refine lst_run (run_load1 rfl rfl (by first | assumption | exact hpa _ hS | exact hS.cell0 (by assumption) | exact lv_next hS | exact lv_list hS)) rfl ?_
    refine lst_run (run_assign (by conv => lhs; whnf)) rfl ?_
    refine lst_done ?_
    refine goes_seq ?_
    refine goes_seq ?_
    refine goes_region ?_
    refine lst_run (run_move (by conv => lhs; whnf)) rfl ?_
    first
      | refine lst_run (run_lss_yes rfl rfl (by omega)) rfl ?_
      | refine lst_run (run_lss_no rfl rfl (by omega)) rfl ?_
      | refine lst_run (rfl) rfl ?_
    refine lst_done ?_
    refine goes_true rfl ?_
    refine goes_seq ?_
    refine goes_region ?_
    refine lst_run (run_assign (by conv => lhs; whnf)) rfl ?_
    refine lst_done ?_
    refine goes_ret1 Try.func70 rfl (by conv => lhs; whnf) ?_
    refine ⟨by rw [hm], P1, hM.nowhere hn, ?_⟩
    rw [show P1.length = P.length by omega]; exact hS
  refine goes_seq ?_
  refine goes_region ?_
  refine lst_run (run_move (by conv => lhs; whnf)) rfl ?_
  refine lst_run (run_nilCheck rfl) rfl ?_
  refine lst_run (run_fieldAddr (off := 2) rfl rfl) rfl ?_
  first
    | refine lst_run (run_load1_own hS rfl rfl (by first | exact .head | exact .tail .head | exact .tail (.tail .head) | exact .tail (.tail (.tail .head)) | exact .tail (.tail (.tail (.tail .head))) | exact .tail (.tail (.tail (.tail (.tail .head))))) (by repeat constructor)) rfl ?_
    | refine lst_run (run_load1 rfl rfl (by first | assumption | exact hpa _ hS | exact hS.cell0 (by assumption) | exact lv_next hS | exact lv_list hS)) rfl ?_
  refine lst_run (run_move (by conv => lhs; whnf)) rfl ?_
  refine lst_run (run_indexAddr (sz := 1) rfl rfl rfl rfl (by omega) (by omega)) rfl ?_
  first
    | refine lst_run (run_load1_own hS rfl rfl (by first | exact .head | exact .tail .head | exact .tail (.tail .head) | exact .tail (.tail (.tail .head)) | exact .tail (.tail (.tail (.tail .head))) | exact .tail (.tail (.tail (.tail (.tail .head))))) (by repeat constructor)) rfl ?_
    | refine lst_run (run_load1 rfl rfl (by first | assumption | exact hpa _ hS | exact hS.cell0 (by assumption) | exact lv_next hS | exact lv_list hS)) rfl ?_
  refine lst_run (run_assign (by conv => lhs; whnf)) rfl ?_
  refine lst_done ?_
  refine goes_seq ?_
  refine goes_seq ?_
  refine goes_region ?_
  refine lst_run (run_move (by conv => lhs; whnf)) rfl ?_
  first
    | refine lst_run (run_lss_yes rfl rfl (by omega)) rfl ?_
    | refine lst_run (run_lss_no rfl rfl (by omega)) rfl ?_
    | refine lst_run (rfl) rfl ?_
  refine lst_done ?_
  refine goes_false rfl ?_
  refine goes_skip ?_
  refine goes_seq ?_
  refine goes_block ?_
  obtain ⟨n, hw⟩ := hM.2.1
  refine goes_loop1 1 (54 :: 55 :: 56 :: 66 :: 67 :: 68 :: 69 :: 70 :: 71 :: 72 :: 57 :: 58 :: 59 :: 60 :: 61 :: 62 :: 63 :: 64 :: 65 :: []) (fun (k : Nat) v w' => ∃ (a' : Int) (P' : List Int), v = .int .i64 a' ∧ isAddr L a' = true ∧ hlook L a' = hlook L a ∧ WayN L k a' e ∧ PMid L P' a' e ∧ St M w0 ((bb, bob A L.length c B m d pb P.length nodes most) :: (pb, iob P') :: H) F w') (fun k => k) (n) ?_ (by conv => lhs; whnf) ?_
  · exact ⟨a, P1, rfl, ha, rfl, hw, hM, hS⟩
  clear hS
  rintro k _ w3 jv2 ⟨a', P', rfl, ha2, hla, hwk, hM', hS⟩ ih
  obtain ⟨y, hy⟩ := isAddr_iff.1 ha2
  obtain ⟨a0, a1, hgy⟩ := hat_get hy
  have hpl2 := hM'.1
  by_cases hae : a' = e
  · subst hae
    refine goes_seq ?_
    refine goes_seq ?_
    refine goes_region ?_
    refine lst_run (run_move (by conv => lhs; whnf)) rfl ?_
    refine lst_run (run_move (by conv => lhs; whnf)) rfl ?_
    first
      | refine lst_run (run_neq_one_int rfl rfl) rfl ?_
      | refine lst_run (run_neq_no rfl rfl (by first | assumption | omega)) rfl ?_
      | refine lst_run (run_neq_yes rfl rfl (by omega)) rfl ?_
      | refine lst_run (rfl) rfl ?_
    refine lst_done ?_
    refine goes_false rfl ?_
    refine goes_exit rfl ?_
    refine goes_seq ?_
    refine goes_region ?_
    refine lst_run (run_move (by conv => lhs; whnf)) rfl ?_
    refine lst_run (run_assign (by conv => lhs; whnf)) rfl ?_
    refine lst_done ?_
    refine goes_ret1 Try.func70 rfl (by conv => lhs; whnf) ?_
    refine ⟨rfl, P', hM'.fin (by rw [hla]; exact hn), ?_⟩
    rw [show P'.length = P.length by omega]; exact hS
  obtain ⟨hyk, hyn, hM2⟩ := hM'.tell hae hy
  rw [hla] at hM2
  obtain ⟨b', o', rfl⟩ := (hS.und hL).some_ (by omega)
  have hcc : ∀ {H'} w', St M w0 H' F w' → _ := fun w' hS => (hS.und hL).cell hgy
  have hput := intsV_put P' a'.toNat (hlook L a) (by omega)
  refine goes_seq ?_
  refine goes_seq ?_
  refine goes_region ?_
  refine lst_run (run_move (by conv => lhs; whnf)) rfl ?_
  refine lst_run (run_move (by conv => lhs; whnf)) rfl ?_
  first
    | refine lst_run (run_neq_one_int rfl rfl) rfl ?_
    | refine lst_run (run_neq_no rfl rfl (by first | assumption | omega)) rfl ?_
    | refine lst_run (run_neq_yes rfl rfl (by omega)) rfl ?_
    | refine lst_run (rfl) rfl ?_
  refine lst_done ?_
  refine goes_true rfl ?_
  refine goes_skip ?_
  refine goes_seq ?_
  refine goes_block ?_
  refine goes_region ?_
  refine lst_run (run_move (by conv => lhs; whnf)) rfl ?_
  refine lst_run (run_nilCheck rfl) rfl ?_
  refine lst_run (run_fieldAddr (off := 2) rfl rfl) rfl ?_
  first
    | refine lst_run (run_load1_own hS rfl rfl (by first | exact .head | exact .tail .head | exact .tail (.tail .head) | exact .tail (.tail (.tail .head)) | exact .tail (.tail (.tail (.tail .head))) | exact .tail (.tail (.tail (.tail (.tail .head))))) (by repeat constructor)) rfl ?_
    | refine lst_run (run_load1 rfl rfl (by first | assumption | exact (hcc _ hS).1 | exact (hcc _ hS).2.1 | exact (hcc _ hS).2.2 | exact hS.cell0 (by assumption) | exact lv_next hS | exact lv_list hS)) rfl ?_
  refine lst_run (run_move (by conv => lhs; whnf)) rfl ?_
  refine lst_run (run_move (by conv => lhs; whnf)) rfl ?_
  refine lst_run (run_indexAddr (sz := 1) rfl rfl rfl rfl (by omega) (by omega)) rfl ?_
  refine lst_store1 hS rfl (by conv => lhs; whnf) rfl rfl (.tail .head) (by rw [Nat.zero_add, Nat.mul_one]; exact hput) (.tail .head) ?_
  clear hS
  intro w6 hS
  refine lst_done ?_
  refine goes_inBlock ?_
  refine goes_region ?_
  refine lst_run (run_move (by conv => lhs; whnf)) rfl ?_
  refine lst_run (run_nilCheck rfl) rfl ?_
  refine lst_run (run_fieldAddr (off := 0) rfl rfl) rfl ?_
  refine lst_run (run_fieldAddr (off := 0) rfl rfl) rfl ?_
  first
    | refine lst_run (run_load1_own hS rfl rfl (by first | exact .head | exact .tail .head | exact .tail (.tail .head) | exact .tail (.tail (.tail .head)) | exact .tail (.tail (.tail (.tail .head))) | exact .tail (.tail (.tail (.tail (.tail .head))))) (by repeat constructor)) rfl ?_
    | refine lst_run (run_load1 rfl rfl (by first | assumption | exact (hcc _ hS).1 | exact (hcc _ hS).2.1 | exact (hcc _ hS).2.2 | exact hS.cell0 (by assumption) | exact lv_next hS | exact lv_list hS)) rfl ?_
  refine lst_run (run_move (by conv => lhs; whnf)) rfl ?_
  refine lst_run (run_indexAddr (sz := 3) rfl rfl rfl rfl (by omega) (by omega)) rfl ?_
  refine lst_run (run_fieldAddr (off := 1) rfl rfl) rfl ?_
  first
    | refine lst_run (run_load1_own hS rfl rfl (by first | exact .head | exact .tail .head | exact .tail (.tail .head) | exact .tail (.tail (.tail .head)) | exact .tail (.tail (.tail (.tail .head))) | exact .tail (.tail (.tail (.tail (.tail .head))))) (by repeat constructor)) rfl ?_
    | refine lst_run (run_load1 rfl rfl (by first | assumption | exact (hcc _ hS).1 | exact (hcc _ hS).2.1 | exact (hcc _ hS).2.2 | exact hS.cell0 (by assumption) | exact lv_next hS | exact lv_list hS)) rfl ?_
  refine lst_run (run_assign (by conv => lhs; whnf)) rfl ?_
  refine lst_done ?_
  cases hwk with
  | refl => exact absurd rfl hae
  | @step n' _ _ c' q1 q2 q3 q4 =>
    rw [hy] at q1; cases q1
    refine ih n' _ _ _ ?_ ?_ (by conv => lhs; whnf) (by kernel_rfl)
    · omega
    · exact ⟨y.n, _, rfl, hadr hy hyk, by rw [← hla]; exact (WayN.step hy hyk hyn .refl).look.symm, q4, hM2, hS⟩
end
end Go.Proofs.Ytjicoifjgokoiab
namespace Go.Proofs.Ytjicoifjgokoiab
open Go.RowKit
set_option linter.unusedVariables false
set_option linter.unusedSimpArgs false
set_option maxRecDepth 100000
set_option maxHeartbeats 1000000

def zLT : LT := ⟨0, 0, eS, none, 0, .nil⟩
theorem zLT_rd (w : World) : LRd zLT w := ⟨Nat.le_refl _, fun h => by simp [zLT, TA.len] at h⟩
theorem zLT_tm : zLT.tm = zeroTm := rfl
def BtRes (F' : List (World → Prop)) (e : Ending) (most nd : Int) : Option (Tm × Nat) → Prop
  | none => e = .returned (.tuple #[tv zLT, .bool false])
  | some (u, l) => ∃ u' : LT, u'.tm = u ∧ Und F' (LRd u') ∧ nd = most - (l : Nat) ∧ e = .returned (.tuple #[tv u', .bool true])
def BtSaid (f : Nat) : Prop := ∀ (M : List Nat) (w0 : World) (H : List (Nat × Obj)) (F : List (World → Prop)) (bb pb c m d : Nat) (A B : Option Addr) (L : List HC) (P : List Int) (a nodes most : Int) (l : Nat) (w : World),
  Und F (Flat 3 (hcsL L) A L.length c) → goodL L.length L = true → L.length ≤ 65536 → isAddr L a = true → PInv L P → (most - nodes).toNat = l → l ≤ f → 0 ≤ nodes → most ≤ 65536 → nodes ≤ 65536 →
  St M w0 ((bb, bob A L.length c B m d pb P.length nodes most) :: (pb, iob P) :: H) F w →
    Calls Try.prog 49 #[ptr bb, .int .i64 a] w fun e w' => ∃ (F' : List (World → Prop)) (P' : List Int) (nd : Int), (∀ φ ∈ F, φ ∈ F') ∧ PInv L P' ∧ BtRes F' e most nd (tmAt L f a l) ∧ St M w0 ((bb, bob A L.length c B m d pb P'.length nd most) :: (pb, iob P') :: H) F' w'
theorem listT_succ (g : Int → Nat → Option (Tm × Nat)) (m : Nat) (a : Int) (l : Nat) : listT g (m + 1) a l = (g a l).bind fun p => (listT g m (a + 1) p.2).map fun q => (.cons p.1.k p.1.n p.1.s p.1.ar q.1, q.2) := rfl
theorem bt_step (f : Nat) (iht : ∀ f', f = f' + 1 → BtSaid f') : BtSaid f := by
  intro M w0 H F bb pb c m d A B L P a nodes most l w hL hg hl ha hP hnl hlf hn0 hm1 hn1 hS
  refine goes_enter2 Try.func49 rfl Try.ntmps49 rfl ?_
  refine goes_seq ?_
  refine goes_region ?_
  refine lst_alloc (cs := [_, _, _, _]) hS rfl rfl rfl ?_
  clear hS
  intro b1 wx1 hS
  refine lst_run (run_assign (by conv => lhs; whnf)) rfl ?_
  refine lst_done ?_
  refine goes_seq ?_
  refine goes_seq ?_
  refine goes_draw (St _ _ _ _) 9 ((0, true) :: (1, true) :: (2, true) :: (3, true) :: (4, true) :: (5, true) :: (6, true) :: (7, true) :: (8, true) :: []) (by kernel_rfl) (by kernel_rfl) (hS.drew) ?_
  replace hS := hS.drew
  refine ord_read rfl (fun _ hS => run_move (by conv => lhs; whnf)) rfl ?_
  refine ord_read rfl (fun _ hS => run_nilCheck rfl) rfl ?_
  refine ord_read rfl (fun _ hS => run_fieldAddr (off := 3) rfl rfl) rfl ?_
  first
    | refine ord_read rfl (fun _ hS => run_load1_own hS rfl rfl (by first | exact .head | exact .tail .head | exact .tail (.tail .head) | exact .tail (.tail (.tail .head)) | exact .tail (.tail (.tail (.tail .head))) | exact .tail (.tail (.tail (.tail (.tail .head))))) (by repeat constructor)) rfl ?_
    | refine ord_read rfl (fun _ hS => run_load1 rfl rfl (by first | assumption | exact hS.cell0 (by assumption) | exact lv_next hS | exact lv_list hS)) rfl ?_
  refine ord_read rfl (fun _ hS => run_move (by conv => lhs; whnf)) rfl ?_
  refine ord_read rfl (fun _ hS => run_nilCheck rfl) rfl ?_
  refine ord_read rfl (fun _ hS => run_fieldAddr (off := 4) rfl rfl) rfl ?_
  first
    | refine ord_read rfl (fun _ hS => run_load1_own hS rfl rfl (by first | exact .head | exact .tail .head | exact .tail (.tail .head) | exact .tail (.tail (.tail .head)) | exact .tail (.tail (.tail (.tail .head))) | exact .tail (.tail (.tail (.tail (.tail .head))))) (by repeat constructor)) rfl ?_
    | refine ord_read rfl (fun _ hS => run_load1 rfl rfl (by first | assumption | exact hS.cell0 (by assumption) | exact lv_next hS | exact lv_list hS)) rfl ?_
  first
    | refine ord_read rfl (fun _ hS => run_geq_yes rfl rfl (by omega)) rfl ?_
    | refine ord_read rfl (fun _ hS => run_geq_no rfl rfl (by omega)) rfl ?_
    | refine ord_read rfl (fun _ hS => rfl) rfl ?_
  refine ord_end ?_
  refine lst_done ?_
  by_cases hge : most ≤ nodes
  · have e : tmAt L f a l = none := by
      obtain rfl : l = 0 := by omega
      cases f with
      | zero => rfl
      | succ f => simp [tmAt]
    rw [e]
    rw [show decide (most ≤ nodes) = true from decide_eq_true hge]
    refine goes_true rfl ?_
    refine goes_seq ?_
    refine goes_region ?_
    refine lst_run (run_build (cells := [_, _, _, _]) .nil rfl) rfl ?_
    refine lst_storeN hS rfl (by conv => lhs; whnf) rfl rfl (by first | exact .head | exact .tail .head | exact .tail (.tail .head) | exact .tail (.tail (.tail .head)) | exact .tail (.tail (.tail (.tail .head))) | exact .tail (.tail (.tail (.tail (.tail .head))))) (by repeat constructor) (by first | exact .head | exact .tail .head | exact .tail (.tail .head) | exact .tail (.tail (.tail .head)) | exact .tail (.tail (.tail (.tail .head))) | exact .tail (.tail (.tail (.tail (.tail .head))))) ?_
    clear hS
    intro wx2 hS
    refine lst_run (run_assign (by conv => lhs; whnf)) rfl ?_
    refine lst_done ?_
    refine goes_retC2 (sz := 4) hS Try.func49 rfl rfl (by conv => lhs; whnf) rfl rfl (by first | exact .head | exact .tail .head | exact .tail (.tail .head) | exact .tail (.tail (.tail .head)) | exact .tail (.tail (.tail (.tail .head))) | exact .tail (.tail (.tail (.tail (.tail .head))))) (by repeat constructor) ?_
    exact ⟨F, P, nodes, fun _ h => h, hP, rfl, hS.drop⟩
  rw [show decide (most ≤ nodes) = false from decide_eq_false hge]
  have hl0 : l ≠ 0 := by omega
  obtain ⟨f, rfl⟩ : ∃ f', f = f' + 1 := ⟨f - 1, by omega⟩
  have iht := iht f rfl
  refine goes_false rfl ?_
  refine goes_skip ?_
  refine goes_seq ?_
  refine goes_region ?_
  refine lst_run (run_move (by conv => lhs; whnf)) rfl ?_
  refine lst_run (run_nilCheck rfl) rfl ?_
  refine lst_run (run_fieldAddr (off := 3) rfl rfl) rfl ?_
  first
    | refine lst_run (run_load1_own hS rfl rfl (by first | exact .head | exact .tail .head | exact .tail (.tail .head) | exact .tail (.tail (.tail .head)) | exact .tail (.tail (.tail (.tail .head))) | exact .tail (.tail (.tail (.tail (.tail .head))))) (by repeat constructor)) rfl ?_
    | refine lst_run (run_load1 rfl rfl (by first | assumption | exact hS.cell0 (by assumption) | exact lv_next hS | exact lv_list hS)) rfl ?_
  refine lst_run (run_add rfl rfl (by omega) (by omega)) rfl ?_
  refine lst_run (run_nilCheck rfl) rfl ?_
  refine lst_run (run_fieldAddr (off := 3) rfl rfl) rfl ?_
  refine lst_store1 hS rfl (by conv => lhs; whnf) rfl rfl (by first | exact .head | exact .tail .head | exact .tail (.tail .head) | exact .tail (.tail (.tail .head)) | exact .tail (.tail (.tail (.tail .head))) | exact .tail (.tail (.tail (.tail (.tail .head))))) (by repeat constructor) (by first | exact .head | exact .tail .head | exact .tail (.tail .head) | exact .tail (.tail (.tail .head)) | exact .tail (.tail (.tail (.tail .head))) | exact .tail (.tail (.tail (.tail (.tail .head))))) ?_
  clear hS
  intro wx2 hS
  refine lst_done ?_
  refine goes_seq ?_
  refine goes_region ?_
  refine lst_run (run_move (by conv => lhs; whnf)) rfl ?_
  refine lst_run (run_move (by conv => lhs; whnf)) rfl ?_
  refine lst_enter (run_call (by kernel_rfl) (args_2 (by conv => lhs; whnf) (by conv => lhs; whnf))) rfl ?_
  refine Calls.mono (blook_any (nodes := nodes + 1) (most := most) P a _ hL hg hl ha hP (hS.perm (List.perm_append_comm_assoc [_] [_, _] _))) ?_
  rintro _ w2 ⟨rfl, P2, hP2, hS'⟩
  refine ⟨_, rfl, ?_⟩
  replace hS := hS'
  clear hS'
  replace hS := hS.perm (List.perm_append_comm_assoc [_, _] [_] _)
  by_cases hneg : hlook L a < 0
  · have e : tmAt L (f + 1) a l = none := tmAt_none hneg
    rw [e]
    refine lst_run (run_assign (by conv => lhs; whnf)) rfl ?_
    refine lst_done ?_
    refine goes_seq ?_
    refine goes_seq ?_
    refine goes_region ?_
    refine lst_run (run_move (by conv => lhs; whnf)) rfl ?_
    first
      | refine lst_run (run_lss_yes rfl rfl (by omega)) rfl ?_
      | refine lst_run (run_lss_no rfl rfl (by omega)) rfl ?_
      | refine lst_run (rfl) rfl ?_
    refine lst_done ?_
    refine goes_true rfl ?_
    refine goes_seq ?_
    refine goes_region ?_
    refine lst_run (run_build (cells := [_, _, _, _]) .nil rfl) rfl ?_
    refine lst_storeN hS rfl (by conv => lhs; whnf) rfl rfl (by first | exact .head | exact .tail .head | exact .tail (.tail .head) | exact .tail (.tail (.tail .head)) | exact .tail (.tail (.tail (.tail .head))) | exact .tail (.tail (.tail (.tail (.tail .head))))) (by repeat constructor) (by first | exact .head | exact .tail .head | exact .tail (.tail .head) | exact .tail (.tail (.tail .head)) | exact .tail (.tail (.tail (.tail .head))) | exact .tail (.tail (.tail (.tail (.tail .head))))) ?_
    clear hS
    intro wx3 hS
    refine lst_run (run_assign (by conv => lhs; whnf)) rfl ?_
    refine lst_done ?_
    refine goes_retC2 (sz := 4) hS Try.func49 rfl rfl (by conv => lhs; whnf) rfl rfl (by first | exact .head | exact .tail .head | exact .tail (.tail .head) | exact .tail (.tail (.tail .head)) | exact .tail (.tail (.tail (.tail .head))) | exact .tail (.tail (.tail (.tail (.tail .head))))) (by repeat constructor) ?_
    exact ⟨F, P2, nodes + 1, fun _ h => h, hP2, rfl, hS.drop⟩
  obtain ⟨x, hx, _⟩ := hlook_end hneg
  obtain ⟨p0, p1, hgx⟩ := hat_get hx
  rw [tmAt_hat hl0 hx]
  generalize hlook L a = p at *
  obtain ⟨b', o', rfl⟩ := (hS.und hL).some_ (by omega)
  have hcc : ∀ {H'} w', St M w0 H' F w' → _ := fun w' hS => (hS.und hL).cell hgx
  have hgc := goodC_iff (good_hat hg hx)
  by_cases k0 : x.k = 0
  · rw [if_pos k0]
    refine lst_run (run_assign (by conv => lhs; whnf)) rfl ?_
    refine lst_done ?_
    refine goes_seq ?_
    refine goes_seq ?_
    refine goes_region ?_
    refine lst_run (run_move (by conv => lhs; whnf)) rfl ?_
    first
      | refine lst_run (run_lss_yes rfl rfl (by omega)) rfl ?_
      | refine lst_run (run_lss_no rfl rfl (by omega)) rfl ?_
      | refine lst_run (rfl) rfl ?_
    refine lst_done ?_
    refine goes_false rfl ?_
    refine goes_skip ?_
    refine goes_seq ?_
    refine goes_region ?_
    refine lst_run (run_move (by conv => lhs; whnf)) rfl ?_
    refine lst_run (run_nilCheck rfl) rfl ?_
    refine lst_run (run_fieldAddr (off := 0) rfl rfl) rfl ?_
    refine lst_run (run_fieldAddr (off := 0) rfl rfl) rfl ?_
    first
      | refine lst_run (run_load1_own hS rfl rfl (by first | exact .head | exact .tail .head | exact .tail (.tail .head) | exact .tail (.tail (.tail .head)) | exact .tail (.tail (.tail (.tail .head))) | exact .tail (.tail (.tail (.tail (.tail .head))))) (by repeat constructor)) rfl ?_
      | refine lst_run (run_load1 rfl rfl (by first | assumption | exact (hcc _ hS).1 | exact (hcc _ hS).2.1 | exact (hcc _ hS).2.2 | exact hS.cell0 (by assumption) | exact lv_next hS | exact lv_list hS)) rfl ?_
    refine lst_run (run_move (by conv => lhs; whnf)) rfl ?_
    refine lst_run (run_indexAddr (sz := 3) rfl rfl rfl rfl (by omega) (by omega)) rfl ?_
    first
      | refine lst_run (run_loadN_own (k := 3) hS rfl rfl rfl (by first | exact .head | exact .tail .head | exact .tail (.tail .head) | exact .tail (.tail (.tail .head)) | exact .tail (.tail (.tail (.tail .head))) | exact .tail (.tail (.tail (.tail (.tail .head))))) (by repeat constructor)) rfl ?_
      | refine lst_run (run_load3 rfl rfl rfl (by first | assumption | exact (hcc _ hS).1 | exact (hcc _ hS).2.1 | exact (hcc _ hS).2.2 | exact hS.cell0 (by assumption)) (by first | assumption | exact (hcc _ hS).1 | exact (hcc _ hS).2.1 | exact (hcc _ hS).2.2 | exact hS.cell0 (by assumption)) (by first | assumption | exact (hcc _ hS).1 | exact (hcc _ hS).2.1 | exact (hcc _ hS).2.2 | exact hS.cell0 (by assumption))) rfl ?_
    refine lst_alloc (cs := [_, _, _]) hS rfl rfl rfl ?_
    clear hS
    intro b2 wx3 hS
    refine lst_storeN hS rfl (by conv => lhs; whnf) rfl rfl (by first | exact .head | exact .tail .head | exact .tail (.tail .head) | exact .tail (.tail (.tail .head)) | exact .tail (.tail (.tail (.tail .head))) | exact .tail (.tail (.tail (.tail (.tail .head))))) (by repeat constructor) (by first | exact .head | exact .tail .head | exact .tail (.tail .head) | exact .tail (.tail (.tail .head)) | exact .tail (.tail (.tail (.tail .head))) | exact .tail (.tail (.tail (.tail (.tail .head))))) ?_
    clear hS
    intro wx4 hS
    refine lst_done ?_
    refine goes_seq ?_
    refine goes_seq ?_
    refine goes_region ?_
    refine lst_run (run_fieldAddr (off := 0) rfl rfl) rfl ?_
    first
      | refine lst_run (run_load1_own hS rfl rfl (by first | exact .head | exact .tail .head | exact .tail (.tail .head) | exact .tail (.tail (.tail .head)) | exact .tail (.tail (.tail (.tail .head))) | exact .tail (.tail (.tail (.tail (.tail .head))))) (by repeat constructor)) rfl ?_
      | refine lst_run (run_load1 rfl rfl (by first | assumption | exact (hcc _ hS).1 | exact (hcc _ hS).2.1 | exact (hcc _ hS).2.2 | exact hS.cell0 (by assumption) | exact lv_next hS | exact lv_list hS)) rfl ?_
    refine lst_done ?_
    refine goes_block ?_
    refine goes_seq ?_
    refine goes_region ?_
    first
      | refine lst_run (run_eql_one_int rfl rfl) rfl ?_
      | refine lst_run (run_eql_no rfl rfl (by first | assumption | omega)) rfl ?_
      | refine lst_run (run_eql_yes rfl rfl (by omega)) rfl ?_
      | refine lst_run (rfl) rfl ?_
    refine lst_run (run_assign (by conv => lhs; whnf)) rfl ?_
    refine lst_done ?_
    refine goes_true rfl ?_
    refine goes_seq ?_
    refine goes_region ?_
    refine lst_run (run_move (by conv => lhs; whnf)) rfl ?_
    refine lst_run (run_build (cells := [_, _, _, _]) (.cons (by conv => lhs; whnf) (.cons (by conv => lhs; whnf) .nil)) rfl) rfl ?_
    refine lst_storeN hS rfl (by conv => lhs; whnf) rfl rfl (by first | exact .head | exact .tail .head | exact .tail (.tail .head) | exact .tail (.tail (.tail .head)) | exact .tail (.tail (.tail (.tail .head))) | exact .tail (.tail (.tail (.tail (.tail .head))))) (by repeat constructor) (by first | exact .head | exact .tail .head | exact .tail (.tail .head) | exact .tail (.tail (.tail .head)) | exact .tail (.tail (.tail (.tail .head))) | exact .tail (.tail (.tail (.tail (.tail .head))))) ?_
    clear hS
    intro wx5 hS
    refine lst_run (run_assign (by conv => lhs; whnf)) rfl ?_
    refine lst_done ?_
    refine goes_retC2 (sz := 4) hS Try.func49 rfl rfl (by conv => lhs; whnf) rfl rfl (by first | exact .head | exact .tail .head | exact .tail (.tail .head) | exact .tail (.tail (.tail .head)) | exact .tail (.tail (.tail (.tail .head))) | exact .tail (.tail (.tail (.tail (.tail .head))))) (by repeat constructor) ?_
    exact ⟨F, P2, nodes + 1, fun _ h => h, hP2, ⟨⟨0, p, eS, none, 0, .nil⟩, rfl, fun w _ => ⟨Nat.le_refl _, fun h => by simp [TA.len] at h⟩, by omega, rfl⟩, hS.drop.drop⟩
  by_cases k1 : x.k = 1
  · rw [if_neg k0, if_pos k1]
    refine lst_run (run_assign (by conv => lhs; whnf)) rfl ?_
    refine lst_done ?_
    refine goes_seq ?_
    refine goes_seq ?_
    refine goes_region ?_
    refine lst_run (run_move (by conv => lhs; whnf)) rfl ?_
    first
      | refine lst_run (run_lss_yes rfl rfl (by omega)) rfl ?_
      | refine lst_run (run_lss_no rfl rfl (by omega)) rfl ?_
      | refine lst_run (rfl) rfl ?_
    refine lst_done ?_
    refine goes_false rfl ?_
    refine goes_skip ?_
    refine goes_seq ?_
    refine goes_region ?_
    refine lst_run (run_move (by conv => lhs; whnf)) rfl ?_
    refine lst_run (run_nilCheck rfl) rfl ?_
    refine lst_run (run_fieldAddr (off := 0) rfl rfl) rfl ?_
    refine lst_run (run_fieldAddr (off := 0) rfl rfl) rfl ?_
    first
      | refine lst_run (run_load1_own hS rfl rfl (by first | exact .head | exact .tail .head | exact .tail (.tail .head) | exact .tail (.tail (.tail .head)) | exact .tail (.tail (.tail (.tail .head))) | exact .tail (.tail (.tail (.tail (.tail .head))))) (by repeat constructor)) rfl ?_
      | refine lst_run (run_load1 rfl rfl (by first | assumption | exact (hcc _ hS).1 | exact (hcc _ hS).2.1 | exact (hcc _ hS).2.2 | exact hS.cell0 (by assumption) | exact lv_next hS | exact lv_list hS)) rfl ?_
    refine lst_run (run_move (by conv => lhs; whnf)) rfl ?_
    refine lst_run (run_indexAddr (sz := 3) rfl rfl rfl rfl (by omega) (by omega)) rfl ?_
    first
      | refine lst_run (run_loadN_own (k := 3) hS rfl rfl rfl (by first | exact .head | exact .tail .head | exact .tail (.tail .head) | exact .tail (.tail (.tail .head)) | exact .tail (.tail (.tail (.tail .head))) | exact .tail (.tail (.tail (.tail (.tail .head))))) (by repeat constructor)) rfl ?_
      | refine lst_run (run_load3 rfl rfl rfl (by first | assumption | exact (hcc _ hS).1 | exact (hcc _ hS).2.1 | exact (hcc _ hS).2.2 | exact hS.cell0 (by assumption)) (by first | assumption | exact (hcc _ hS).1 | exact (hcc _ hS).2.1 | exact (hcc _ hS).2.2 | exact hS.cell0 (by assumption)) (by first | assumption | exact (hcc _ hS).1 | exact (hcc _ hS).2.1 | exact (hcc _ hS).2.2 | exact hS.cell0 (by assumption))) rfl ?_
    refine lst_alloc (cs := [_, _, _]) hS rfl rfl rfl ?_
    clear hS
    intro b2 wx3 hS
    refine lst_storeN hS rfl (by conv => lhs; whnf) rfl rfl (by first | exact .head | exact .tail .head | exact .tail (.tail .head) | exact .tail (.tail (.tail .head)) | exact .tail (.tail (.tail (.tail .head))) | exact .tail (.tail (.tail (.tail (.tail .head))))) (by repeat constructor) (by first | exact .head | exact .tail .head | exact .tail (.tail .head) | exact .tail (.tail (.tail .head)) | exact .tail (.tail (.tail (.tail .head))) | exact .tail (.tail (.tail (.tail (.tail .head))))) ?_
    clear hS
    intro wx4 hS
    refine lst_done ?_
    refine goes_seq ?_
    refine goes_seq ?_
    refine goes_region ?_
    refine lst_run (run_fieldAddr (off := 0) rfl rfl) rfl ?_
    first
      | refine lst_run (run_load1_own hS rfl rfl (by first | exact .head | exact .tail .head | exact .tail (.tail .head) | exact .tail (.tail (.tail .head)) | exact .tail (.tail (.tail (.tail .head))) | exact .tail (.tail (.tail (.tail (.tail .head))))) (by repeat constructor)) rfl ?_
      | refine lst_run (run_load1 rfl rfl (by first | assumption | exact (hcc _ hS).1 | exact (hcc _ hS).2.1 | exact (hcc _ hS).2.2 | exact hS.cell0 (by assumption) | exact lv_next hS | exact lv_list hS)) rfl ?_
    refine lst_done ?_
    refine goes_block ?_
    refine goes_seq ?_
    refine goes_region ?_
    first
      | refine lst_run (run_eql_one_int rfl rfl) rfl ?_
      | refine lst_run (run_eql_no rfl rfl (by first | assumption | omega)) rfl ?_
      | refine lst_run (run_eql_yes rfl rfl (by omega)) rfl ?_
      | refine lst_run (rfl) rfl ?_
    refine lst_run (run_assign (by conv => lhs; whnf)) rfl ?_
    refine lst_done ?_
    refine goes_false rfl ?_
    refine goes_seq ?_
    refine goes_region ?_
    first
      | refine lst_run (run_eql_one_int rfl rfl) rfl ?_
      | refine lst_run (run_eql_no rfl rfl (by first | assumption | omega)) rfl ?_
      | refine lst_run (run_eql_yes rfl rfl (by omega)) rfl ?_
      | refine lst_run (rfl) rfl ?_
    refine lst_run (run_assign (by conv => lhs; whnf)) rfl ?_
    refine lst_done ?_
    refine goes_true rfl ?_
    refine goes_seq ?_
    refine goes_region ?_
    refine lst_run (run_fieldAddr (off := 2) rfl rfl) rfl ?_
    first
      | refine lst_run (run_load1_own hS rfl rfl (by first | exact .head | exact .tail .head | exact .tail (.tail .head) | exact .tail (.tail (.tail .head)) | exact .tail (.tail (.tail (.tail .head))) | exact .tail (.tail (.tail (.tail (.tail .head))))) (by repeat constructor)) rfl ?_
      | refine lst_run (run_load1 rfl rfl (by first | assumption | exact (hcc _ hS).1 | exact (hcc _ hS).2.1 | exact (hcc _ hS).2.2 | exact hS.cell0 (by assumption) | exact lv_next hS | exact lv_list hS)) rfl ?_
    refine lst_run (run_build (cells := [_, _, _, _]) (.cons (by conv => lhs; whnf) (.cons (by conv => lhs; whnf) .nil)) rfl) rfl ?_
    refine lst_storeN hS rfl (by conv => lhs; whnf) rfl rfl (by first | exact .head | exact .tail .head | exact .tail (.tail .head) | exact .tail (.tail (.tail .head)) | exact .tail (.tail (.tail (.tail .head))) | exact .tail (.tail (.tail (.tail (.tail .head))))) (by repeat constructor) (by first | exact .head | exact .tail .head | exact .tail (.tail .head) | exact .tail (.tail (.tail .head)) | exact .tail (.tail (.tail (.tail .head))) | exact .tail (.tail (.tail (.tail (.tail .head))))) ?_
    clear hS
    intro wx5 hS
    refine lst_run (run_assign (by conv => lhs; whnf)) rfl ?_
    refine lst_done ?_
    refine goes_retC2 (sz := 4) hS Try.func49 rfl rfl (by conv => lhs; whnf) rfl rfl (by first | exact .head | exact .tail .head | exact .tail (.tail .head) | exact .tail (.tail (.tail .head)) | exact .tail (.tail (.tail (.tail .head))) | exact .tail (.tail (.tail (.tail (.tail .head))))) (by repeat constructor) ?_
    exact ⟨F, P2, nodes + 1, fun _ h => h, hP2, ⟨⟨1, 0, x.s, none, 0, .nil⟩, rfl, fun w _ => ⟨Nat.le_refl _, fun h => by simp [TA.len] at h⟩, by omega, rfl⟩, hS.drop.drop⟩
  by_cases k2 : x.k = 2
  · rw [if_neg k0, if_neg k1, if_pos k2]
    refine lst_run (run_assign (by conv => lhs; whnf)) rfl ?_
    refine lst_done ?_
    refine goes_seq ?_
    refine goes_seq ?_
    refine goes_region ?_
    refine lst_run (run_move (by conv => lhs; whnf)) rfl ?_
    first
      | refine lst_run (run_lss_yes rfl rfl (by omega)) rfl ?_
      | refine lst_run (run_lss_no rfl rfl (by omega)) rfl ?_
      | refine lst_run (rfl) rfl ?_
    refine lst_done ?_
    refine goes_false rfl ?_
    refine goes_skip ?_
    refine goes_seq ?_
    refine goes_region ?_
    refine lst_run (run_move (by conv => lhs; whnf)) rfl ?_
    refine lst_run (run_nilCheck rfl) rfl ?_
    refine lst_run (run_fieldAddr (off := 0) rfl rfl) rfl ?_
    refine lst_run (run_fieldAddr (off := 0) rfl rfl) rfl ?_
    first
      | refine lst_run (run_load1_own hS rfl rfl (by first | exact .head | exact .tail .head | exact .tail (.tail .head) | exact .tail (.tail (.tail .head)) | exact .tail (.tail (.tail (.tail .head))) | exact .tail (.tail (.tail (.tail (.tail .head))))) (by repeat constructor)) rfl ?_
      | refine lst_run (run_load1 rfl rfl (by first | assumption | exact (hcc _ hS).1 | exact (hcc _ hS).2.1 | exact (hcc _ hS).2.2 | exact hS.cell0 (by assumption) | exact lv_next hS | exact lv_list hS)) rfl ?_
    refine lst_run (run_move (by conv => lhs; whnf)) rfl ?_
    refine lst_run (run_indexAddr (sz := 3) rfl rfl rfl rfl (by omega) (by omega)) rfl ?_
    first
      | refine lst_run (run_loadN_own (k := 3) hS rfl rfl rfl (by first | exact .head | exact .tail .head | exact .tail (.tail .head) | exact .tail (.tail (.tail .head)) | exact .tail (.tail (.tail (.tail .head))) | exact .tail (.tail (.tail (.tail (.tail .head))))) (by repeat constructor)) rfl ?_
      | refine lst_run (run_load3 rfl rfl rfl (by first | assumption | exact (hcc _ hS).1 | exact (hcc _ hS).2.1 | exact (hcc _ hS).2.2 | exact hS.cell0 (by assumption)) (by first | assumption | exact (hcc _ hS).1 | exact (hcc _ hS).2.1 | exact (hcc _ hS).2.2 | exact hS.cell0 (by assumption)) (by first | assumption | exact (hcc _ hS).1 | exact (hcc _ hS).2.1 | exact (hcc _ hS).2.2 | exact hS.cell0 (by assumption))) rfl ?_
    refine lst_alloc (cs := [_, _, _]) hS rfl rfl rfl ?_
    clear hS
    intro b2 wx3 hS
    refine lst_storeN hS rfl (by conv => lhs; whnf) rfl rfl (by first | exact .head | exact .tail .head | exact .tail (.tail .head) | exact .tail (.tail (.tail .head)) | exact .tail (.tail (.tail (.tail .head))) | exact .tail (.tail (.tail (.tail (.tail .head))))) (by repeat constructor) (by first | exact .head | exact .tail .head | exact .tail (.tail .head) | exact .tail (.tail (.tail .head)) | exact .tail (.tail (.tail (.tail .head))) | exact .tail (.tail (.tail (.tail (.tail .head))))) ?_
    clear hS
    intro wx4 hS
    refine lst_done ?_
    refine goes_seq ?_
    refine goes_seq ?_
    refine goes_region ?_
    refine lst_run (run_fieldAddr (off := 0) rfl rfl) rfl ?_
    first
      | refine lst_run (run_load1_own hS rfl rfl (by first | exact .head | exact .tail .head | exact .tail (.tail .head) | exact .tail (.tail (.tail .head)) | exact .tail (.tail (.tail (.tail .head))) | exact .tail (.tail (.tail (.tail (.tail .head))))) (by repeat constructor)) rfl ?_
      | refine lst_run (run_load1 rfl rfl (by first | assumption | exact (hcc _ hS).1 | exact (hcc _ hS).2.1 | exact (hcc _ hS).2.2 | exact hS.cell0 (by assumption) | exact lv_next hS | exact lv_list hS)) rfl ?_
    refine lst_done ?_
    refine goes_block ?_
    refine goes_seq ?_
    refine goes_region ?_
    first
      | refine lst_run (run_eql_one_int rfl rfl) rfl ?_
      | refine lst_run (run_eql_no rfl rfl (by first | assumption | omega)) rfl ?_
      | refine lst_run (run_eql_yes rfl rfl (by omega)) rfl ?_
      | refine lst_run (rfl) rfl ?_
    refine lst_run (run_assign (by conv => lhs; whnf)) rfl ?_
    refine lst_done ?_
    refine goes_false rfl ?_
    refine goes_seq ?_
    refine goes_region ?_
    first
      | refine lst_run (run_eql_one_int rfl rfl) rfl ?_
      | refine lst_run (run_eql_no rfl rfl (by first | assumption | omega)) rfl ?_
      | refine lst_run (run_eql_yes rfl rfl (by omega)) rfl ?_
      | refine lst_run (rfl) rfl ?_
    refine lst_run (run_assign (by conv => lhs; whnf)) rfl ?_
    refine lst_done ?_
    refine goes_false rfl ?_
    refine goes_seq ?_
    refine goes_region ?_
    first
      | refine lst_run (run_eql_one_int rfl rfl) rfl ?_
      | refine lst_run (run_eql_no rfl rfl (by first | assumption | omega)) rfl ?_
      | refine lst_run (run_eql_yes rfl rfl (by omega)) rfl ?_
      | refine lst_run (rfl) rfl ?_
    refine lst_run (run_assign (by conv => lhs; whnf)) rfl ?_
    refine lst_done ?_
    refine goes_true rfl ?_
    refine goes_seq ?_
    refine goes_region ?_
    refine lst_run (run_fieldAddr (off := 1) rfl rfl) rfl ?_
    first
      | refine lst_run (run_load1_own hS rfl rfl (by first | exact .head | exact .tail .head | exact .tail (.tail .head) | exact .tail (.tail (.tail .head)) | exact .tail (.tail (.tail (.tail .head))) | exact .tail (.tail (.tail (.tail (.tail .head))))) (by repeat constructor)) rfl ?_
      | refine lst_run (run_load1 rfl rfl (by first | assumption | exact (hcc _ hS).1 | exact (hcc _ hS).2.1 | exact (hcc _ hS).2.2 | exact hS.cell0 (by assumption) | exact lv_next hS | exact lv_list hS)) rfl ?_
    refine lst_run (run_build (cells := [_, _, _, _]) (.cons (by conv => lhs; whnf) (.cons (by conv => lhs; whnf) .nil)) rfl) rfl ?_
    refine lst_storeN hS rfl (by conv => lhs; whnf) rfl rfl (by first | exact .head | exact .tail .head | exact .tail (.tail .head) | exact .tail (.tail (.tail .head)) | exact .tail (.tail (.tail (.tail .head))) | exact .tail (.tail (.tail (.tail (.tail .head))))) (by repeat constructor) (by first | exact .head | exact .tail .head | exact .tail (.tail .head) | exact .tail (.tail (.tail .head)) | exact .tail (.tail (.tail (.tail .head))) | exact .tail (.tail (.tail (.tail (.tail .head))))) ?_
    clear hS
    intro wx5 hS
    refine lst_run (run_assign (by conv => lhs; whnf)) rfl ?_
    refine lst_done ?_
    refine goes_retC2 (sz := 4) hS Try.func49 rfl rfl (by conv => lhs; whnf) rfl rfl (by first | exact .head | exact .tail .head | exact .tail (.tail .head) | exact .tail (.tail (.tail .head)) | exact .tail (.tail (.tail (.tail .head))) | exact .tail (.tail (.tail (.tail (.tail .head))))) (by repeat constructor) ?_
    exact ⟨F, P2, nodes + 1, fun _ h => h, hP2, ⟨⟨2, x.n, eS, none, 0, .nil⟩, rfl, fun w _ => ⟨Nat.le_refl _, fun h => by simp [TA.len] at h⟩, by omega, rfl⟩, hS.drop.drop⟩
  rw [if_neg k0, if_neg k1, if_neg k2]
  have hA : (argsC x).toNat = x.n.toNat := by unfold argsC; rw [if_pos (by omega)]
  rw [hA]
  obtain ⟨k, hk⟩ : ∃ k : Nat, x.n = (k : Nat) := ⟨x.n.toNat, by omega⟩
  rw [hk, show ((k : Nat) : Int).toNat = k by omega]
  refine lst_run (run_assign (by conv => lhs; whnf)) rfl ?_
  refine lst_done ?_
  refine goes_seq ?_
  refine goes_seq ?_
  refine goes_region ?_
  refine lst_run (run_move (by conv => lhs; whnf)) rfl ?_
  first
    | refine lst_run (run_lss_yes rfl rfl (by omega)) rfl ?_
    | refine lst_run (run_lss_no rfl rfl (by omega)) rfl ?_
    | refine lst_run (rfl) rfl ?_
  refine lst_done ?_
  refine goes_false rfl ?_
  refine goes_skip ?_
  refine goes_seq ?_
  refine goes_region ?_
  refine lst_run (run_move (by conv => lhs; whnf)) rfl ?_
  refine lst_run (run_nilCheck rfl) rfl ?_
  refine lst_run (run_fieldAddr (off := 0) rfl rfl) rfl ?_
  refine lst_run (run_fieldAddr (off := 0) rfl rfl) rfl ?_
  first
    | refine lst_run (run_load1_own hS rfl rfl (by first | exact .head | exact .tail .head | exact .tail (.tail .head) | exact .tail (.tail (.tail .head)) | exact .tail (.tail (.tail (.tail .head))) | exact .tail (.tail (.tail (.tail (.tail .head))))) (by repeat constructor)) rfl ?_
    | refine lst_run (run_load1 rfl rfl (by first | assumption | exact (hcc _ hS).1 | exact (hcc _ hS).2.1 | exact (hcc _ hS).2.2 | exact hS.cell0 (by assumption) | exact lv_next hS | exact lv_list hS)) rfl ?_
  refine lst_run (run_move (by conv => lhs; whnf)) rfl ?_
  refine lst_run (run_indexAddr (sz := 3) rfl rfl rfl rfl (by omega) (by omega)) rfl ?_
  first
    | refine lst_run (run_loadN_own (k := 3) hS rfl rfl rfl (by first | exact .head | exact .tail .head | exact .tail (.tail .head) | exact .tail (.tail (.tail .head)) | exact .tail (.tail (.tail (.tail .head))) | exact .tail (.tail (.tail (.tail (.tail .head))))) (by repeat constructor)) rfl ?_
    | refine lst_run (run_load3 rfl rfl rfl (by first | assumption | exact (hcc _ hS).1 | exact (hcc _ hS).2.1 | exact (hcc _ hS).2.2 | exact hS.cell0 (by assumption)) (by first | assumption | exact (hcc _ hS).1 | exact (hcc _ hS).2.1 | exact (hcc _ hS).2.2 | exact hS.cell0 (by assumption)) (by first | assumption | exact (hcc _ hS).1 | exact (hcc _ hS).2.1 | exact (hcc _ hS).2.2 | exact hS.cell0 (by assumption))) rfl ?_
  refine lst_alloc (cs := [_, _, _]) hS rfl rfl rfl ?_
  clear hS
  intro b2 wx3 hS
  refine lst_storeN hS rfl (by conv => lhs; whnf) rfl rfl (by first | exact .head | exact .tail .head | exact .tail (.tail .head) | exact .tail (.tail (.tail .head)) | exact .tail (.tail (.tail (.tail .head))) | exact .tail (.tail (.tail (.tail (.tail .head))))) (by repeat constructor) (by first | exact .head | exact .tail .head | exact .tail (.tail .head) | exact .tail (.tail (.tail .head)) | exact .tail (.tail (.tail (.tail .head))) | exact .tail (.tail (.tail (.tail (.tail .head))))) ?_
  clear hS
  intro wx4 hS
  refine lst_done ?_
  refine goes_seq ?_
  refine goes_seq ?_
  refine goes_region ?_
  refine lst_run (run_fieldAddr (off := 0) rfl rfl) rfl ?_
  first
    | refine lst_run (run_load1_own hS rfl rfl (by first | exact .head | exact .tail .head | exact .tail (.tail .head) | exact .tail (.tail (.tail .head)) | exact .tail (.tail (.tail (.tail .head))) | exact .tail (.tail (.tail (.tail (.tail .head))))) (by repeat constructor)) rfl ?_
    | refine lst_run (run_load1 rfl rfl (by first | assumption | exact (hcc _ hS).1 | exact (hcc _ hS).2.1 | exact (hcc _ hS).2.2 | exact hS.cell0 (by assumption) | exact lv_next hS | exact lv_list hS)) rfl ?_
  refine lst_done ?_
  refine goes_block ?_
  refine goes_seq ?_
  refine goes_region ?_
  first
    | refine lst_run (run_eql_one_int rfl rfl) rfl ?_
    | refine lst_run (run_eql_no rfl rfl (by first | assumption | omega)) rfl ?_
    | refine lst_run (run_eql_yes rfl rfl (by omega)) rfl ?_
    | refine lst_run (rfl) rfl ?_
  refine lst_run (run_assign (by conv => lhs; whnf)) rfl ?_
  refine lst_done ?_
  refine goes_false rfl ?_
  refine goes_seq ?_
  refine goes_region ?_
  first
    | refine lst_run (run_eql_one_int rfl rfl) rfl ?_
    | refine lst_run (run_eql_no rfl rfl (by first | assumption | omega)) rfl ?_
    | refine lst_run (run_eql_yes rfl rfl (by omega)) rfl ?_
    | refine lst_run (rfl) rfl ?_
  refine lst_run (run_assign (by conv => lhs; whnf)) rfl ?_
  refine lst_done ?_
  refine goes_false rfl ?_
  refine goes_seq ?_
  refine goes_region ?_
  first
    | refine lst_run (run_eql_one_int rfl rfl) rfl ?_
    | refine lst_run (run_eql_no rfl rfl (by first | assumption | omega)) rfl ?_
    | refine lst_run (run_eql_yes rfl rfl (by omega)) rfl ?_
    | refine lst_run (rfl) rfl ?_
  refine lst_run (run_assign (by conv => lhs; whnf)) rfl ?_
  refine lst_done ?_
  refine goes_false rfl ?_
  refine goes_skip ?_
  refine goes_inBlock ?_
  refine goes_seq ?_
  refine goes_region ?_
  refine lst_run (run_fieldAddr (off := 1) rfl rfl) rfl ?_
  first
    | refine lst_run (run_load1_own hS rfl rfl (by first | exact .head | exact .tail .head | exact .tail (.tail .head) | exact .tail (.tail (.tail .head)) | exact .tail (.tail (.tail (.tail .head))) | exact .tail (.tail (.tail (.tail (.tail .head))))) (by repeat constructor)) rfl ?_
    | refine lst_run (run_load1 rfl rfl (by first | assumption | exact (hcc _ hS).1 | exact (hcc _ hS).2.1 | exact (hcc _ hS).2.2 | exact hS.cell0 (by assumption) | exact lv_next hS | exact lv_list hS)) rfl ?_
  refine lst_make (k := k) (sz := 4) (bts := 56) hS (by rw [← hk]; conv => lhs; whnf) (by rw [← hk]; conv => lhs; whnf) rfl rfl (by omega) (by omega) rfl ?_
  clear hS
  intro g w3 cs hce hS
  refine lst_run (run_assign (by conv => lhs; whnf)) rfl ?_
  refine lst_done ?_
  refine goes_seq ?_
  refine goes_seq ?_
  refine goes_region ?_
  refine lst_run (run_move (by conv => lhs; whnf)) rfl ?_
  refine lst_run (run_len_slice rfl rfl rfl) rfl ?_
  refine lst_run (run_move (by conv => lhs; whnf)) rfl ?_
  refine lst_done ?_
  refine goes_block ?_
  refine goes_loop1 64 (65 :: 66 :: 9 :: 68 :: 69 :: 70 :: 71 :: 72 :: 73 :: 67 :: 74 :: 75 :: 10 :: 11 :: 76 :: 77 :: 78 :: 5 :: 79 :: 80 :: 81 :: 82 :: 83 :: []) (fun (j : Nat) v w' => ∃ (D' : TA) (rs : List Value) (li : Nat) (F' : List (World → Prop)) (P' : List Int) (nd : Int), D'.len + j = k ∧ rs.length = j * 4 ∧ v = .int .i64 (D'.len : Nat) ∧ li ≤ f ∧ nd = most - (li : Nat) ∧ nodes ≤ nd ∧ listT (tmAt L f) k (p + 1) (l - 1) = (listT (tmAt L f) j (p + 1 + (D'.len : Nat)) li).map (fun q => (D'.ts.app q.1, q.2)) ∧ (∀ φ ∈ F, φ ∈ F') ∧ Und F' (AllR D') ∧ PInv L P' ∧ St M w0 ((g, .cells (tcsL D' ++ rs).toArray 39) :: (b2, .cells (hcs x).toArray 59) :: (b1, .cells [.int .i64 0, .int .i64 0, .string eS, .slice none 0 0].toArray 39) :: (bb, bob (some ⟨b', o', none⟩) L.length c B m d pb P'.length nd most) :: (pb, iob P') :: H) F' w') (fun j => j) (k) ?_ (by conv => lhs; whnf) ?_
  · exact ⟨.nil, cs, l - 1, F, P2, nodes + 1, by simp [TA.len], hce, rfl, by omega, by omega, by omega, (by show listT (tmAt L f) k (p + 1) (l - 1) = (listT (tmAt L f) k (p + 1 + ((0 : Nat) : Int)) (l - 1)).map _; rw [show p + 1 + ((0 : Nat) : Int) = p + 1 by omega]; cases listT (tmAt L f) k (p + 1) (l - 1) <;> rfl), fun _ h => h, fun _ _ => trivial, hP2, hS⟩
  clear hS
  rintro j _ w6 jv ⟨D', rs, li, F', P', nd, hDm, hrs, rfl, hli, hnd, hnn, hvm, hFF', hAR, hP', hS⟩ ih
  have hD4 := tcsL_len D'
  cases j with
  | zero =>
    obtain rfl : rs = [] := List.eq_nil_of_length_eq_zero (by simpa using hrs)
    have hvm2 : listT (tmAt L f) k (p + 1) (l - 1) = some (D'.ts, li) := by
      rw [hvm]
      show some (D'.ts.app .nil, li) = _
      rw [Ts.app_nil]
    have hDl : D'.len = k := by omega
    rw [hvm2]
    refine goes_seq ?_
    refine goes_region ?_
    first
      | refine lst_run (run_lss_yes rfl rfl (by omega)) rfl ?_
      | refine lst_run (run_lss_no rfl rfl (by omega)) rfl ?_
      | refine lst_run (rfl) rfl ?_
    refine lst_done ?_
    refine goes_seq ?_
    refine goes_false rfl ?_
    refine goes_exit rfl ?_
    refine goes_seq ?_
    refine goes_region ?_
    refine lst_run (run_fieldAddr (off := 2) rfl rfl) rfl ?_
    first
      | refine lst_run (run_load1_own hS rfl rfl (by first | exact .head | exact .tail .head | exact .tail (.tail .head) | exact .tail (.tail (.tail .head)) | exact .tail (.tail (.tail (.tail .head))) | exact .tail (.tail (.tail (.tail (.tail .head))))) (by repeat constructor)) rfl ?_
      | refine lst_run (run_load1 rfl rfl (by first | assumption | exact (hcc _ hS).1 | exact (hcc _ hS).2.1 | exact (hcc _ hS).2.2 | exact hS.cell0 (by assumption) | exact lv_next hS | exact lv_list hS)) rfl ?_
    refine lst_run (run_move (by conv => lhs; whnf)) rfl ?_
    refine lst_run (run_build (cells := [_, _, _, _]) (.cons (by conv => lhs; whnf) (.cons (by conv => lhs; whnf) (.cons (by conv => lhs; whnf) .nil))) rfl) rfl ?_
    refine lst_storeN hS rfl (by conv => lhs; whnf) rfl rfl (by first | exact .head | exact .tail .head | exact .tail (.tail .head) | exact .tail (.tail (.tail .head)) | exact .tail (.tail (.tail (.tail .head))) | exact .tail (.tail (.tail (.tail (.tail .head))))) (by repeat constructor) (by first | exact .head | exact .tail .head | exact .tail (.tail .head) | exact .tail (.tail (.tail .head)) | exact .tail (.tail (.tail (.tail .head))) | exact .tail (.tail (.tail (.tail (.tail .head))))) ?_
    clear hS
    intro wx5 hS
    refine lst_run (run_assign (by conv => lhs; whnf)) rfl ?_
    refine lst_done ?_
    refine goes_retC2 (sz := 4) hS Try.func49 rfl rfl (by conv => lhs; whnf) rfl rfl (by first | exact .head | exact .tail .head | exact .tail (.tail .head) | exact .tail (.tail (.tail .head)) | exact .tail (.tail (.tail (.tail .head))) | exact .tail (.tail (.tail (.tail (.tail .head))))) (by repeat constructor) ?_
    replace hS := (hS.swap.drop).swap.drop.freeze
    refine ⟨_, P', nd, fun φ h => .tail _ (hFF' φ h), hP', ⟨⟨3, 0, x.s, some ⟨g, 0, none⟩, k, D'⟩, rfl, fun w hw => ⟨by show D'.len ≤ k; omega, fun _ => ⟨g, 0, rfl, ?_⟩⟩, hnd, ?_⟩, hS⟩
    · refine segA_of (hAR w fun φ hφ => hw φ (.tail _ hφ)) fun j x hj => ?_
      have hg := hw _ (.head _)
      rw [cell_own hg, Nat.zero_add, List.append_nil]; exact hj
    · dsimp only [tv]; rw [hDl]
  | succ j =>
    obtain ⟨r0, r1, r2, r3, rs, rfl⟩ : ∃ r0 r1 r2 r3 rs', rs = [r0, r1, r2, r3] ++ rs' := by
      match rs, hrs with
      | r0 :: r1 :: r2 :: r3 :: rs', _ => exact ⟨r0, r1, r2, r3, rs', rfl⟩
      | [], h => simp at h
      | [_], h => simp at h; omega
      | [_, _], h => simp at h; omega
      | [_, _, _], h => simp at h; omega
    rw [listT_succ] at hvm
    have hadr : isAddr L (p + 1 + ((D'.len : Nat) : Int)) = true := by
      unfold isAddr; simp; omega
    have hcall := iht M w0 ((g, .cells (tcsL D' ++ ([r0, r1, r2, r3] ++ rs)).toArray 39) :: (b2, .cells (hcs x).toArray 59) :: (b1, .cells [.int .i64 0, .int .i64 0, .string eS, .slice none 0 0].toArray 39) :: H) F' bb pb c m d (some ⟨b', o', none⟩) B L P' (p + 1 + ((D'.len : Nat) : Int)) nd most li
    cases hap : tmAt L f (p + 1 + ((D'.len : Nat) : Int)) li with
    | none =>
      rw [hap, Option.bind_none, Option.map_none] at hvm
      rw [hvm]
      rw [hap] at hcall
      refine goes_seq ?_
      refine goes_region ?_
      first
        | refine lst_run (run_lss_yes rfl rfl (by omega)) rfl ?_
        | refine lst_run (run_lss_no rfl rfl (by omega)) rfl ?_
        | refine lst_run (rfl) rfl ?_
      refine lst_done ?_
      refine goes_seq ?_
      refine goes_true rfl ?_
      refine goes_skip ?_
      refine goes_seq ?_
      refine goes_block ?_
      refine goes_seq ?_
      refine goes_region ?_
      refine lst_run (run_move (by conv => lhs; whnf)) rfl ?_
      refine lst_run (run_assign (by conv => lhs; whnf)) rfl ?_
      refine lst_done ?_
      refine goes_seq ?_
      refine goes_region ?_
      refine lst_run (run_move (by conv => lhs; whnf)) rfl ?_
      refine lst_run (run_move (by conv => lhs; whnf)) rfl ?_
      refine lst_run (run_add rfl rfl (by omega) (by omega)) rfl ?_
      refine lst_run (run_move (by conv => lhs; whnf)) rfl ?_
      refine lst_run (run_add rfl rfl (by omega) (by omega)) rfl ?_
      refine lst_enter (run_call (by kernel_rfl) (args_2 (by conv => lhs; whnf) (by conv => lhs; whnf))) rfl ?_
      refine Calls.mono (hcall _ (hL.mono hFF') hg hl hadr hP' (by omega) (by omega) (by omega) (by omega) (by omega) (hS.perm (List.perm_append_comm_assoc [_, _, _] [_, _] _))) ?_
      rintro _ w7 ⟨F2, P3, nd2, hF2, hP3, rfl, hS'⟩
      refine ⟨_, rfl, ?_⟩
      replace hS := hS'
      clear hS'
      replace hS := hS.perm (List.perm_append_comm_assoc [_, _] [_, _, _] _)
      refine lst_run (run_move (by conv => lhs; whnf)) rfl ?_
      refine lst_run (run_extract rfl rfl) rfl ?_
      refine lst_run (run_extract rfl rfl) rfl ?_
      refine lst_alloc (cs := [_, _, _, _]) hS rfl rfl rfl ?_
      clear hS
      intro b3 wx5 hS
      refine lst_storeN hS rfl (by conv => lhs; whnf) rfl rfl (by first | exact .head | exact .tail .head | exact .tail (.tail .head) | exact .tail (.tail (.tail .head)) | exact .tail (.tail (.tail (.tail .head))) | exact .tail (.tail (.tail (.tail (.tail .head))))) (by repeat constructor) (by first | exact .head | exact .tail .head | exact .tail (.tail .head) | exact .tail (.tail (.tail .head)) | exact .tail (.tail (.tail (.tail .head))) | exact .tail (.tail (.tail (.tail (.tail .head))))) ?_
      clear hS
      intro wx6 hS
      refine lst_run (run_assign (by conv => lhs; whnf)) rfl ?_
      refine lst_done ?_
      refine goes_seq ?_
      refine goes_seq ?_
      refine goes_region ?_
      refine lst_run (run_move (by conv => lhs; whnf)) rfl ?_
      refine lst_run (rfl) rfl ?_
      refine lst_done ?_
      refine goes_true rfl ?_
      refine goes_seq ?_
      refine goes_region ?_
      refine lst_run (run_build (cells := [_, _, _, _]) .nil rfl) rfl ?_
      refine lst_storeN hS rfl (by conv => lhs; whnf) rfl rfl (by first | exact .head | exact .tail .head | exact .tail (.tail .head) | exact .tail (.tail (.tail .head)) | exact .tail (.tail (.tail (.tail .head))) | exact .tail (.tail (.tail (.tail (.tail .head))))) (by repeat constructor) (by first | exact .head | exact .tail .head | exact .tail (.tail .head) | exact .tail (.tail (.tail .head)) | exact .tail (.tail (.tail (.tail .head))) | exact .tail (.tail (.tail (.tail (.tail .head))))) ?_
      clear hS
      intro wx7 hS
      refine lst_run (run_assign (by conv => lhs; whnf)) rfl ?_
      refine lst_done ?_
      refine goes_retC2 (sz := 4) hS Try.func49 rfl rfl (by conv => lhs; whnf) rfl rfl (by first | exact .head | exact .tail .head | exact .tail (.tail .head) | exact .tail (.tail (.tail .head)) | exact .tail (.tail (.tail (.tail .head))) | exact .tail (.tail (.tail (.tail (.tail .head))))) (by repeat constructor) ?_
      exact ⟨F2, P3, nd2, fun φ h => hF2 φ (hFF' φ h), hP3, rfl, hS.drop.drop.drop.drop⟩
    | some q =>
      obtain ⟨q1, lq⟩ := q
      have hlq := tmAt_nodes _ _ _ _ hap
      dsimp only at hlq
      rw [hap, Option.bind_some] at hvm
      rw [hap] at hcall
      refine goes_seq ?_
      refine goes_region ?_
      first
        | refine lst_run (run_lss_yes rfl rfl (by omega)) rfl ?_
        | refine lst_run (run_lss_no rfl rfl (by omega)) rfl ?_
        | refine lst_run (rfl) rfl ?_
      refine lst_done ?_
      refine goes_seq ?_
      refine goes_true rfl ?_
      refine goes_skip ?_
      refine goes_seq ?_
      refine goes_block ?_
      refine goes_seq ?_
      refine goes_region ?_
      refine lst_run (run_move (by conv => lhs; whnf)) rfl ?_
      refine lst_run (run_assign (by conv => lhs; whnf)) rfl ?_
      refine lst_done ?_
      refine goes_seq ?_
      refine goes_region ?_
      refine lst_run (run_move (by conv => lhs; whnf)) rfl ?_
      refine lst_run (run_move (by conv => lhs; whnf)) rfl ?_
      refine lst_run (run_add rfl rfl (by omega) (by omega)) rfl ?_
      refine lst_run (run_move (by conv => lhs; whnf)) rfl ?_
      refine lst_run (run_add rfl rfl (by omega) (by omega)) rfl ?_
      refine lst_enter (run_call (by kernel_rfl) (args_2 (by conv => lhs; whnf) (by conv => lhs; whnf))) rfl ?_
      refine Calls.mono (hcall _ (hL.mono hFF') hg hl hadr hP' (by omega) (by omega) (by omega) (by omega) (by omega) (hS.perm (List.perm_append_comm_assoc [_, _, _] [_, _] _))) ?_
      rintro _ w7 ⟨F2, P3, nd2, hF2, hP3, ⟨u2, hu2, hru2, hnd2, rfl⟩, hS'⟩
      refine ⟨_, rfl, ?_⟩
      replace hS := hS'
      clear hS'
      replace hS := hS.perm (List.perm_append_comm_assoc [_, _] [_, _, _] _)
      refine lst_run (run_move (by conv => lhs; whnf)) rfl ?_
      refine lst_run (run_extract rfl rfl) rfl ?_
      refine lst_run (run_extract rfl rfl) rfl ?_
      refine lst_alloc (cs := [_, _, _, _]) hS rfl rfl rfl ?_
      clear hS
      intro b3 wx5 hS
      refine lst_storeN hS rfl (by conv => lhs; whnf) rfl rfl (by first | exact .head | exact .tail .head | exact .tail (.tail .head) | exact .tail (.tail (.tail .head)) | exact .tail (.tail (.tail (.tail .head))) | exact .tail (.tail (.tail (.tail (.tail .head))))) (by repeat constructor) (by first | exact .head | exact .tail .head | exact .tail (.tail .head) | exact .tail (.tail (.tail .head)) | exact .tail (.tail (.tail (.tail .head))) | exact .tail (.tail (.tail (.tail (.tail .head))))) ?_
      clear hS
      intro wx6 hS
      refine lst_run (run_assign (by conv => lhs; whnf)) rfl ?_
      refine lst_done ?_
      refine goes_seq ?_
      refine goes_seq ?_
      refine goes_region ?_
      refine lst_run (run_move (by conv => lhs; whnf)) rfl ?_
      refine lst_run (rfl) rfl ?_
      refine lst_done ?_
      refine goes_false rfl ?_
      refine goes_skip ?_
      refine goes_region ?_
      refine lst_run (run_move (by conv => lhs; whnf)) rfl ?_
      refine lst_run (run_move (by conv => lhs; whnf)) rfl ?_
      first
        | refine lst_run (run_loadN_own (k := 4) hS rfl rfl rfl (by first | exact .head | exact .tail .head | exact .tail (.tail .head) | exact .tail (.tail (.tail .head)) | exact .tail (.tail (.tail (.tail .head))) | exact .tail (.tail (.tail (.tail (.tail .head))))) (by repeat constructor)) rfl ?_
        | refine lst_run (run_load4 rfl rfl rfl (by first | assumption | exact (hcc _ hS).1 | exact (hcc _ hS).2.1 | exact (hcc _ hS).2.2 | exact hS.cell0 (by assumption)) (by first | assumption | exact (hcc _ hS).1 | exact (hcc _ hS).2.1 | exact (hcc _ hS).2.2 | exact hS.cell0 (by assumption)) (by first | assumption | exact (hcc _ hS).1 | exact (hcc _ hS).2.1 | exact (hcc _ hS).2.2 | exact hS.cell0 (by assumption)) (by first | assumption | exact (hcc _ hS).1 | exact (hcc _ hS).2.1 | exact (hcc _ hS).2.2 | exact hS.cell0 (by assumption))) rfl ?_
      refine lst_run (run_indexAddr (sz := 4) rfl rfl rfl rfl (by omega) (by omega)) rfl ?_
      refine lst_storeN hS rfl (by conv => lhs; whnf) rfl rfl (.tail .head) (putN_mid (tcsL D') [r0, r1, r2, r3] (tcs u2) rs _ (by omega) rfl) (.tail .head) ?_
      clear hS
      intro w8 hS
      refine lst_done ?_
      refine goes_inBlock ?_
      refine goes_region ?_
      refine lst_run (run_add rfl rfl (by omega) (by omega)) rfl ?_
      refine lst_run (run_move (by conv => lhs; whnf)) rfl ?_
      refine lst_done ?_
      refine ih (j) _ _ _ ?_ ?_ (by conv => lhs; whnf) (by kernel_rfl)
      · omega
      · refine ⟨D'.app (.cons u2.k u2.n u2.s u2.A u2.c u2.ar .nil), rs, lq, F2, P3, nd2, by rw [TA.len_app]; simp only [TA.len]; omega, by simp at hrs; omega, by rw [TA.len_app]; rfl, by omega, hnd2, by omega, ?_, fun φ h => hF2 φ (hFF' φ h), ?_, hP3, ?_⟩
        · rw [hvm, Option.map_map, TA.app_ts, TA.len_app]
          rw [show p + 1 + ((D'.len + (TA.cons u2.k u2.n u2.s u2.A u2.c u2.ar .nil).len : Nat) : Int) = p + 1 + ((D'.len : Nat) : Int) + 1 by simp only [TA.len]; omega]
          congr 1
          funext z
          show (D'.ts.app (.cons q1.k q1.n q1.s q1.ar z.1), z.2) = ((D'.ts.app (.cons u2.k u2.n u2.s u2.ar.ts .nil)).app z.1, z.2)
          rw [← hu2, Ts.app_assoc]; rfl
        · exact fun w hw => AllR.app (U := .cons u2.k u2.n u2.s u2.A u2.c u2.ar .nil) ⟨hru2 w hw, trivial⟩ ((hAR.mono hF2) w hw)
        · rw [tcsL_app, List.append_assoc]
          exact hS.drop
theorem bt_said : ∀ f, BtSaid f
  | 0 => bt_step 0 fun f' h => by omega
  | f + 1 => bt_step (f + 1) fun f' h => by
    obtain rfl : f = f' := by omega
    exact bt_said f
section
variable {M : List Nat} {w0 : World} {H : List (Nat × Obj)} {F : List (World → Prop)}
theorem term_any (h : HH) (a most : Int) (A B : Option Addr) (c d : Nat) (w : World) (hH : Und F (HFl h A c B d)) (hS : St M w0 H F w) :
    Calls Try.prog 22 #[hv h A c B d, .int .i64 a, .int .i64 most] w fun e w' => ∃ (t : LT) (F' : List (World → Prop)), e = .returned (.tuple #[tv t, .int .i64 ((termH h a most).2.1 : Nat), .int .i64 (termH h a most).2.2]) ∧ t.tm = (termH h a most).1 ∧ (∀ φ ∈ F, φ ∈ F') ∧ Und F' (LRd t) ∧ St M w0 H F' w' := by
  have hL : Und F (Flat 3 (hcsL h.cs) A h.cs.length c) := hH.imp fun _ h => h.1
  refine goes_enter3 Try.func22 rfl Try.ntmps22 rfl ?_
  refine goes_seq ?_
  refine goes_region ?_
  refine lst_box hS rfl rfl ?_
  clear hS
  intro b1 wx1 hS
  refine lst_alloc (cs := [_, _, _, _]) hS rfl rfl rfl ?_
  clear hS
  intro b2 wx2 hS
  refine lst_run (run_assign (by conv => lhs; whnf)) rfl ?_
  refine lst_run (run_assign (by conv => lhs; whnf)) rfl ?_
  refine lst_done ?_
  refine goes_seq ?_
  refine goes_seq ?_
  refine goes_region ?_
  first
    | refine lst_run (run_loadN_own (k := 2) hS rfl rfl rfl (by first | exact .head | exact .tail .head | exact .tail (.tail .head) | exact .tail (.tail (.tail .head)) | exact .tail (.tail (.tail (.tail .head))) | exact .tail (.tail (.tail (.tail (.tail .head))))) (by repeat constructor)) rfl ?_
    | refine lst_run (run_load2 rfl rfl rfl (by first | assumption | exact (hcc _ hS).1 | exact (hcc _ hS).2.1 | exact (hcc _ hS).2.2 | exact hS.cell0 (by assumption)) (by first | assumption | exact (hcc _ hS).1 | exact (hcc _ hS).2.1 | exact (hcc _ hS).2.2 | exact hS.cell0 (by assumption))) rfl ?_
  refine lst_enter (run_call (by kernel_rfl) (args_1 (by conv => lhs; whnf))) rfl ?_
  refine Calls.mono (good_any h A B c d _ (hS.und hH)) ?_
  rintro _ w2 ⟨rfl, hb2⟩
  refine ⟨_, rfl, ?_⟩
  replace hS := hS.grow hb2
  cases hg : goodH h with
  | false =>
    have e0 : termH h a most = (zeroTm, 0, 1) := by unfold termH; rw [if_pos hg]
    rw [e0]
    refine lst_run (rfl) rfl ?_
    refine lst_done ?_
    refine goes_true rfl ?_
    refine goes_seq ?_
    refine goes_region ?_
    refine lst_run (run_build (cells := [_, _, _, _]) .nil rfl) rfl ?_
    refine lst_storeN hS rfl (by conv => lhs; whnf) rfl rfl (by first | exact .head | exact .tail .head | exact .tail (.tail .head) | exact .tail (.tail (.tail .head)) | exact .tail (.tail (.tail (.tail .head))) | exact .tail (.tail (.tail (.tail (.tail .head))))) (by repeat constructor) (by first | exact .head | exact .tail .head | exact .tail (.tail .head) | exact .tail (.tail (.tail .head)) | exact .tail (.tail (.tail (.tail .head))) | exact .tail (.tail (.tail (.tail (.tail .head))))) ?_
    clear hS
    intro wx3 hS
    refine lst_run (run_assign (by conv => lhs; whnf)) rfl ?_
    refine lst_run (run_assign (by conv => lhs; whnf)) rfl ?_
    refine lst_done ?_
    refine goes_retC3 (sz := 4) hS Try.func22 rfl rfl (by conv => lhs; whnf) (by conv => lhs; whnf) rfl rfl (by first | exact .head | exact .tail .head | exact .tail (.tail .head) | exact .tail (.tail (.tail .head)) | exact .tail (.tail (.tail (.tail .head))) | exact .tail (.tail (.tail (.tail (.tail .head))))) (by repeat constructor) ?_
    exact ⟨zLT, F, rfl, rfl, fun _ h => h, fun w _ => zLT_rd w, hS.drop.drop⟩
  | true =>
  obtain ⟨hl1, hl2⟩ := good_len hg
  have hgl : goodL h.cs.length h.cs = true := by
    unfold goodH goodCs at hg
    simp only [Bool.and_eq_true] at hg
    exact hg.1.2
  refine lst_run (rfl) rfl ?_
  refine lst_done ?_
  refine goes_false rfl ?_
  refine goes_skip ?_
  refine goes_seq ?_
  refine goes_seq ?_
  refine goes_region ?_
  first
    | refine lst_run (run_loadN_own (k := 2) hS rfl rfl rfl (by first | exact .head | exact .tail .head | exact .tail (.tail .head) | exact .tail (.tail (.tail .head)) | exact .tail (.tail (.tail (.tail .head))) | exact .tail (.tail (.tail (.tail (.tail .head))))) (by repeat constructor)) rfl ?_
    | refine lst_run (run_load2 rfl rfl rfl (by first | assumption | exact (hcc _ hS).1 | exact (hcc _ hS).2.1 | exact (hcc _ hS).2.2 | exact hS.cell0 (by assumption)) (by first | assumption | exact (hcc _ hS).1 | exact (hcc _ hS).2.1 | exact (hcc _ hS).2.2 | exact hS.cell0 (by assumption))) rfl ?_
  refine lst_run (run_move (by conv => lhs; whnf)) rfl ?_
  refine lst_enter (run_call (by kernel_rfl) (args_2 (by conv => lhs; whnf) (by conv => lhs; whnf))) rfl ?_
  refine Calls.mono (address_any h.cs.length c A B h.tr.length d a _) ?_
  rintro _ w3 ⟨rfl, hb3⟩
  refine ⟨_, rfl, ?_⟩
  replace hS := hS.grow hb3
  cases ha : isAddr h.cs a with
  | false =>
    have e0 : termH h a most = (zeroTm, 0, 4) := by unfold termH; rw [if_neg (by rw [hg]; decide), if_pos ha]
    rw [e0, show (decide (0 ≤ a) && decide (a < (h.cs.length : Nat))) = false from ha]
    refine lst_run (rfl) rfl ?_
    refine lst_done ?_
    refine goes_true rfl ?_
    refine goes_seq ?_
    refine goes_region ?_
    refine lst_run (run_build (cells := [_, _, _, _]) .nil rfl) rfl ?_
    refine lst_storeN hS rfl (by conv => lhs; whnf) rfl rfl (by first | exact .head | exact .tail .head | exact .tail (.tail .head) | exact .tail (.tail (.tail .head)) | exact .tail (.tail (.tail (.tail .head))) | exact .tail (.tail (.tail (.tail (.tail .head))))) (by repeat constructor) (by first | exact .head | exact .tail .head | exact .tail (.tail .head) | exact .tail (.tail (.tail .head)) | exact .tail (.tail (.tail (.tail .head))) | exact .tail (.tail (.tail (.tail (.tail .head))))) ?_
    clear hS
    intro wx3 hS
    refine lst_run (run_assign (by conv => lhs; whnf)) rfl ?_
    refine lst_run (run_assign (by conv => lhs; whnf)) rfl ?_
    refine lst_done ?_
    refine goes_retC3 (sz := 4) hS Try.func22 rfl rfl (by conv => lhs; whnf) (by conv => lhs; whnf) rfl rfl (by first | exact .head | exact .tail .head | exact .tail (.tail .head) | exact .tail (.tail (.tail .head)) | exact .tail (.tail (.tail (.tail .head))) | exact .tail (.tail (.tail (.tail (.tail .head))))) (by repeat constructor) ?_
    exact ⟨zLT, F, rfl, rfl, fun _ h => h, fun w _ => zLT_rd w, hS.drop.drop⟩
  | true =>
  rw [show (decide (0 ≤ a) && decide (a < (h.cs.length : Nat))) = true from ha]
  have hpos : 0 < h.cs.length := by
    obtain ⟨x, hx⟩ := isAddr_iff.1 ha
    have := hat_get hx; omega
  obtain ⟨mm, hmm⟩ : ∃ mm : Int, mm = if (65536 : Int) < most then 65536 else most := ⟨_, rfl⟩
  have hmN : mostN most = mm.toNat := by unfold mostN; rw [hmm]; congr 1; split <;> omega
  have hmm1 : mm ≤ 65536 := by rw [hmm]; split <;> omega
  have e0 : termH h a most = (match tmAt h.cs mm.toNat a mm.toNat with | none => (zeroTm, 0, 3) | some (t, l) => (t, mm.toNat - l, 0)) := by
    unfold termH; rw [if_neg (by rw [hg]; decide), if_neg (by rw [ha]; decide), hmN]; rfl
  rw [e0]
  refine lst_run (rfl) rfl ?_
  refine lst_done ?_
  refine goes_false rfl ?_
  refine goes_skip ?_
  refine goes_seq ?_
  refine goes_draw (St _ _ _ _) 10 ((0, true) :: (1, true) :: (2, true) :: (3, true) :: (5, true) :: (6, true) :: (4, false) :: (7, true) :: (8, false) :: (9, true) :: []) (by kernel_rfl) (by kernel_rfl) (hS.drew) ?_
  replace hS := hS.drew
  first
    | refine ord_read rfl (fun _ hS => run_loadN_own (k := 2) hS rfl rfl rfl (by first | exact .head | exact .tail .head | exact .tail (.tail .head) | exact .tail (.tail (.tail .head)) | exact .tail (.tail (.tail (.tail .head))) | exact .tail (.tail (.tail (.tail (.tail .head))))) (by repeat constructor)) rfl ?_
    | refine ord_read rfl (fun _ hS => run_load2 rfl rfl rfl (by first | assumption | exact (hcc _ hS).1 | exact (hcc _ hS).2.1 | exact (hcc _ hS).2.2 | exact hS.cell0 (by assumption)) (by first | assumption | exact (hcc _ hS).1 | exact (hcc _ hS).2.1 | exact (hcc _ hS).2.2 | exact hS.cell0 (by assumption))) rfl ?_
  refine ord_read rfl (fun _ hS => run_fieldAddr (off := 0) rfl rfl) rfl ?_
  first
    | refine ord_read rfl (fun _ hS => run_load1_own hS rfl rfl (by first | exact .head | exact .tail .head | exact .tail (.tail .head) | exact .tail (.tail (.tail .head)) | exact .tail (.tail (.tail (.tail .head))) | exact .tail (.tail (.tail (.tail (.tail .head))))) (by repeat constructor)) rfl ?_
    | refine ord_read rfl (fun _ hS => run_load1 rfl rfl (by first | assumption | exact (hcc _ hS).1 | exact (hcc _ hS).2.1 | exact (hcc _ hS).2.2 | exact hS.cell0 (by assumption) | exact lv_next hS | exact lv_list hS)) rfl ?_
  refine ord_read rfl (fun _ hS => run_len_slice rfl rfl rfl) rfl ?_
  refine ord_read rfl (fun _ hS => run_move (by conv => lhs; whnf)) rfl ?_
  refine ord_read rfl (fun _ hS => run_min2 rfl rfl (by assumption)) rfl ?_
  refine ord_act rfl ?_
  refine lst_makeZ (k := h.cs.length) (bts := 8) (z := .int .i64 0) hS (by conv => lhs; whnf) (by conv => lhs; whnf) rfl rfl rfl rfl (by omega) (by omega) rfl ?_
  clear hS
  intro pb w5 hS
  rw [show List.replicate h.cs.length (Value.int .i64 0) = intsV (List.replicate h.cs.length 0) by simp [intsV]] at hS
  refine lst_ord (by first | exact hS | exact hS.drop | exact hS.drop.drop | exact hS.drop.drop.drop | exact hS.unlearn | exact hS.unlearn.drop | exact hS.unlearn.drop.drop | exact hS.forget (by assumption) | exact hS.drop.forget (by assumption)) ?_
  refine ord_read rfl (fun _ hS => run_build (cells := [_, _, _, _, _]) (.cons (by conv => lhs; whnf) (.cons (by conv => lhs; whnf) (.cons (by conv => lhs; whnf) .nil))) rfl) rfl ?_
  refine ord_act rfl ?_
  refine lst_box hS rfl rfl ?_
  clear hS
  intro b3 wx3 hS
  refine lst_ord (by first | exact hS | exact hS.drop | exact hS.drop.drop | exact hS.drop.drop.drop | exact hS.unlearn | exact hS.unlearn.drop | exact hS.unlearn.drop.drop | exact hS.forget (by assumption) | exact hS.drop.forget (by assumption)) ?_
  refine ord_read rfl (fun _ hS => run_assign (by conv => lhs; whnf)) rfl ?_
  refine ord_end ?_
  refine lst_done ?_
  refine goes_seq ?_
  refine goes_seq ?_
  refine goes_region ?_
  refine lst_run (run_move (by conv => lhs; whnf)) rfl ?_
  refine lst_run (run_nilCheck rfl) rfl ?_
  refine lst_run (run_fieldAddr (off := 2) rfl rfl) rfl ?_
  first
    | refine lst_run (run_load1_own hS rfl rfl (by first | exact .head | exact .tail .head | exact .tail (.tail .head) | exact .tail (.tail (.tail .head)) | exact .tail (.tail (.tail (.tail .head))) | exact .tail (.tail (.tail (.tail (.tail .head))))) (by repeat constructor)) rfl ?_
    | refine lst_run (run_load1 rfl rfl (by first | assumption | exact (hcc _ hS).1 | exact (hcc _ hS).2.1 | exact (hcc _ hS).2.2 | exact hS.cell0 (by assumption) | exact lv_next hS | exact lv_list hS)) rfl ?_
  refine lst_run (run_len_slice rfl rfl rfl) rfl ?_
  refine lst_run (run_move (by conv => lhs; whnf)) rfl ?_
  refine lst_done ?_
  refine goes_block ?_
  refine goes_loop1 36 (37 :: 38 :: 10 :: 39 :: 40 :: 41 :: 42 :: 43 :: 44 :: 45 :: []) (fun (j : Nat) v w' => ∃ (P : List Int) (i : Nat), i + j = h.cs.length ∧ v = .int .i64 (i : Nat) ∧ P.length = h.cs.length ∧ (∀ (q : Nat), q < i → P[q]? = some (-2)) ∧ St M w0 ((b3, bob A h.cs.length c B h.tr.length d pb h.cs.length 0 mm) :: (pb, iob P) :: (b2, .cells [.int .i64 0, .int .i64 0, .string eS, .slice none 0 0].toArray 39) :: (b1, hob A h.cs.length c B h.tr.length d) :: H) F w') (fun j => j) (h.cs.length) ?_ (by conv => lhs; whnf) ?_
  · exact ⟨List.replicate h.cs.length 0, 0, by omega, rfl, by simp, fun q hq => by omega, hS⟩
  clear hS
  rintro j _ w6 jv ⟨P, i, hi, rfl, hPl, hPi, hS⟩ ih
  cases j with
  | succ j =>
    have hput := intsV_put P i (-2) (by omega)
    refine goes_seq ?_
    refine goes_region ?_
    first
      | refine lst_run (run_lss_yes rfl rfl (by omega)) rfl ?_
      | refine lst_run (run_lss_no rfl rfl (by omega)) rfl ?_
      | refine lst_run (rfl) rfl ?_
    refine lst_done ?_
    refine goes_seq ?_
    refine goes_true rfl ?_
    refine goes_skip ?_
    refine goes_seq ?_
    refine goes_block ?_
    refine goes_seq ?_
    refine goes_region ?_
    refine lst_run (run_move (by conv => lhs; whnf)) rfl ?_
    refine lst_run (run_assign (by conv => lhs; whnf)) rfl ?_
    refine lst_done ?_
    refine goes_region ?_
    refine lst_run (run_move (by conv => lhs; whnf)) rfl ?_
    refine lst_run (run_nilCheck rfl) rfl ?_
    refine lst_run (run_fieldAddr (off := 2) rfl rfl) rfl ?_
    first
      | refine lst_run (run_load1_own hS rfl rfl (by first | exact .head | exact .tail .head | exact .tail (.tail .head) | exact .tail (.tail (.tail .head)) | exact .tail (.tail (.tail (.tail .head))) | exact .tail (.tail (.tail (.tail (.tail .head))))) (by repeat constructor)) rfl ?_
      | refine lst_run (run_load1 rfl rfl (by first | assumption | exact (hcc _ hS).1 | exact (hcc _ hS).2.1 | exact (hcc _ hS).2.2 | exact hS.cell0 (by assumption) | exact lv_next hS | exact lv_list hS)) rfl ?_
    refine lst_run (run_move (by conv => lhs; whnf)) rfl ?_
    refine lst_run (run_indexAddr (sz := 1) rfl rfl rfl rfl (by omega) (by omega)) rfl ?_
    refine lst_store1 hS rfl (by conv => lhs; whnf) rfl rfl (.tail .head) (by rw [Nat.zero_add, Nat.mul_one]; exact hput) (.tail .head) ?_
    clear hS
    intro w7 hS
    refine lst_done ?_
    refine goes_inBlock ?_
    refine goes_region ?_
    refine lst_run (run_add rfl rfl (by omega) (by omega)) rfl ?_
    refine lst_run (run_move (by conv => lhs; whnf)) rfl ?_
    refine lst_done ?_
    refine ih (j) _ _ _ ?_ ?_ (by conv => lhs; whnf) (by kernel_rfl)
    · omega
    · refine ⟨P.set i (-2), i + 1, by omega, by simp, by simpa using hPl, fun q hq => ?_, hS⟩
      rw [List.getElem?_set]
      split
      · rename_i e; rw [if_pos (by omega)]
      · exact hPi q (by omega)
  | zero =>
    have hP : PInv h.cs P := ⟨hPl, fun q v hq => by
      have hql : q < P.length := by
        rcases Nat.lt_or_ge q P.length with g | g
        · exact g
        · rw [List.getElem?_eq_none g] at hq; cases hq
      rw [hPi q (by omega)] at hq
      exact .inl (Option.some.inj hq).symm⟩
    rw [← hPl] at hS
    have hcall := bt_said mm.toNat M w0 ((b2, .cells [.int .i64 0, .int .i64 0, .string eS, .slice none 0 0].toArray 39) :: (b1, hob A h.cs.length c B h.tr.length d) :: H) F b3 pb c h.tr.length d A B h.cs P a 0 mm mm.toNat
    rw [← hPl] at hcall
    have hS2 : St M w0 ((b3, bob A h.cs.length c B h.tr.length d pb P.length 0 mm) :: (pb, iob P) :: (b2, .cells [.int .i64 0, .int .i64 0, .string eS, .slice none 0 0].toArray 39) :: (b1, hob A h.cs.length c B h.tr.length d) :: H) F w6 := by rw [← hPl]; exact hS
    rw [← hPl] at hL hgl hl1
    cases hap : tmAt h.cs mm.toNat a mm.toNat with
    | none =>
      rw [hap] at hcall
      refine goes_seq ?_
      refine goes_region ?_
      first
        | refine lst_run (run_lss_yes rfl rfl (by omega)) rfl ?_
        | refine lst_run (run_lss_no rfl rfl (by omega)) rfl ?_
        | refine lst_run (rfl) rfl ?_
      refine lst_done ?_
      refine goes_seq ?_
      refine goes_false rfl ?_
      refine goes_exit rfl ?_
      refine goes_seq ?_
      refine goes_region ?_
      refine lst_run (run_move (by conv => lhs; whnf)) rfl ?_
      refine lst_run (run_move (by conv => lhs; whnf)) rfl ?_
      refine lst_enter (run_call (by kernel_rfl) (args_2 (by conv => lhs; whnf) (by conv => lhs; whnf))) rfl ?_
      refine Calls.mono (hcall _ hL hgl hl1 ha hP (by omega) (by omega) (by omega) (by omega) (by omega) hS) ?_
      rintro _ w7 ⟨F2, P3, nd2, hF2, hP3, rfl, hS'⟩
      refine ⟨_, rfl, ?_⟩
      replace hS := hS'
      clear hS'
      refine lst_run (run_move (by conv => lhs; whnf)) rfl ?_
      refine lst_run (run_extract rfl rfl) rfl ?_
      refine lst_run (run_extract rfl rfl) rfl ?_
      refine lst_alloc (cs := [_, _, _, _]) hS rfl rfl rfl ?_
      clear hS
      intro b4 wx4 hS
      refine lst_storeN hS rfl (by conv => lhs; whnf) rfl rfl (by first | exact .head | exact .tail .head | exact .tail (.tail .head) | exact .tail (.tail (.tail .head)) | exact .tail (.tail (.tail (.tail .head))) | exact .tail (.tail (.tail (.tail (.tail .head))))) (by repeat constructor) (by first | exact .head | exact .tail .head | exact .tail (.tail .head) | exact .tail (.tail (.tail .head)) | exact .tail (.tail (.tail (.tail .head))) | exact .tail (.tail (.tail (.tail (.tail .head))))) ?_
      clear hS
      intro wx5 hS
      refine lst_run (run_assign (by conv => lhs; whnf)) rfl ?_
      refine lst_done ?_
      refine goes_seq ?_
      refine goes_seq ?_
      refine goes_region ?_
      refine lst_run (run_move (by conv => lhs; whnf)) rfl ?_
      refine lst_run (rfl) rfl ?_
      refine lst_done ?_
      refine goes_true rfl ?_
      refine goes_seq ?_
      refine goes_region ?_
      refine lst_run (run_build (cells := [_, _, _, _]) .nil rfl) rfl ?_
      refine lst_storeN hS rfl (by conv => lhs; whnf) rfl rfl (by first | exact .head | exact .tail .head | exact .tail (.tail .head) | exact .tail (.tail (.tail .head)) | exact .tail (.tail (.tail (.tail .head))) | exact .tail (.tail (.tail (.tail (.tail .head))))) (by repeat constructor) (by first | exact .head | exact .tail .head | exact .tail (.tail .head) | exact .tail (.tail (.tail .head)) | exact .tail (.tail (.tail (.tail .head))) | exact .tail (.tail (.tail (.tail (.tail .head))))) ?_
      clear hS
      intro wx6 hS
      refine lst_run (run_assign (by conv => lhs; whnf)) rfl ?_
      refine lst_run (run_assign (by conv => lhs; whnf)) rfl ?_
      refine lst_done ?_
      refine goes_retC3 (sz := 4) hS Try.func22 rfl rfl (by conv => lhs; whnf) (by conv => lhs; whnf) rfl rfl (by first | exact .head | exact .tail .head | exact .tail (.tail .head) | exact .tail (.tail (.tail .head)) | exact .tail (.tail (.tail (.tail .head))) | exact .tail (.tail (.tail (.tail (.tail .head))))) (by repeat constructor) ?_
      exact ⟨zLT, F2, rfl, rfl, hF2, fun w _ => zLT_rd w, hS.drop.drop.drop.drop.drop⟩
    | some q =>
      obtain ⟨q1, lq⟩ := q
      have hlq := tmAt_nodes _ _ _ _ hap
      dsimp only at hlq
      rw [hap] at hcall
      refine goes_seq ?_
      refine goes_region ?_
      first
        | refine lst_run (run_lss_yes rfl rfl (by omega)) rfl ?_
        | refine lst_run (run_lss_no rfl rfl (by omega)) rfl ?_
        | refine lst_run (rfl) rfl ?_
      refine lst_done ?_
      refine goes_seq ?_
      refine goes_false rfl ?_
      refine goes_exit rfl ?_
      refine goes_seq ?_
      refine goes_region ?_
      refine lst_run (run_move (by conv => lhs; whnf)) rfl ?_
      refine lst_run (run_move (by conv => lhs; whnf)) rfl ?_
      refine lst_enter (run_call (by kernel_rfl) (args_2 (by conv => lhs; whnf) (by conv => lhs; whnf))) rfl ?_
      refine Calls.mono (hcall _ hL hgl hl1 ha hP (by omega) (by omega) (by omega) (by omega) (by omega) hS) ?_
      rintro _ w7 ⟨F2, P3, nd2, hF2, hP3, ⟨u2, hu2, hru2, hnd2, rfl⟩, hS'⟩
      refine ⟨_, rfl, ?_⟩
      replace hS := hS'
      clear hS'
      refine lst_run (run_move (by conv => lhs; whnf)) rfl ?_
      refine lst_run (run_extract rfl rfl) rfl ?_
      refine lst_run (run_extract rfl rfl) rfl ?_
      refine lst_alloc (cs := [_, _, _, _]) hS rfl rfl rfl ?_
      clear hS
      intro b4 wx4 hS
      refine lst_storeN hS rfl (by conv => lhs; whnf) rfl rfl (by first | exact .head | exact .tail .head | exact .tail (.tail .head) | exact .tail (.tail (.tail .head)) | exact .tail (.tail (.tail (.tail .head))) | exact .tail (.tail (.tail (.tail (.tail .head))))) (by repeat constructor) (by first | exact .head | exact .tail .head | exact .tail (.tail .head) | exact .tail (.tail (.tail .head)) | exact .tail (.tail (.tail (.tail .head))) | exact .tail (.tail (.tail (.tail (.tail .head))))) ?_
      clear hS
      intro wx5 hS
      refine lst_run (run_assign (by conv => lhs; whnf)) rfl ?_
      refine lst_done ?_
      refine goes_seq ?_
      refine goes_seq ?_
      refine goes_region ?_
      refine lst_run (run_move (by conv => lhs; whnf)) rfl ?_
      refine lst_run (rfl) rfl ?_
      refine lst_done ?_
      refine goes_false rfl ?_
      refine goes_skip ?_
      refine goes_seq ?_
      refine goes_draw (St _ w0 [_, _] []) 8 ((0, true) :: (1, true) :: (2, true) :: (3, true) :: (4, true) :: (5, false) :: (6, true) :: (7, true) :: []) (by kernel_rfl) (by kernel_rfl) (hS.drew.bare2) ?_
      replace hS := hS.drew
      first
        | refine ord_read rfl (fun _ hS => run_loadN_own (k := 4) hS rfl rfl rfl (by first | exact .head | exact .tail .head | exact .tail (.tail .head) | exact .tail (.tail (.tail .head)) | exact .tail (.tail (.tail (.tail .head))) | exact .tail (.tail (.tail (.tail (.tail .head))))) (by repeat constructor)) rfl ?_
        | refine ord_read rfl (fun _ hS => run_load4 rfl rfl rfl (by first | assumption | exact (hcc _ hS).1 | exact (hcc _ hS).2.1 | exact (hcc _ hS).2.2 | exact hS.cell0 (by assumption)) (by first | assumption | exact (hcc _ hS).1 | exact (hcc _ hS).2.1 | exact (hcc _ hS).2.2 | exact hS.cell0 (by assumption)) (by first | assumption | exact (hcc _ hS).1 | exact (hcc _ hS).2.1 | exact (hcc _ hS).2.2 | exact hS.cell0 (by assumption)) (by first | assumption | exact (hcc _ hS).1 | exact (hcc _ hS).2.1 | exact (hcc _ hS).2.2 | exact hS.cell0 (by assumption))) rfl ?_
      refine ord_read rfl (fun _ hS => run_move (by conv => lhs; whnf)) rfl ?_
      refine ord_read rfl (fun _ hS => run_nilCheck rfl) rfl ?_
      refine ord_read rfl (fun _ hS => run_fieldAddr (off := 3) rfl rfl) rfl ?_
      first
        | refine ord_read rfl (fun _ hS => run_load1_own hS rfl rfl (by first | exact .head | exact .tail .head | exact .tail (.tail .head) | exact .tail (.tail (.tail .head)) | exact .tail (.tail (.tail (.tail .head))) | exact .tail (.tail (.tail (.tail (.tail .head))))) (by repeat constructor)) rfl ?_
        | refine ord_read rfl (fun _ hS => run_load1 rfl rfl (by first | assumption | exact (hcc _ hS).1 | exact (hcc _ hS).2.1 | exact (hcc _ hS).2.2 | exact hS.cell0 (by assumption) | exact lv_next hS | exact lv_list hS)) rfl ?_
      refine ord_act rfl ?_
      refine lst_storeN hS rfl (by conv => lhs; whnf) rfl rfl (by first | exact .head | exact .tail .head | exact .tail (.tail .head) | exact .tail (.tail (.tail .head)) | exact .tail (.tail (.tail (.tail .head))) | exact .tail (.tail (.tail (.tail (.tail .head))))) (by repeat constructor) (by first | exact .head | exact .tail .head | exact .tail (.tail .head) | exact .tail (.tail (.tail .head)) | exact .tail (.tail (.tail (.tail .head))) | exact .tail (.tail (.tail (.tail (.tail .head))))) ?_
      clear hS
      intro wx6 hS
      refine lst_ord (by first | exact hS.bare2 | exact hS.drop.bare2 | exact hS.drop.drop.bare2) ?_
      refine ord_read rfl (fun _ hS => run_assign (by conv => lhs; whnf)) rfl ?_
      refine ord_read rfl (fun _ hS => run_assign (by conv => lhs; whnf)) rfl ?_
      refine ord_end ?_
      refine lst_done ?_
      refine goes_retC3 (sz := 4) hS Try.func22 rfl rfl (by conv => lhs; whnf) (by conv => lhs; whnf) rfl rfl (by first | exact .head | exact .tail .head | exact .tail (.tail .head) | exact .tail (.tail (.tail .head)) | exact .tail (.tail (.tail (.tail .head))) | exact .tail (.tail (.tail (.tail (.tail .head))))) (by repeat constructor) ?_
      refine ⟨u2, F2, ?_, hu2, hF2, hru2, hS.drop.drop.drop.drop.drop⟩
      dsimp only
      rw [hnd2, show mm - ((lq : Nat) : Int) = ((mm.toNat - lq : Nat) : Int) by omega]
end
end Go.Proofs.Ytjicoifjgokoiab
namespace Go.Proofs.Ytjicoifjgokoiab
open Go.RowKit

theorem info_term : (Try.prog.info? 39).map (fun i => (i.zero, i.size, i.bytes)) = some (some (.agg #[.int .i64 0, .int .i64 0, .string .empty, .slice none 0 0]), 4, 56) := by kernel_rfl

end Go.Proofs.Ytjicoifjgokoiab
namespace Go.Proofs.Ytjicoifjgokoiab
open Go.RowKit

theorem info_terms : (Try.prog.info? 37).map (fun i => (i.zero, i.size, i.bytes)) = some (some (.slice none 0 0), 1, 24) := by kernel_rfl

theorem run_equalIn_slice_nil {P : Program} (w : World) (d : Nat) (t e : TypeId) (a : Option Addr) (l c : Nat) (h : P.underlying t = some (.slice e)) : (Op.equalIn (d + 1) t (.slice a l c) (.slice none 0 0)).run P w = .ok a.isNone w := by
  cases a <;> simp [Op.equalIn, run_underlying h]
theorem run_equal_slice_nil {P : Program} (w : World) (t e : TypeId) (a : Option Addr) (l c : Nat) (h : P.underlying t = some (.slice e)) : (Op.equal t (.slice a l c) (.slice none 0 0)).run P w = .ok a.isNone w := run_equalIn_slice_nil w 9999 t e a l c h
theorem run_eql_slice_nil {P : Program} (w : World) (t e : TypeId) (a : Option Addr) (l c : Nat) (h : P.underlying t = some (.slice e)) : (binOp .eql t (.slice a l c) (.slice none 0 0)).run P w = .ok (.bool a.isNone) w := by
  simp [binOp, run_equal_slice_nil w t e a l c h]

/-- The variable in block pb is a path: a row of the call's own of the slices xs. -/
structure IsPath (w : World) (B pb : Nat) (pv : Value) (xs : List Value) : Prop where
  var : Plot w pb 94 #[pv]
  own : w.ownsRow B 37 1 pv xs.length xs
  apart : pv.ownBlock ≠ some pb

theorem Plot.ne_ {w : World} {g g' : Nat} {t t' : TypeId} {cs cs' : Array Value} (h : Plot w g t cs) (h' : Plot w g' t' cs') (hne : t ≠ t') : g ≠ g' := by
  rintro rfl
  unfold Plot at h h'
  rw [h] at h'
  injection h' with h'
  injection h' with _ ht
  exact hne ht
theorem IsPath.chg {S : Nat → Prop} {w w' : World} {B pb : Nat} {pv : Value} {xs : List Value} (h : IsPath w B pb pv xs) (hc : Chg S w w') (h1 : ¬ S pb) (h2 : ∀ g, pv.ownBlock = some g → ¬ S g) : IsPath w' B pb pv xs :=
  ⟨h.var.chg hc h1, own_chg h.own hc h2, h.apart⟩
theorem IsPath.other {w : World} {B pb b : Nat} {pv : Value} {xs : List Value} {cur : Array Value} (h : IsPath w B pb pv xs) (hb : Plot w b 39 cur) : b ≠ pb ∧ pv.ownBlock ≠ some b := by
  refine ⟨hb.ne_ h.var (by decide), fun e => ?_⟩
  rcases h.own.2 with ⟨e1, _⟩ | ⟨g, cap, cur', e1, _, hh, _⟩
  · rw [e1] at e; simp [Value.ownBlock] at e
  · rw [e1] at e
    simp only [Value.ownBlock, Option.some.injEq] at e
    subst e
    exact hb.ne_ (t' := 37) hh (by decide) rfl
theorem IsPath.set {w : World} {B pb b i : Nat} {pv u : Value} {xs : List Value} {cur : Array Value} (h : IsPath w B pb pv xs) (hb : Plot w b 39 cur) : IsPath (w.setCell ⟨b, i, none⟩ u) B pb pv xs := by
  obtain ⟨h1, h2⟩ := h.other hb
  exact h.chg ((Chg.refl (fun k => k = b) w).setCell (fun _ => rfl) u) (fun e => h1 e.symm) fun g hg e => h2 (by rw [hg, e])
theorem IsPath.keep {w w' : World} {B pb k : Nat} {pv : Value} {xs : List Value} {cur : Array Value} (h : IsPath w B pb pv xs) (hc : Chg (fun k => k = pb ∨ pv.ownBlock = some k) w w') (hk : Plot w k 39 cur) : Plot w' k 39 cur := by
  obtain ⟨h1, h2⟩ := h.other hk
  exact hk.chg hc fun hS => hS.elim h1 h2

set_option maxHeartbeats 400000 in
theorem next_last {w : World} {B pb : Nat} {pv : Value} {ys : List Value} {b o cap : Nat} (hp : IsPath w B pb pv (ys ++ [.slice (some ⟨b, o, none⟩) 1 cap])) (hn : ys.length ≤ 1073741824) :
    Calls Try.prog 74 #[.pointer (some ⟨pb, 0, none⟩)] w fun e w' => e = .returned (.pointer (some ⟨b, o, none⟩)) ∧
      ∃ pv', IsPath w' B pb pv' ys ∧ pv'.ownBlock = pv.ownBlock ∧ Chg (fun k => k = pb ∨ pv.ownBlock = some k) w w' := by
  obtain ⟨hv, ho, ha⟩ := hp
  rcases ho.2 with ⟨_, h0⟩ | ⟨g, cp, cur, rfl, hg, hh, hnc, hcm, hcs, htk⟩
  · simp at h0
  have c0 : w.cell? ⟨pb, 0, none⟩ = some (.slice (some ⟨g, 0, none⟩) (ys ++ [Value.slice (some ⟨b, o, none⟩) 1 cap]).length cp) := hv.cell 0
  have f0 : w.frozen? ⟨pb, 0, none⟩ = false := hv.frozen 0
  have c1 : w.cell? ⟨g, ys.length, none⟩ = some (.slice (some ⟨b, o, none⟩) 1 cap) := by
    rw [ho.cellAt _ (by simp)]; simp
  simp only [List.length_append, List.length_cons, List.length_nil, Nat.zero_add] at c0 hnc
  have hgp : g ≠ pb := fun e => ha (by rw [e]; rfl)
  have hfin : IsPath (w.setCell ⟨pb, 0, none⟩ (.slice (some ⟨g, 0, none⟩) ys.length cp)) B pb (.slice (some ⟨g, 0, none⟩) ys.length cp) ys := by
    refine ⟨hv.set_ 0 _, ⟨by simp, .inr ⟨g, cp, cur, rfl, hg, (Below.heap_setCell _ _ _ _ hgp).trans hh, by omega, hcm, hcs, ?_⟩⟩, by simpa [Value.ownBlock] using hgp⟩
    have := congrArg (List.take (ys.length * 1)) htk
    rw [List.take_take] at this
    simpa [Nat.min_eq_left] using this
  have hchg : Chg (fun k => k = pb ∨ (Value.slice (some ⟨g, 0, none⟩) (ys ++ [Value.slice (some ⟨b, o, none⟩) 1 cap]).length cp).ownBlock = some k) w (w.setCell ⟨pb, 0, none⟩ (.slice (some ⟨g, 0, none⟩) ys.length cp)) :=
    (Chg.refl _ _).setCell (fun _ => .inl rfl) _
  clear hv ho ha htk
  go_enter Try.func74, Try.ntmps74
  go_wp2_with fail
  go_ret
  exact ⟨rfl, _, hfin, rfl, hchg⟩

set_option maxHeartbeats 400000 in
theorem next_more {w : World} {B pb : Nat} {pv : Value} {ys : List Value} {b o l cap : Nat} (hp : IsPath w B pb pv (ys ++ [.slice (some ⟨b, o, none⟩) (l + 2) cap])) (hn : ys.length ≤ 1073741824) (hl : l ≤ 1073741824) (hc : l + 2 ≤ cap) :
    Calls Try.prog 74 #[.pointer (some ⟨pb, 0, none⟩)] w fun e w' => e = .returned (.pointer (some ⟨b, o, none⟩)) ∧
      ∃ pv', IsPath w' B pb pv' (ys ++ [.slice (some ⟨b, o + 4, none⟩) (l + 1) (cap - 1)]) ∧ pv'.ownBlock = pv.ownBlock ∧ Chg (fun k => k = pb ∨ pv.ownBlock = some k) w w' := by
  obtain ⟨hv, ho, ha⟩ := hp
  rcases ho.2 with ⟨_, h0⟩ | ⟨g, cp, cur, rfl, hg, hh, hnc, hcm, hcs, htk⟩
  · simp at h0
  have c0 : w.cell? ⟨pb, 0, none⟩ = some (.slice (some ⟨g, 0, none⟩) (ys ++ [Value.slice (some ⟨b, o, none⟩) (l + 2) cap]).length cp) := hv.cell 0
  have c1 : w.cell? ⟨g, ys.length, none⟩ = some (.slice (some ⟨b, o, none⟩) (l + 2) cap) := by
    rw [ho.cellAt _ (by simp)]; simp
  have f1 : w.frozen? ⟨g, ys.length, none⟩ = false := ho.frozenAt _
  simp only [List.length_append, List.length_cons, List.length_nil, Nat.zero_add] at c0 hnc
  have hgp : g ≠ pb := fun e => ha (by rw [e]; rfl)
  have hst := (ho.stored ys.length (.slice (some ⟨b, o + 4, none⟩) (l + 1) (cap - 1))).1
  have hfin : IsPath (w.setCell ⟨g, ys.length, none⟩ (.slice (some ⟨b, o + 4, none⟩) (l + 1) (cap - 1))).drew B pb (.slice (some ⟨g, 0, none⟩) (ys.length + 1) cp) (ys ++ [.slice (some ⟨b, o + 4, none⟩) (l + 1) (cap - 1)]) := by
    refine ⟨?_, ?_, by simpa [Value.ownBlock] using hgp⟩
    · have := hv.far (p := ⟨g, ys.length, none⟩) (Ne.symm hgp) (.slice (some ⟨b, o + 4, none⟩) (l + 1) (cap - 1))
      simp only [List.length_append, List.length_cons, List.length_nil, Nat.zero_add] at this
      exact this
    · simp at hst
      have e : (ys ++ [Value.slice (some ⟨b, o + 4, none⟩) (l + 1) (cap - 1)]).length = ys.length + 1 := by simp
      rw [e]
      exact hst
  have hchg : Chg (fun k => k = pb ∨ (Value.slice (some ⟨g, 0, none⟩) (ys ++ [Value.slice (some ⟨b, o, none⟩) (l + 2) cap]).length cp).ownBlock = some k) w (w.setCell ⟨g, ys.length, none⟩ (.slice (some ⟨b, o + 4, none⟩) (l + 1) (cap - 1))).drew :=
    ((Chg.refl _ _).setCell (fun _ => .inr rfl) _).drew
  have hl1 : (((l + 2 : Nat) : Int) == 1) = false := by rw [beq_eq_false_iff_ne]; omega
  clear hv ho ha htk hst
  go_enter Try.func74, Try.ntmps74
  go_wp2_with fail
  go_region
  go_wp2_with fail
  go_ret
  exact ⟨rfl, _, hfin, rfl, hchg⟩

set_option maxHeartbeats 400000 in
theorem add_none {w : World} (v : Value) (A : Option Addr) (c : Nat) : Calls Try.prog 73 #[v, .slice A 0 c] w fun e w' => e = .returned (.tuple #[]) ∧ w = w' := by
  go_enter Try.func73, Try.ntmps73
  go_wp2_with fail
  go_end0
  exact ⟨rfl, rfl⟩

set_option maxHeartbeats 400000 in
theorem add_some {w : World} {B pb : Nat} {pv : Value} {xs : List Value} {A : Option Addr} {l c : Nat} (hp : IsPath w B pb pv xs) (hB : B ≤ w.heap.size) (hn : xs.length ≤ 1073741824) :
    Calls Try.prog 73 #[.pointer (some ⟨pb, 0, none⟩), .slice A (l + 1) c] w fun e w' => e = .returned (.tuple #[]) ∧
      ∃ pv', IsPath w' B pb pv' (xs ++ [.slice A (l + 1) c]) ∧ (pv'.ownBlock = pv.ownBlock ∨ ∃ g, pv'.ownBlock = some g ∧ w.heap.size ≤ g) ∧ Chg (fun k => k = pb ∨ pv.ownBlock = some k) w w' := by
  obtain ⟨hv, ho, ha⟩ := hp
  obtain ⟨i0, hi0, hz0, hz1, hz2⟩ := info_parts info_terms
  have c0 : w.cell? ⟨pb, 0, none⟩ = some pv := hv.cell 0
  have hW : Below w.heap.size w (w.alloc (.cells #[.slice A (l + 1) c] 37)) := (Below.refl _ _).alloc (Nat.le_refl _) _
  have ho' := own_below ho hW
  have hlt := hv.lt
  have HB := Lib.hid ha
  clear ha
  go_enter Try.func73, Try.ntmps73
  go_wp2_with (at_builtin; refine wpList_append_at _ rfl (.tmp 10) (.tmp 12) _ rfl B 37 i0 _ 1 24 Try.underlying94 hi0 hz0 hz1 hz2 rfl (by omega) pv xs.length xs rfl ho' ⟨w.heap.size, 0, none⟩ 1 1 [.slice A (l + 1) c] rfl rfl (cell_lit w [.slice A (l + 1) c] 37) (by simp [Value.oneCell']) (by simp only [maxLen]; omega) (by omega) (by simp; omega) ?next)
  case next =>
    intro v' w' hov hg hat
    have cp : Plot w' pb 94 #[pv] := (hv.alloc _).grown hg (fun e => HB.out e.symm)
    have c1 : w'.cell? ⟨pb, 0, none⟩ = some pv := cp.cell 0
    have f1 : w'.frozen? ⟨pb, 0, none⟩ = false := cp.frozen 0
    rcases hov.2 with ⟨_, h0⟩ | ⟨g, cap, cur, rfl, hgB, hh, hnc, hcm, hcs, htk⟩
    · omega
    have hne : g ≠ pb := by
      rcases hat with e | e
      · intro e2; subst e2; exact HB.out e.symm
      · simp [Value.ownBlock] at e; omega
    have hfin : IsPath (w'.setCell ⟨pb, 0, none⟩ (.slice (some ⟨g, 0, none⟩) (xs.length + 1) cap)) B pb (.slice (some ⟨g, 0, none⟩) (xs.length + 1) cap) (xs ++ [.slice A (l + 1) c]) := by
      refine ⟨cp.set_ 0 _, ?_, by simpa [Value.ownBlock] using hne⟩
      have := ownsRow_setCell_other hov (a := ⟨pb, 0, none⟩) (by simpa [Value.ownBlock] using hne) (.slice (some ⟨g, 0, none⟩) (xs.length + 1) cap)
      simpa using this
    have hat' : (Value.slice (some ⟨g, 0, none⟩) (xs.length + 1) cap).ownBlock = pv.ownBlock ∨ ∃ g', (Value.slice (some ⟨g, 0, none⟩) (xs.length + 1) cap).ownBlock = some g' ∧ w.heap.size ≤ g' := by
      rcases hat with e | e
      · exact .inl e
      · exact .inr ⟨_, e, by omega⟩
    have hchg : Chg (fun k => k = pb ∨ pv.ownBlock = some k) w (w'.setCell ⟨pb, 0, none⟩ (.slice (some ⟨g, 0, none⟩) (xs.length + 1) cap)) := by
      refine Chg.setCell ?_ (fun _ => .inl rfl) _
      exact ((Chg.refl _ w).alloc _).trans (Chg.of_grown hg) fun k _ e => .inr e
    have HX := Lib.hid hat'
    clear hat hat' htk hov
    go_wp2_with fail
    go_end0
    exact ⟨rfl, _, hfin, HX.out, hchg⟩

/-- The value v is a slice whose cells, four an element, are xs. -/
def Raw (w : World) (v : Value) (l : Nat) (xs : List Value) : Prop :=
  ∃ A c, v = .slice A l c ∧ l ≤ c ∧ xs.length = l * 4 ∧ (∀ u ∈ xs, u.oneCell' = true) ∧ (0 < l → ∃ b o, A = some ⟨b, o, none⟩ ∧ ∀ j u, xs[j]? = some u → w.cell? ⟨b, o + j, none⟩ = some u)
theorem Sl.raw {w : World} {p : Nat → Prop} {v : Value} {T : Ts} (h : Sl w p v T) : ∃ xs, Raw w v T.length xs ∧ Cs w p T xs := by
  obtain ⟨A, c, rfl, hc, hs⟩ := h
  rcases Nat.eq_zero_or_pos T.length with h | h
  · rw [Ts.nil_of_length h]
    exact ⟨[], ⟨A, c, rfl, Nat.zero_le _, rfl, fun u hu => (by cases hu), fun h => absurd h (Nat.lt_irrefl _)⟩, rfl⟩
  · obtain ⟨b, o, e, hseg⟩ := hs h
    obtain ⟨xs, h1, h2⟩ := hseg.cells
    exact ⟨xs, ⟨A, c, rfl, hc, h1.length, h1.one, fun _ => ⟨b, o, e, h2⟩⟩, h1⟩

set_option maxHeartbeats 400000 in
theorem clone_raw {w : World} {v : Value} {l : Nat} {xs : List Value} (hv : Raw w v l xs) (hn : l ≤ 1073741824) :
    Calls Try.prog 72 #[v] w fun e w' => ∃ v', e = .returned v' ∧ w'.ownsRow w.heap.size 39 4 v' l xs ∧ Below w.heap.size w w' := by
  obtain ⟨A, c, rfl, hc, hlen, hone, hs⟩ := hv
  have hnil : ∀ W, (binOp .eql 37 (.slice A l c) (.slice none 0 0)).run Try.prog W = .ok (.bool A.isNone) W := fun W => run_eql_slice_nil W _ _ A _ c Try.underlying37
  cases A with
  | none =>
    have hl : l = 0 := by
      rcases Nat.eq_zero_or_pos l with h | h
      · exact h
      · obtain ⟨b, o, e, _⟩ := hs h; cases e
    subst hl
    have hx : xs = [] := List.eq_nil_of_length_eq_zero (by simpa using hlen)
    subst hx
    clear hlen hs hone
    go_enter Try.func72, Try.ntmps72
    go_wp2_with fail
    go_ret
    exact ⟨_, rfl, World.ownsRow_nil _ _ _ _, Below.refl _ _⟩
  | some a =>
    obtain ⟨i0, hi0, hz0, hz1, hz2⟩ := info_parts info_term
    have hcell : ∀ j u, xs[j]? = some u → w.cell? (a.add j) = some u := by
      rcases Nat.eq_zero_or_pos l with h | h
      · have hx : xs = [] := List.eq_nil_of_length_eq_zero (by simpa [h] using hlen)
        subst hx
        intro j u hu; simp at hu
      · obtain ⟨b, o, e, h2⟩ := hs h
        simp only [Option.some.injEq] at e
        subst e
        intro j u hu
        have := h2 j u hu
        by_cases hj : j = 0
        · subst hj; simpa [Addr.add] using this
        · simpa [Addr.add, hj] using this
    have hW : Below w.heap.size w (w.alloc (.cells #[] 39)) := (Below.refl _ _).alloc (Nat.le_refl _) _
    have ho : (w.alloc (.cells #[] 39)).ownsRow w.heap.size 39 4 (.slice (some ⟨w.heap.size, 0, none⟩) 0 0) 0 [] := by
      simpa using World.ownsRow_lit (base := w.heap.size) (e := 39) (size := 4) w #[] 0 (Nat.le_refl _) (by simp [maxLen]) (by simp)
    have hcell' : ∀ j u, xs[j]? = some u → (w.alloc (.cells #[] 39)).cell? (a.add j) = some u := fun j u hu => (hW.cell (lt_of_cell (hcell j u hu))).trans (hcell j u hu)
    have H1 := Lib.hid hcell'
    have H2 := Lib.hid hone
    have H3 := Lib.hid hlen
    clear hcell hcell' hs hone hlen
    go_enter Try.func72, Try.ntmps72
    go_wp2_with (at_builtin; refine wpList_append_at _ rfl (.tmp 5) (.tmp 6) _ rfl w.heap.size 39 i0 _ 4 56 Try.underlying37 hi0 hz0 hz1 hz2 rfl (by omega) _ 0 [] rfl ho a l c xs rfl H3.out H1.out H2.out (by simp only [maxLen]; omega) (by omega) (by simp) ?next)
    case next =>
      intro v' w' hov hg hat
      have hb : Below w.heap.size w w' := by
        refine hW.grown hg (by simp) fun k hk => ?_
        simp [Value.ownBlock] at hk; omega
      go_wp2_with fail
      go_ret
      exact ⟨_, rfl, by simpa using hov, hb⟩

/-- A list of terms that is still to be visited: from cell o of block b on. -/
structure Lev where
  b : Nat
  o : Nat
  T : Ts
def push (T : Ts) (b o : Nat) (L : List Lev) : List Lev := if T.length = 0 then L else ⟨b, o, T⟩ :: L
def nodesOf (L : List Lev) : Nat := (L.map fun l => l.T.nodes).sum
theorem nodesOf_push (T : Ts) (b o : Nat) (L : List Lev) : nodesOf (push T b o L) = T.nodes + nodesOf L := by
  unfold push
  split
  · rename_i h; rw [Ts.nil_of_length h]; simp [Ts.nodes]
  · simp [nodesOf]
/-- The path's slices, the newest last, are the levels, the newest first. -/
def PV : List Lev → List Value → Prop
  | [], xs => xs = []
  | l :: r, xs => ∃ ys cap, xs = ys ++ [.slice (some ⟨l.b, l.o, none⟩) l.T.length cap] ∧ l.T.length ≤ cap ∧ 0 < l.T.length ∧ PV r ys
theorem PV.length : ∀ {L : List Lev} {xs : List Value}, PV L xs → xs.length = L.length
  | [], xs, h => by rw [show xs = [] from h]; rfl
  | l :: r, xs, ⟨ys, cap, e, _, _, h⟩ => by rw [e]; simp [h.length]
theorem PV.le : ∀ {L : List Lev} {xs : List Value}, PV L xs → L.length ≤ nodesOf L
  | [], xs, h => by simp [nodesOf]
  | l :: r, xs, ⟨ys, cap, e, _, h0, h⟩ => by
    have := h.le
    have := l.T.length_le
    simp only [List.length_cons, nodesOf, List.map_cons, List.sum_cons] at *
    omega

theorem next_lev {w : World} {B pb : Nat} {pv : Value} {xs : List Value} {b o : Nat} {k n : Int} {s : ByteArray} {ar r : Ts} {L : List Lev} (hp : IsPath w B pb pv xs) (hv : PV (⟨b, o, .cons k n s ar r⟩ :: L) xs) (hn : nodesOf (⟨b, o, .cons k n s ar r⟩ :: L) ≤ 1073741824) :
    Calls Try.prog 74 #[.pointer (some ⟨pb, 0, none⟩)] w fun e w' => e = .returned (.pointer (some ⟨b, o, none⟩)) ∧
      ∃ pv' xs', IsPath w' B pb pv' xs' ∧ PV (push r b (o + 4) L) xs' ∧ pv'.ownBlock = pv.ownBlock ∧ Chg (fun k => k = pb ∨ pv.ownBlock = some k) w w' := by
  have hle := hv.le
  obtain ⟨ys, cap, rfl, hcap, _, hys⟩ := hv
  have hyl := hys.length
  have hrl := r.length_le
  simp only [List.length_cons, nodesOf, List.map_cons, List.sum_cons, Ts.nodes] at hle hn
  simp only [Ts.length] at hp hcap
  cases hr : r.length with
  | zero =>
    rw [hr] at hp
    refine (next_last hp (by omega)).mono ?_
    rintro e w' ⟨he, pv', h1, h2, h3⟩
    exact ⟨he, pv', ys, h1, by simpa [push, hr] using hys, h2, h3⟩
  | succ l =>
    rw [hr] at hp hcap
    refine (next_more hp (by omega) (by omega) hcap).mono ?_
    rintro e w' ⟨he, pv', h1, h2, h3⟩
    refine ⟨he, pv', _, h1, ?_, h2, h3⟩
    have e : push r b (o + 4) L = ⟨b, o + 4, r⟩ :: L := by simp [push, hr]
    rw [e]
    exact ⟨ys, cap - 1, by rw [hr], by show r.length ≤ _; omega, by show 0 < r.length; omega, hys⟩

theorem add_lev {w : World} {B pb : Nat} {pv : Value} {xs : List Value} {A : Option Addr} {c : Nat} {T : Ts} {b o : Nat} {L : List Lev} (hp : IsPath w B pb pv xs) (hv : PV L xs) (hB : B ≤ w.heap.size) (hn : nodesOf L ≤ 1073741824) (hc : T.length ≤ c) (hA : 0 < T.length → A = some ⟨b, o, none⟩) :
    Calls Try.prog 73 #[.pointer (some ⟨pb, 0, none⟩), .slice A T.length c] w fun e w' => e = .returned (.tuple #[]) ∧
      ∃ pv' xs', IsPath w' B pb pv' xs' ∧ PV (push T b o L) xs' ∧ (pv'.ownBlock = pv.ownBlock ∨ ∃ g, pv'.ownBlock = some g ∧ w.heap.size ≤ g) ∧ Chg (fun k => k = pb ∨ pv.ownBlock = some k) w w' := by
  have hle := hv.le
  have hyl := hv.length
  cases hl : T.length with
  | zero =>
    refine (add_none _ _ _).mono ?_
    rintro e w' ⟨he, rfl⟩
    exact ⟨he, pv, xs, hp, by simpa [push, hl] using hv, .inl rfl, Chg.refl _ _⟩
  | succ l =>
    refine (add_some hp hB (by omega)).mono ?_
    rintro e w' ⟨he, pv', h1, h2, h3⟩
    refine ⟨he, pv', _, h1, ?_, h2, h3⟩
    have e : push T b o L = ⟨b, o, T⟩ :: L := by simp [push, hl]
    rw [e]
    refine ⟨xs, c, ?_, hc, by show 0 < T.length; omega, hv⟩
    rw [hA (by omega), hl]
end Go.Proofs.Ytjicoifjgokoiab
