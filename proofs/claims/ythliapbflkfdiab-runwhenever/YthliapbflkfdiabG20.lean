/- SameK, PickK, LMore, LRun, Open, OpenC, OpenW: texts that follow one another, laid into one file. -/
import Derived.Test.YthliapbflkfdiabZ0
import Derived.Test.YthliapbflkfdiabG19
import Derived.Test.YthliapbflkfdiabRows
import Derived.Deep.LoopGhost
import Derived.StillTailTactics
import Derived.Test.YthliapbflkfdiabG1
import Derived.Test.YthliapbflkfdiabProg
import Derived.Deep.Slices
import Derived.Deep.Fields
import Derived.JoinedCond
import Derived.OpenShut
import Derived.Test.YthliapbflkfdiabG3
import Derived.Test.YthliapbflkfdiabG14
namespace Go.Proofs.Ythliapbflkfdiab.K
open Go.RowKit
set_option maxRecDepth 100000
def SameSaid (T U : Ts) : Prop := ∀ (k n : Int) (s : ByteArray) (v : Value) (k' n' : Int) (s' : ByteArray) (v' : Value) (w : World), Sl w (fun _ => True) v T → Sl w (fun _ => True) v' U → T.nodes ≤ 1073741824 → U.nodes ≤ 1073741824 →
    Calls Try.prog 34 #[.agg #[.int .i64 k, .int .i64 n, .string s, v], .agg #[.int .i64 k', .int .i64 n', .string s', v']] w fun e w' => e = .returned (.bool (same1 k n s T k' n' s' U)) ∧ Below w.heap.size w w'
set_option maxHeartbeats 400000 in
theorem sameTerm_of (m : Nat) (ih : ∀ T U : Ts, T.nodes < m → SameSaid T U) (T U : Ts) (hm : T.nodes ≤ m) : SameSaid T U := by
 intro k n s v k' n' s' v' w hv hv' hT hU
 obtain ⟨A, c, rfl, hs⟩ := hv.form
 obtain ⟨A', c', rfl, hs'⟩ := hv'.form
 have hle := T.length_le
 by_cases hk : k ≠ k'
 ·have r : same1 k n s T k' n' s' U = false := by simp [same1, hk]
  rw [r]
  have hk' : (k != k') = true := by simp [hk]
  clear r hk
  go_enter Try.func34, Try.ntmps34
  go_wp2_with fail
  go_ret
  exact ⟨rfl, ((Below.refl _ _).alloc (Nat.le_refl _) _).alloc (by simp) _⟩
 obtain rfl : k = k' := by simpa using hk
 by_cases hn : n ≠ n'
 ·have r : same1 k n s T k n' s' U = false := by simp [same1, hn]
  rw [r]
  have hn' : (n != n') = true := by simp [hn]
  clear r hk hn
  go_enter Try.func34, Try.ntmps34
  go_wp2_with fail
  go_ret
  exact ⟨rfl, ((Below.refl _ _).alloc (Nat.le_refl _) _).alloc (by simp) _⟩
 obtain rfl : n = n' := by simpa using hn
 by_cases hs0 : s ≠ s'
 ·have r : same1 k n s T k n s' U = false := by simp [same1, hs0]
  rw [r]
  have hs1 : (s.toList == s'.toList) = false := by simp [str_eq, hs0]
  clear r hk hn hs0
  go_enter Try.func34, Try.ntmps34
  go_wp2_with fail
  go_ret
  exact ⟨rfl, ((Below.refl _ _).alloc (Nat.le_refl _) _).alloc (by simp) _⟩
 obtain rfl : s = s' := by simpa using hs0
 by_cases hl : T.length ≠ U.length
 ·have r : same1 k n s T k n s U = false := by
   have : T.same U = false := by
    rw [Bool.eq_false_iff, ne_eq, Ts.same_iff]; exact fun e => hl (by rw [e])
   simp [same1, this]
  rw [r]
  have hl' : ((T.length : Int) != (U.length : Int)) = true := by rw [bne_iff_ne]; omega
  clear r hk hn hs0
  go_enter Try.func34, Try.ntmps34
  go_wp2_with fail
  go_ret
  exact ⟨rfl, ((Below.refl _ _).alloc (Nat.le_refl _) _).alloc (by simp) _⟩
 have hl' : ((T.length : Int) != (U.length : Int)) = false := by rw [bne_eq_false_iff_eq]; omega
 have r : same1 k n s T k n s U = T.same U := by simp [same1]
 rw [r]
 have HL : Hid (T.length = U.length) := Lib.hid (by simpa using hl)
 clear r hk hn hs0 hl
 have h0 : SameRel ((w.alloc (.cells #[.int .i64 k, .int .i64 n, .string s, .slice A T.length c] 39)).alloc (.cells #[.int .i64 k, .int .i64 n, .string s, .slice A' U.length c'] 39)) T U T.length (.int .i64 0)
   ((w.alloc (.cells #[.int .i64 k, .int .i64 n, .string s, .slice A T.length c] 39)).alloc (.cells #[.int .i64 k, .int .i64 n, .string s, .slice A' U.length c'] 39)) :=
  ⟨.nil, T, U, rfl, rfl, HL.out, rfl, rfl, Below.refl _ _⟩
 have hW : Below w.heap.size w ((w.alloc (.cells #[.int .i64 k, .int .i64 n, .string s, .slice A T.length c] 39)).alloc (.cells #[.int .i64 k, .int .i64 n, .string s, .slice A' U.length c'] 39)) :=
  ((Below.refl _ _).alloc (Nat.le_refl _) _).alloc (by simp) _
 go_enter Try.func34, Try.ntmps34
 go_wp2_with fail
 go_loopg [37] T.length (SameRel ((w.alloc (.cells #[.int .i64 k, .int .i64 n, .string s, .slice A T.length c] 39)).alloc (.cells #[.int .i64 k, .int .i64 n, .string s, .slice A' U.length c'] 39)) T U)
 case atStart => exact h0
 case round =>
  clear h0
  obtain ⟨D, R, R', eT, eU, eR, eg, rfl, hb⟩ := hrel
  have hbw : Below w.heap.size w wr := hW.trans (hb.mono (by simp; omega))
  cases R with
  | nil =>
   have e1 : D.length = T.length := by rw [eT, Ts.app_nil]
   have hres : T.same U = true := by
    rw [Ts.same_iff, eT, eU, Ts.nil_of_length (T := R') eR.symm]
   have HS := Lib.hid hres
   clear hres eT eU eR eg
   go_wp2_with fail
   go_ret
   exact ⟨by rw [HS.out]; rfl, hbw⟩
  | cons k1 n1 s1 a1 r1 =>
   cases R' with
   | nil => simp [Ts.length] at eR
   | cons k2 n2 s2 a2 r2 =>
   obtain ⟨f0, f1, f2, f3, ff⟩ := (((Plot.new w 39 #[.int .i64 k, .int .i64 n, .string s, .slice A T.length c]).alloc (.cells #[.int .i64 k, .int .i64 n, .string s, .slice A' U.length c'] 39)).below hb).four
   obtain ⟨g0, g1, g2, g3, gf⟩ := ((Plot.new (w.alloc (.cells #[.int .i64 k, .int .i64 n, .string s, .slice A T.length c] 39)) 39 #[.int .i64 k, .int .i64 n, .string s, .slice A' U.length c']).below hb).four
   simp only [World.size_alloc] at g3
   clear f0 f1 f2 ff g0 g1 g2 gf
   have e1 : D.length < T.length := by rw [eT, Ts.length_app]; simp [Ts.length]
   have e2 : D.length < U.length := by rw [eU, Ts.length_app]; simp [Ts.length]
   have e3 : a1.nodes < m ∧ a1.nodes ≤ 1073741824 := by rw [eT, Ts.nodes_app] at hm hT; simp [Ts.nodes] at hm hT; omega
   have e4 : a2.nodes ≤ 1073741824 := by rw [eU, Ts.nodes_app] at hU; simp [Ts.nodes] at hU; omega
   have hs2 := (hs.below hbw)
   have hs3 := (hs'.below hbw)
   obtain ⟨b1, o1, rfl, hq1⟩ := Sl.at_ (D := D) (R := .cons k1 n1 s1 a1 r1) (by rw [← eT]; exact hs2) (by simp [Ts.length])
   obtain ⟨b2, o2, rfl, hq2⟩ := Sl.at_ (D := D) (R := .cons k2 n2 s2 a2 r2) (by rw [← eU]; exact hs3) (by simp [Ts.length])
   obtain ⟨_, c10, c11, c12, ⟨v1, c13, hv1⟩, _⟩ := seg_cons.1 hq1
   obtain ⟨_, c20, c21, c22, ⟨v2, c23, hv2⟩, _⟩ := seg_cons.1 hq2
   have HT := Lib.hid eT
   have HU := Lib.hid eU
   have HG := Lib.hid eg
   have HR := Lib.hid eR
   clear eT eU eg eR hs2 hs3 hq1 hq2
   go_wp2_with fail
   go_still_tail 10, (by kernel_rfl)
   change wpList _ _ _ _ _ wr.drew
   obtain ⟨A1, d1, rfl, hv1⟩ := hv1.form
   obtain ⟨A2, d2, rfl, hv2⟩ := hv2.form
   go_wp2_with fail
   refine (ih a1 a2 e3.1 k1 n1 s1 _ k2 n2 s2 _ _ ?_ ?_ e3.2 e4).mono ?_
   ·exact hv1.below (below_drewN _ wr 1)
   ·exact hv2.below (below_drewN _ wr 1)
   rintro e w2 ⟨rfl, hb2⟩
   have hb3 : Below wr.heap.size wr w2 := (below_drewN _ wr 1).trans hb2
   cases hsame : same1 k1 n1 s1 a1 k2 n2 s2 a2 with
   | false =>
    have hres : T.same U = false := Ts.same_stop HT.out HU.out hsame
    have HS := Lib.hid hres
    clear hres hsame
    go_wp2_with fail
    go_ret
    exact ⟨by rw [HS.out]; rfl, hbw.trans (hb3.mono hbw.size)⟩
   | true =>
    have HS := Lib.hid hsame
    clear hsame
    go_wp2_with fail
    go_roundg r1.length
    case measure => rw [HG.out]; simp [Ts.length]
    case rel => exact SameRel.step HT.out HU.out HR.out HS.out hb hb3
theorem same_said (T U : Ts) : SameSaid T U := by
 have : ∀ m, ∀ T U : Ts, T.nodes < m → SameSaid T U := by
  intro m
  induction m with
  | zero => intro T U h; omega
  | succ m ih => intro T U h; exact sameTerm_of m ih T U (by omega)
 exact this _ T U (Nat.lt_succ_self _)
set_option maxHeartbeats 400000 in
theorem sameTerms_any (T U : Ts) (v v' : Value) (w : World) (hv : Sl w (fun _ => True) v T) (hv' : Sl w (fun _ => True) v' U) (hT : T.nodes ≤ 1073741824) (hU : U.nodes ≤ 1073741824) :
  Calls Try.prog 37 #[v, v'] w fun e w' => e = .returned (.bool (T.same U)) ∧ Below w.heap.size w w' := by
 obtain ⟨A, c, rfl, hs⟩ := hv.form
 obtain ⟨A', c', rfl, hs'⟩ := hv'.form
 have hle := T.length_le
 by_cases hl : T.length ≠ U.length
 ·have r : T.same U = false := by
   rw [Bool.eq_false_iff, ne_eq, Ts.same_iff]; exact fun e => hl (by rw [e])
  rw [r]
  have hl' : ((T.length : Int) != (U.length : Int)) = true := by rw [bne_iff_ne]; omega
  clear r
  go_enter Try.func37, Try.ntmps37
  go_wp2_with fail
  go_ret
  exact ⟨rfl, Below.refl _ _⟩
 have hl' : ((T.length : Int) != (U.length : Int)) = false := by rw [bne_eq_false_iff_eq]; omega
 have HL : Hid (T.length = U.length) := Lib.hid (by simpa using hl)
 clear hl
 have h0 : SameRel w T U T.length (.int .i64 0) w := ⟨.nil, T, U, rfl, rfl, HL.out, rfl, rfl, Below.refl _ _⟩
 go_enter Try.func37, Try.ntmps37
 go_wp2_with fail
 go_loopg [13] T.length (SameRel w T U)
 case atStart => exact h0
 case round =>
  clear h0
  obtain ⟨D, R, R', eT, eU, eR, eg, rfl, hb⟩ := hrel
  cases R with
  | nil =>
   have e1 : D.length = T.length := by rw [eT, Ts.app_nil]
   have hres : T.same U = true := by
    rw [Ts.same_iff, eT, eU, Ts.nil_of_length (T := R') eR.symm]
   have HS := Lib.hid hres
   clear hres eT eU eR eg
   go_wp2_with fail
   go_ret
   exact ⟨by rw [HS.out]; rfl, hb⟩
  | cons k1 n1 s1 a1 r1 =>
   cases R' with
   | nil => simp [Ts.length] at eR
   | cons k2 n2 s2 a2 r2 =>
   have e1 : D.length < T.length := by rw [eT, Ts.length_app]; simp [Ts.length]
   have e2 : D.length < U.length := by rw [eU, Ts.length_app]; simp [Ts.length]
   have e3 : a1.nodes ≤ 1073741824 := by rw [eT, Ts.nodes_app] at hT; simp [Ts.nodes] at hT; omega
   have e4 : a2.nodes ≤ 1073741824 := by rw [eU, Ts.nodes_app] at hU; simp [Ts.nodes] at hU; omega
   have hs2 := (hs.below hb)
   have hs3 := (hs'.below hb)
   obtain ⟨b1, o1, rfl, hq1⟩ := Sl.at_ (D := D) (R := .cons k1 n1 s1 a1 r1) (by rw [← eT]; exact hs2) (by simp [Ts.length])
   obtain ⟨b2, o2, rfl, hq2⟩ := Sl.at_ (D := D) (R := .cons k2 n2 s2 a2 r2) (by rw [← eU]; exact hs3) (by simp [Ts.length])
   obtain ⟨_, c10, c11, c12, ⟨v1, c13, hv1⟩, _⟩ := seg_cons.1 hq1
   obtain ⟨_, c20, c21, c22, ⟨v2, c23, hv2⟩, _⟩ := seg_cons.1 hq2
   have HT := Lib.hid eT
   have HU := Lib.hid eU
   have HG := Lib.hid eg
   have HR := Lib.hid eR
   clear eT eU eg eR hs2 hs3 hq1 hq2
   go_wp2_with fail
   go_still_tail 8, (by kernel_rfl)
   change wpList _ _ _ _ _ wr.drew
   obtain ⟨A1, d1, rfl, hv1⟩ := hv1.form
   obtain ⟨A2, d2, rfl, hv2⟩ := hv2.form
   go_wp2_with fail
   refine (same_said a1 a2 k1 n1 s1 _ k2 n2 s2 _ _ ?_ ?_ e3 e4).mono ?_
   ·exact hv1.below (below_drewN _ wr 1)
   ·exact hv2.below (below_drewN _ wr 1)
   rintro e w2 ⟨rfl, hb2⟩
   have hb3 : Below wr.heap.size wr w2 := (below_drewN _ wr 1).trans hb2
   cases hsame : same1 k1 n1 s1 a1 k2 n2 s2 a2 with
   | false =>
    have hres : T.same U = false := Ts.same_stop HT.out HU.out hsame
    have HS := Lib.hid hres
    clear hres hsame
    go_wp2_with fail
    go_ret
    exact ⟨by rw [HS.out]; rfl, hb.trans (hb3.mono hb.size)⟩
   | true =>
    have HS := Lib.hid hsame
    clear hsame
    go_wp2_with fail
    go_roundg r1.length
    case measure => rw [HG.out]; simp [Ts.length]
    case rel => exact SameRel.step HT.out HU.out HR.out HS.out hb hb3
end Go.Proofs.Ythliapbflkfdiab.K
namespace Go.Proofs.Ythliapbflkfdiab
open Go.RowKit
set_option linter.unusedVariables false
set_option linter.unusedSimpArgs false
set_option maxRecDepth 100000
set_option maxHeartbeats 1000000
theorem pickN_any (k n : Int) (h0 : 0 < n) (h1 : n ≤ 1000) (w : World) : Calls Try.prog 36 #[.int .i64 k, .int .i64 n] w fun e w' => ∃ r : Int, e = .returned (.int .i64 r) ∧ 0 ≤ r ∧ r < n ∧ w = w' := by
 have h2 : -n < k.tmod n ∧ k.tmod n < n := by
  have h3 := Int.emod_lt_of_pos k h0
  have h4 := Int.emod_nonneg k (show n ≠ 0 by omega)
  rw [Int.tmod_eq_emod]
  split <;> omega
 have hne : ¬ n = 0 := by omega
 go_enter Try.func36, Try.ntmps36
 go_wp2_with fail
 all_goals go_ret
 all_goals refine ⟨_, rfl, ?_, ?_, rfl⟩
 all_goals (first | omega | (simp; omega))
end Go.Proofs.Ythliapbflkfdiab
namespace Go.Proofs.Ythliapbflkfdiab
open Go.RowKit
set_option linter.unusedVariables false
set_option linter.unusedSimpArgs false
set_option maxRecDepth 100000
set_option maxHeartbeats 1000000
theorem ke_ext {a b : List KE} (h : a.map KE.ev = b.map KE.ev) : a.length = b.length := by
 have := congrArg List.length h; simpa using this
theorem sameEvents_any (L K : List KE) (A B : Option Addr) (c d : Nat) (w : World) (hL : KER L A c w) (hK : KER K B d w) (he : L.map KE.ev = K.map KE.ev) (hn : ∀ x ∈ L, x.T.ts.nodes ≤ 200) (hl : L.length ≤ 1000) :
  Calls Try.prog 44 #[.slice A L.length c, .slice B K.length d] w fun e w' => e = .returned (.bool true) ∧ Below w.heap.size w w' := by
 have hS := St.start w
 have hlen := ke_ext he
 rw [← hlen]
 refine goes_enter2 Try.func44 rfl Try.ntmps44 rfl ?_
 refine ZG ?_
 refine Zz ?_
 refine Zau ?_
 refine ZR ?_
 refine ZaK ?_
 refine ZJ ?_
 refine goes_loop1 13 (14 :: 15 :: 5 :: 16 :: 17 :: 18 :: 19 :: 20 :: 21 :: 22 :: 23 :: 24 :: 25 :: 26 :: 27 :: 28 :: 29 :: 30 :: 31 :: 32 :: 33 :: 34 :: 35 :: 36 :: 37 :: 38 :: 39 :: 40 :: 4 :: 41 :: []) (fun (R : List KE) v w' => St [] w [] [] w' ∧ ∃ D, L = D ++ R ∧ v = .int .i64 (D.length : Nat)) (fun R => R.length) (L) ?_ (by conv=>lhs;whnf) ?_
 ·exact ⟨hS, [], rfl, rfl⟩
 clear hS
 rintro R _ w2 jv ⟨hS, D, hD, rfl⟩ ih
 have hlD : L.length = D.length + R.length := by rw [hD]; simp
 cases R with
 | nil =>
  simp only [List.length_nil] at hlD
  refine Zcb ?_
  refine goes_ret1 Try.func44 rfl (by conv=>lhs;whnf) ?_
  exact ⟨rfl, hS.ext.below⟩
 | cons x R =>
  simp only [List.length_cons] at hlD
  obtain ⟨D2, y, R2, hK2, hDl, hy⟩ : ∃ D2 y R2, K = D2 ++ y :: R2 ∧ D2.length = D.length ∧ y.ev = x.ev := by
   have hk : D.length < K.length := by omega
   refine ⟨K.take D.length, K[D.length], K.drop (D.length + 1), ?_, by simp; omega, ?_⟩
   ·rw [← List.drop_eq_getElem_cons hk, List.take_append_drop]
   ·have h1 := congrArg (fun l => l[D.length]?) he
    simp only [List.getElem?_map] at h1
    rw [hD, List.getElem?_append_right (Nat.le_refl _), Nat.sub_self] at h1
    simp [hk] at h1
    exact h1.symm
  obtain ⟨xk, xA, xc, xT⟩ := x
  obtain ⟨yk, yA, yc, yT⟩ := y
  simp only [KE.ev, Prod.mk.injEq] at hy
  obtain ⟨rfl, hyT⟩ := hy
  have hnx : xT.ts.nodes ≤ 200 := hn ⟨yk, xA, xc, xT⟩ (by rw [hD]; simp)
  rw [hD] at hL
  rw [hK2] at hK
  obtain ⟨b6, o6, rfl⟩ := hL.some_ (by simp; omega)
  obtain ⟨b8, o8, rfl⟩ := hK.some_ (by simp; omega)
  obtain ⟨p0, p1⟩ := hL.cells
  obtain ⟨q0, q1⟩ := hK.cells
  rw [hDl] at q0 q1
  have hax := hL.2.2 ⟨yk, xA, xc, xT⟩ (by simp)
  have hay := hK.2.2 ⟨yk, yA, yc, yT⟩ (by simp)
  have hsames : ∀ w', St [] w [] [] w' → Calls Try.prog 37 #[.slice xA xT.len xc, .slice yA yT.len yc] w' fun e w'' => e = .returned (.bool true) ∧ Below w'.heap.size w' w'' := by
   intro w' h
   have := _root_.Go.Proofs.Ythliapbflkfdiab.K.sameTerms_any xT.ts yT.ts _ _ w' (hax.sl.below h.ext.below) (hay.sl.below h.ext.below) (by omega) (by rw [hyT]; omega)
   rw [(Ts.same_iff _ _).2 hyT.symm] at this
   exact this
  refine ZaL ?_
  refine ZN ?_
  refine goes_draw (St [] w [] []) 25 ((0, true) :: (1, true) :: (2, true) :: (3, true) :: (4, true) :: (5, true) :: (6, true) :: (7, true) :: (8, true) :: (9, true) :: (10, true) :: (11, true) :: (12, true) :: (13, true) :: (14, true) :: (15, true) :: (16, true) :: (17, true) :: (18, true) :: (19, true) :: (20, true) :: (21, true) :: (22, false) :: (23, true) :: (24, true) :: []) (by kernel_rfl) (by kernel_rfl) (hS.drew) ?_
  replace hS := hS.drew
  refine ZaB ?_
  refine ord_read rfl (fun _ hS => run_indexAddr (sz := 2) rfl rfl rfl rfl (by omega) (by omega)) rfl ?_
  refine Zad ?_
  refine ZX ?_
  refine ZaB ?_
  refine ord_read rfl (fun _ hS => run_indexAddr (sz := 2) rfl rfl rfl rfl (by omega) (by omega)) rfl ?_
  refine Zad ?_
  refine ZX ?_
  first
   | refine ord_read rfl (fun _ hS => run_neq_one_int rfl rfl) rfl ?_
   | refine ord_read rfl (fun _ hS => run_neq_no rfl rfl (by first | assumption | omega)) rfl ?_
   | refine ord_read rfl (fun _ hS => run_neq_yes rfl rfl (by omega)) rfl ?_
   | refine ord_read rfl (fun _ hS => rfl) rfl ?_
  refine ZA ?_
  refine Za8 ?_
  refine Za8 ?_
  refine ZeS ?_
  refine ord_readG rfl rfl rfl (fun _ hS => run_fieldAddr (off := 1) rfl rfl) rfl ?_
  refine ZbU ?_
  refine Za8 ?_
  refine Za8 ?_
  refine ZeS ?_
  refine ord_readG rfl rfl rfl (fun _ hS => run_fieldAddr (off := 1) rfl rfl) rfl ?_
  refine ZbU ?_
  refine ZM ?_
  refine Zk ?_
  refine Zj ?_
  refine Calls.mono (hsames _ hS) ?_
  rintro _ w7 ⟨rfl, hb7⟩
  refine Za ?_
  replace hS := hS.grow hb7
  refine lst_ord hS ?_
  refine ord_readG rfl rfl rfl (fun _ hS => rfl) rfl ?_
  refine Zdp ?_
  refine ZP ?_
  refine ZaM ?_
  refine ih (R) _ _ _ ?_ ?_ (by conv=>lhs;whnf) (by kernel_rfl)
  ·simp
  ·exact ⟨hS, D ++ [⟨yk, xA, xc, xT⟩], by rw [hD]; simp, by simp⟩
section
variable {F : List (World → Prop)}
theorem ev_nodes {vars : Nat} {s : SS} {r : List Ev} {l : List Ts} {k : Int} (h : RunOk vars s r l k) {L : List KE} (hL : L.map KE.ev = r) : (∀ x ∈ L, x.T.ts.nodes ≤ 200) ∧ L.length ≤ 13 := by
 refine ⟨fun x hx => ?_, ?_⟩
 ·have : x.ev ∈ r := by rw [← hL]; exact List.mem_map.2 ⟨x, hx, rfl⟩
  rw [h.eq] at this
  rcases List.mem_append.1 this with h1 | h1
  ·obtain ⟨T, hT, e⟩ := List.mem_map.1 h1
   have e2 : T = x.T.ts := congrArg Prod.snd e
   rw [← e2]; exact (h.ans T hT).2.1
  ·have e : x.ev = (k, .nil) := by simpa using h1
   have e2 : x.T.ts = .nil := congrArg Prod.snd e
   rw [e2]; simp [Ts.nodes]
 ·have := congrArg List.length hL
  rw [h.eq] at this
  simp [evsOf] at this
  have := h.six.2
  omega
end
end Go.Proofs.Ythliapbflkfdiab
namespace Go.Proofs.Ythliapbflkfdiab
open Go.RowKit
set_option linter.unusedVariables false
set_option linter.unusedSimpArgs false
set_option maxRecDepth 100000
set_option maxHeartbeats 1000000
theorem goes_enter6 {P : Program} {f : FuncId} {R : Ending → World → Prop} {w : World} {n : Nat} {fn : Func} {c : Code} {a0 a1 a2 a3 a4 a5 : Value} (hf : P.funcs[f]? = some fn) (hb : fn.body = some c) (hn : fn.ntmps = n) (hl : Nat.ble 6 n = true)
  (h : Goes P f R [.code c] (act n [(0, a0), (1, a1), (2, a2), (3, a3), (4, a4), (5, a5)]) w) : Calls P f #[a0, a1, a2, a3, a4, a5] w R := goes_enter (l := [a0, a1, a2, a3, a4, a5]) hf hb hn hl h
theorem evs_few {P : List Cl} {q : Ts} {vars fuel : Int} {L : List KE} (h : L.map KE.ev = (allM P q vars fuel).1) : (∀ x ∈ L, x.T.ts.nodes ≤ 200) ∧ L.length ≤ 1000 := by
 by_cases he : (allM P q vars fuel).2 = 0
 ·obtain ⟨l, k, hr⟩ := all_events he
  obtain ⟨h1, h2⟩ := ev_nodes hr h
  exact ⟨h1, by omega⟩
 ·rw [all_err he] at h
  obtain rfl : L = [] := by simpa using h
  exact ⟨fun x hx => (by cases hx), by simp⟩
theorem runWhenever_any (P : List Cl) (Q : Ts) (pv qv : Value) (vars fuel x y : Int) (w : World) (hp : SlC w (fun _ => True) pv P) (hq : Sl w (fun _ => True) qv Q) (hpl : P.length ≤ 9223372036854775807) (hpw : ClsWide P) (hql : Q.length ≤ 9223372036854775807) (hqw : Q.wide) :
  Calls Try.prog 12 #[pv, qv, .int .i64 vars, .int .i64 fuel, .int .i64 x, .int .i64 y] w fun e w' => e = .returned (.bool true) ∧ Below w.heap.size w w' := by
 have hS := St.start w
 obtain ⟨pA, pc, X, rfl, hX, hXr⟩ := hp.locate
 obtain ⟨qA, qc, Y, rfl, hY, hYr⟩ := hq.locate
 replace hS := hS.base (φ := ClsR X pA pc) fun w2 hx => hXr w2 fun k hk hl => hx.block k hl (by simp)
 replace hS := hS.base (φ := ArA qA qc Y) fun w2 hx => hYr w2 fun k hk hl => hx.block k hl (by simp)
 have hXl : X.length ≤ 9223372036854775807 := by rw [← hX] at hpl; simpa using hpl
 have hYl : Y.len ≤ 9223372036854775807 := by rw [← TA.len_ts, hY]; exact hql
 rw [← hX] at hpw
 rw [← hY] at hqw
 refine goes_enter6 Try.func12 rfl Try.ntmps12 rfl ?_
 refine Zi ?_
 refine Zm ?_
 refine ZO ?_
 refine Zab ?_
 refine Calls.mono (pickN_any x _ (by omega) (by omega) _) ?_
 rintro _ w3 ⟨r, rfl, hr0, hr1, rfl⟩
 refine Za ?_
 have h1 := runAll_any X pA pc Y qA qc vars fuel r _ Und.head.tail Und.head hXl hpw hYl hqw (by omega) hS
 rw [allX_eq _ _ _ _ _ hr0] at h1
 refine ZbR ?_
 refine Calls.mono (h1) ?_
 rintro _ w4 ⟨A1, c1, L1, F1, rfl, hL1, hF1, hK1, hS'⟩
 refine Za ?_
 replace hS := hS'
 clear hS'
 refine Zaf ?_
 refine Zb1 ?_
 refine ZO ?_
 refine Zab ?_
 refine Calls.mono (pickN_any y _ (by omega) (by omega) _) ?_
 rintro _ w5 ⟨z, rfl, hz0, hz1, rfl⟩
 refine Za ?_
 have h2 := runAll_any X pA pc Y qA qc vars fuel z _ (Und.head.tail.mono hF1) (Und.head.mono hF1) hXl hpw hYl hqw (by omega) hS
 rw [allX_eq _ _ _ _ _ hz0] at h2
 refine ZbR ?_
 refine Calls.mono (h2) ?_
 rintro _ w6 ⟨A2, c2, L2, F2, rfl, hL2, hF2, hK2, hS'⟩
 refine Za ?_
 replace hS := hS'
 clear hS'
 obtain ⟨f1, f2⟩ := evs_few hL1
 refine Zaf ?_
 refine Zb1 ?_
 refine Zl ?_
 refine ZU ?_
 refine Zo ?_
 refine Zj ?_
 refine Calls.mono (sameEvents_any L1 L2 A1 A2 c1 c2 _ (hS.und (hK1.mono hF2)) (hS.und hK2) (hL1.trans hL2.symm) f1 f2) ?_
 rintro _ w7 ⟨rfl, hb7⟩
 refine Za ?_
 replace hS := hS.grow hb7
 refine Zy ?_
 refine Zo ?_
 refine lst_enter (run_call (by kernel_rfl) args_nil) rfl ?_
 refine Calls.mono (runsK_any _) ?_
 rintro _ w8 ⟨rfl, hb8⟩
 refine Za ?_
 replace hS := hS.grow hb8
 refine Z4 ?_
 refine goes_ret1 Try.func12 rfl (by conv=>lhs;whnf) ?_
 exact ⟨rfl, hS.ext.below⟩
end Go.Proofs.Ythliapbflkfdiab
namespace Go.Proofs.Ythliapbflkfdiab
open Go.RowKit Go.ChangeShapes Go.WideShapes Go.ChangeAt
set_option maxRecDepth 100000
theorem Try.laidOut : laidOutB Try.prog = true := by kernel_rfl
theorem Try.own : ownKnob Try.prog.godebug = none := by kernel_rfl
theorem cells_term : Try.prog.cellsOf 39 = 4 := by kernel_rfl
theorem cells_int : Try.prog.cellsOf 3 = 1 := by kernel_rfl
theorem cells_string : Try.prog.cellsOf 9 = 1 := by kernel_rfl
theorem cells_terms : Try.prog.cellsOf 37 = 1 := by kernel_rfl
section
variable {H : Type} {enc : TypeId × Value → H} {w : World} {base : Nat} {spare : Nat → Bool} {held : Bool}
theorem bulk_pos (d : DataW H) : 1 ≤ Rows.uptoBulk d := by
 cases d with
 | lit l => cases l <;> simp [Rows.uptoBulk]
 | nil => simp [Rows.uptoBulk]
 | ptr d => simp [Rows.uptoBulk]
 | slice elems spare => simp [Rows.uptoBulk]
 | agg parts => simp [Rows.uptoBulk]
 | iface t d => simp [Rows.uptoBulk]
 | map entries => simp [Rows.uptoBulk]
 | held h => simp [Rows.uptoBulk]
theorem bulk_mem {l : List (DataW H)} : ∀ {i : Nat} {d : DataW H}, l[i]? = some d → Rows.uptoBulk d ≤ Rows.uptoBulkAll l := by
 induction l with
 | nil => intro i d h; simp at h
 | cons x r ih =>
  intro i d h
  cases i with
  | zero => simp at h; subst h; simp [Rows.uptoBulkAll]
  | succ i =>
   have := ih (i := i) (d := d) (by simpa using h)
   simp only [Rows.uptoBulkAll]; omega
theorem open_cells {fuel : Nat} {cs : List Value} {x : DataW H × List MemPlace} (h : DataW.trod enc Try.prog w base spare held fuel 39 cs = some x) :
  ∃ (k n : Int) (s : ByteArray) (v : Value) (y : DataW H × List MemPlace) (m : Nat), cs = [.int .i64 k, .int .i64 n, .string s, v] ∧ DataW.trod enc Try.prog w base spare held m 37 [v] = some y ∧
   Rows.uptoBulk y.1 + 1 ≤ Rows.uptoBulk x.1 ∧ (Lit.int .i64 k).wf = true ∧ (Lit.int .i64 n).wf = true ∧ s.size ≤ maxLen ∧ s.size + Rows.uptoBulk y.1 + 3 ≤ Rows.uptoBulk x.1 := by
 obtain ⟨xs, m, _, hx, hlen, hxl, hf⟩ := DataW.trod_struct Try.underlying39 h
 rw [cells_term] at hlen
 have f0 : DataW.trod enc Try.prog w base spare held m 3 ((cs.drop 0).take (Try.prog.cellsOf 3)) = xs[0]? := hf 0 _ rfl
 have f1 : DataW.trod enc Try.prog w base spare held m 3 ((cs.drop 1).take (Try.prog.cellsOf 3)) = xs[1]? := hf 1 _ rfl
 have f2 : DataW.trod enc Try.prog w base spare held m 9 ((cs.drop 2).take (Try.prog.cellsOf 9)) = xs[2]? := hf 2 _ rfl
 have f3 : DataW.trod enc Try.prog w base spare held m 37 ((cs.drop 3).take (Try.prog.cellsOf 37)) = xs[3]? := hf 3 _ rfl
 rw [cells_int] at f0 f1
 rw [cells_string] at f2
 rw [cells_terms] at f3
 match cs, hlen, xs, hxl, hx with
 | [c0, c1, c2, c3], _, [y0, y1, y2, y3], _, hx =>
  simp only [List.drop_zero, List.drop_succ_cons, List.take_succ_cons, List.take_zero, List.getElem?_cons_zero, List.getElem?_cons_succ] at f0 f1 f2 f3
  obtain ⟨k, e0, r0, w0⟩ := DataW.trod_int Try.underlying3 f0
  obtain ⟨n, e1, r1, w1⟩ := DataW.trod_int Try.underlying3 f1
  obtain ⟨s, e2, r2, w2⟩ := DataW.trod_string Try.underlying9 f2
  simp only [List.cons.injEq, and_true] at e0 e1 e2
  subst e0 e1 e2 hx r0 r1 r2
  have h3 := bulk_pos y3.1
  have hsz : s.data.toList.length = s.size := by rw [Array.length_toList]; rfl
  refine ⟨k, n, s, c3, y3, m, rfl, f3, ?_, w0, w1, w2, ?_⟩
  ·simp only [List.map_cons, List.map_nil, Rows.uptoBulk, Rows.uptoBulkAll]; omega
  ·simp only [List.map_cons, List.map_nil, Rows.uptoBulk, Rows.uptoBulkAll]; omega
theorem addr_add {a : Addr} {i : Nat} {u : Value} (h : w.cell? (a.add i) = some u) (ha : a.spot = none) : w.cell? ⟨a.block, a.off + i, none⟩ = some u := by
 unfold Addr.add at h
 split at h
 ·rename_i e
  subst e
  obtain ⟨b, o, sp⟩ := a
  simp only at ha
  subst ha
  simpa using h
 ·exact h
end
theorem trodAll_below {H : Type} {enc : TypeId × Value → H} {P : Program} (hl : laidOutB P = true) {W W' : World} (hb : Below W.heap.size W W') : ∀ {ts : List TypeId} {vs : List Value} {ds : List (DataW H)} {ps : List MemPlace}, (∀ t ∈ ts, P.readableRec t = true ∧ t < P.types.size) →
  DataW.TrodAll enc P W 0 (fun _ => true) true ts vs ds ps → (∀ x ∈ ps, x.block < W.heap.size) → DataW.TrodAll enc P W' 0 (fun b => decide (b < W.heap.size)) true ts vs ds ps
 | [], [], [], _, _, h, _ => h
 | [], [], _ :: _, _, _, h, _ => h.elim
 | [], _ :: _, _, _, _, h, _ => h.elim
 | _ :: _, [], _, _, _, h, _ => h.elim
 | _ :: _, _ :: _, [], _, _, h, _ => h.elim
 | t :: ts, v :: vs, d :: ds, ps, ht, ⟨p, q, h1, h2, e⟩, hlt => by
  subst e
  obtain ⟨a, b⟩ := ht t (List.mem_cons_self ..)
  exact ⟨p, q, Below.trod hl a b h1 hb fun x hx => hlt x (List.mem_append_left _ hx), trodAll_below hl hb (fun t ht' => ht t (List.mem_cons_of_mem _ ht')) h2 fun x hx => hlt x (List.mem_append_right _ hx), rfl⟩
theorem law_post {H : Type} {enc : TypeId × Value → H} {P : Program} {f : Func} {s : ChangeSpec} {W W' : World} {args : Array Value} {ds gs : List (DataW H)} {before : List MemPlace} (hl : laidOutB P = true) {bt : TypeId}
  (hres : f.resultTypes = #[bt]) (hbt : P.underlying bt = some .bool) (ht : (f.params.toList.all fun t => P.readableRec t && decide (t < P.types.size)) = true) (hvars : s.vars = [])
  (hfn : (s.fn H (ds ++ gs)).results = [.lit (.bool true)] ∧ (s.fn H (ds ++ gs)).args = ds ∧ (s.fn H (ds ++ gs)).vars = [])
  (hW : DataW.Whole enc P f.params.toList s.vars false W args.toList ds gs before) (hb : Below W.heap.size W W') :
  s.post enc P f false true false false W args (.bool true) W' := by
 have hlt := hW.lt
 have hW' := hW
 obtain ⟨p, q, hA, hV, rfl, hfz, hnd⟩ := hW
 refine ⟨ds, gs, p ++ q, [], p, [], hW', ?_, ?_, ?_, ?_, fun h => by cases h⟩
 ·rw [hfn.1, hres]
  exact trodAll_cons_mk (shut_bool hbt _) trodAll_mk0
 ·rw [hfn.2.1]
  exact trodAll_below hl hb (fun t h => by have := List.all_eq_true.1 ht t h; simpa using this) hA fun x hx => hlt x (List.mem_append_left _ hx)
 ·rw [hfn.2.2, hvars]
  rfl
 ·exact hb.frame _
end Go.Proofs.Ythliapbflkfdiab
namespace Go.Proofs.Ythliapbflkfdiab
open Go.RowKit Go.ChangeShapes Go.WideShapes Go.ChangeAt
set_option maxRecDepth 100000
theorem cells_clause : Try.prog.cellsOf 57 = 6 := by kernel_rfl
section
variable {H : Type} {enc : TypeId × Value → H} {w : World} {base : Nat} {spare : Nat → Bool} {held : Bool}
end
end Go.Proofs.Ythliapbflkfdiab
namespace Go.Proofs.Ythliapbflkfdiab
open Go.RowKit Go.ChangeShapes Go.WideShapes Go.ChangeAt
set_option maxRecDepth 100000
section
variable {H : Type} {enc : TypeId × Value → H} {w : World} {base : Nat} {spare : Nat → Bool} {held : Bool}
theorem open_termsW : ∀ (b fuel : Nat) (v : Value) (x : DataW H × List MemPlace), Rows.uptoBulk x.1 ≤ b → DataW.trod enc Try.prog w base spare held fuel 37 [v] = some x →
  ∃ T : Ts, Sl w (fun _ => True) v T ∧ T.length ≤ 9223372036854775807 ∧ T.wide := by
 intro b
 induction b with
 | zero => intro fuel v x hb _; have := bulk_pos x.1; omega
 | succ b ih =>
  intro fuel v x hb h
  rcases Deep.open_slice Try.underlying37 h with ⟨e, rfl⟩ | ⟨a, len, cap, m, n, D, Pl, e, _, hl, hcm, hm, rfl, hi⟩
  ·simp only [List.cons.injEq, and_true] at e
   subst e
   exact ⟨.nil, Sl.nil _ _, by simp [Ts.length], trivial⟩
  ·simp only [List.cons.injEq, and_true] at e
   subst e
   rw [cells_term] at hi
   have hml : len ≤ m := by rw [hm]; split <;> omega
   have hbulk : ∀ j, j < len → Rows.uptoBulk (D j) ≤ Rows.uptoBulkAll ((List.range len).map D) := fun j hj => bulk_mem (i := j) (by simp [hj])
   simp only [Rows.uptoBulk] at hb ⊢
   have hspot : 0 < len → a.spot = none := fun hp => by
    obtain ⟨cs, hc, ht⟩ := hi 0 (by omega)
    obtain ⟨k, n', s, v', y, m', rfl, _⟩ := open_cells ht
    obtain ⟨_, _, hat⟩ := World.cells?_some hc
    have h0 := hat 0 (by omega)
    simp only [Nat.zero_mul, Addr.add, if_true, List.getElem?_cons_zero] at h0
    unfold World.cell? at h0
    split at h0
    ·split at h0
     ·cases h0
     ·rename_i hs; simpa using hs
    ·cases h0
   have key : ∀ r j, j + r = len → ∃ T : Ts, T.length = r ∧ Seg w (fun _ => True) T a.block (a.off + j * 4) ∧ T.wide := by
    intro r
    induction r with
    | zero => intro j _; exact ⟨.nil, rfl, trivial, trivial⟩
    | succ r ihr =>
     intro j hj
     obtain ⟨T, hT1, hT2, hT3⟩ := ihr (j + 1) (by omega)
     obtain ⟨cs, hc, ht⟩ := hi j (by omega)
     obtain ⟨k, n', s, v', y, m', rfl, hy, hyb, _⟩ := open_cells ht
     obtain ⟨_, _, hat⟩ := World.cells?_some hc
     have hbj := hbulk j (by omega)
     simp only at hyb
     obtain ⟨U, hU1, hU2, hU3⟩ := ih m' v' y (by omega) hy
     have hsp := hspot (by omega)
     have hcell : ∀ q u, q < 4 → [Value.int .i64 k, .int .i64 n', .string s, v'][q]? = some u → w.cell? ⟨a.block, a.off + j * 4 + q, none⟩ = some u := fun q u hq hu => by
      have h1 := (hat q hq).trans hu
      rw [Deep.add_add] at h1
      have h2 := addr_add h1 hsp
      rwa [← Nat.add_assoc] at h2
     refine ⟨.cons k n' s U T, by simp [Ts.length, hT1], ?_, ?_⟩
     ·refine seg_cons.2 ⟨trivial, by simpa using hcell 0 _ (by omega) rfl, hcell 1 _ (by omega) rfl, hcell 2 _ (by omega) rfl, ⟨v', hcell 3 _ (by omega) rfl, hU1⟩, ?_⟩
      rw [show a.off + j * 4 + 4 = a.off + (j + 1) * 4 by omega]
      exact hT2
     ·exact ⟨hU2, hU3, hT3⟩
   obtain ⟨T, h1, h2, h3⟩ := key len 0 (by omega)
   refine ⟨T, ⟨some a, cap, by rw [h1], by omega, fun hp => ⟨a.block, a.off, ?_, by simpa using h2⟩⟩, by rw [h1]; have : maxLen = 9223372036854775807 := rfl; omega, h3⟩
   have := hspot (by omega)
   obtain ⟨b', o', sp⟩ := a
   simp only at this
   rw [this]
theorem open_ccellsW {fuel : Nat} {cs : List Value} {x : DataW H × List MemPlace} (h : DataW.trod enc Try.prog w base spare held fuel 57 cs = some x) :
  ∃ (k n vars : Int) (s : ByteArray) (u v : Value) (T B : Ts), cs = [.int .i64 k, .int .i64 n, .string s, u, v, .int .i64 vars] ∧ Sl w (fun _ => True) u T ∧ Sl w (fun _ => True) v B ∧ T.length ≤ 9223372036854775807 ∧ T.wide ∧ B.length ≤ 9223372036854775807 ∧ B.wide := by
 obtain ⟨xs, m, _, hx, hlen, hxl, hf⟩ := DataW.trod_struct Try.underlying57 h
 rw [cells_clause] at hlen
 have f0 : DataW.trod enc Try.prog w base spare held m 39 ((cs.drop 0).take (Try.prog.cellsOf 39)) = xs[0]? := hf 0 _ rfl
 have f1 : DataW.trod enc Try.prog w base spare held m 37 ((cs.drop 4).take (Try.prog.cellsOf 37)) = xs[1]? := hf 1 _ rfl
 have f2 : DataW.trod enc Try.prog w base spare held m 3 ((cs.drop 5).take (Try.prog.cellsOf 3)) = xs[2]? := hf 2 _ rfl
 rw [cells_term] at f0
 rw [cells_terms] at f1
 rw [cells_int] at f2
 match cs, hlen, xs, hxl, hx with
 | [c0, c1, c2, c3, c4, c5], _, [y0, y1, y2], _, hx =>
  simp only [List.drop_zero, List.drop_succ_cons, List.take_succ_cons, List.take_zero, List.getElem?_cons_zero, List.getElem?_cons_succ] at f0 f1 f2
  obtain ⟨k, n, s, u, y, m', e0, hy, hb, _, _, _, _⟩ := open_cells f0
  simp only [List.cons.injEq, and_true] at e0
  obtain ⟨rfl, rfl, rfl, rfl⟩ := e0
  obtain ⟨T, h1, h2, h2w⟩ := open_termsW _ m' _ y (Nat.le_refl _) hy
  obtain ⟨B, h3, h4, h4w⟩ := open_termsW _ m _ y1 (Nat.le_refl _) f1
  obtain ⟨vars, e2, _, _⟩ := DataW.trod_int Try.underlying3 f2
  simp only [List.cons.injEq, and_true] at e2
  subst e2 hx
  exact ⟨k, n, vars, s, _, _, T, B, rfl, h1, h3, h2, h2w, h4, h4w⟩
theorem open_clausesW {fuel : Nat} {v : Value} {x : DataW H × List MemPlace} (h : DataW.trod enc Try.prog w base spare held fuel 65 [v] = some x) :
  ∃ L : List Cl, SlC w (fun _ => True) v L ∧ L.length ≤ 9223372036854775807 ∧ ClsWide L := by
 rcases Deep.open_slice Try.underlying65 h with ⟨e, rfl⟩ | ⟨a, len, cap, m, n, D, Pl, e, _, hl, hcm, hm, rfl, hi⟩
 ·simp only [List.cons.injEq, and_true] at e
  subst e
  exact ⟨[], ⟨none, 0, rfl, Nat.le_refl _, fun h => absurd h (Nat.lt_irrefl _)⟩, by simp, fun c hc => by cases hc⟩
 ·simp only [List.cons.injEq, and_true] at e
  subst e
  rw [cells_clause] at hi
  have hml : len ≤ m := by rw [hm]; split <;> omega
  have hspot : 0 < len → a.spot = none := fun hp => by
   obtain ⟨cs, hc, ht⟩ := hi 0 (by omega)
   obtain ⟨k, n', vars, s, u, v', T, B, rfl, _⟩ := open_ccellsW ht
   obtain ⟨_, _, hat⟩ := World.cells?_some hc
   have h0 := hat 0 (by omega)
   simp only [Nat.zero_mul, Addr.add, if_true, List.getElem?_cons_zero] at h0
   unfold World.cell? at h0
   split at h0
   ·split at h0
    ·cases h0
    ·rename_i hs; simpa using hs
   ·cases h0
  have key : ∀ r j, j + r = len → ∃ L : List Cl, L.length = r ∧ SegC w (fun _ => True) L a.block (a.off + j * 6) ∧ ClsWide L := by
   intro r
   induction r with
   | zero => intro j _; exact ⟨[], rfl, trivial, fun c hc => by cases hc⟩
   | succ r ihr =>
    intro j hj
    obtain ⟨L, hT1, hT2, hT3⟩ := ihr (j + 1) (by omega)
    obtain ⟨cs, hc, ht⟩ := hi j (by omega)
    obtain ⟨k, n', vars, s, u, v', T, B, rfl, h1, h2, h3⟩ := open_ccellsW ht
    obtain ⟨_, _, hat⟩ := World.cells?_some hc
    have hsp := hspot (by omega)
    have hcell : ∀ q u', q < 6 → [Value.int .i64 k, .int .i64 n', .string s, u, v', .int .i64 vars][q]? = some u' → w.cell? ⟨a.block, a.off + j * 6 + q, none⟩ = some u' := fun q u' hq hu => by
     have h1 := (hat q hq).trans hu
     rw [Deep.add_add] at h1
     have h2 := addr_add h1 hsp
     rwa [← Nat.add_assoc] at h2
    refine ⟨⟨k, n', s, T, B, vars⟩ :: L, by simp [hT1], ?_, ?_⟩
    ·refine ⟨trivial, by simpa using hcell 0 _ (by omega) rfl, hcell 1 _ (by omega) rfl, hcell 2 _ (by omega) rfl, ⟨u, hcell 3 _ (by omega) rfl, h1⟩, ⟨v', hcell 4 _ (by omega) rfl, h2⟩, hcell 5 _ (by omega) rfl, ?_⟩
     rw [show a.off + j * 6 + 6 = a.off + (j + 1) * 6 by omega]
     exact hT2
    ·intro c hc
     rcases List.mem_cons.1 hc with rfl | hc
     ·exact h3
     ·exact hT3 c hc
  obtain ⟨L, h1, h2, h3⟩ := key len 0 (by omega)
  refine ⟨L, ⟨some a, cap, by rw [h1], by omega, fun hp => ⟨a.block, a.off, ?_, by simpa using h2⟩⟩, by rw [h1]; have : maxLen = 9223372036854775807 := rfl; omega, h3⟩
  have := hspot (by omega)
  obtain ⟨b', o', sp⟩ := a
  simp only at this
  rw [this]
end
theorem open_clausesArgW {H : Type} {enc : TypeId × Value → H} {W : World} {v : Value} {d : DataW H} {p : List MemPlace} (hv : v.cells.toList = [v]) (h : DataW.Trod enc Try.prog W 0 (fun _ => true) true 65 v d p) :
  ∃ L : List Cl, SlC W (fun _ => True) v L ∧ L.length ≤ 9223372036854775807 ∧ ClsWide L := by
 obtain ⟨fuel, hf⟩ := h
 rw [hv] at hf
 exact open_clausesW hf
theorem open_termsArgW {H : Type} {enc : TypeId × Value → H} {W : World} {v : Value} {d : DataW H} {p : List MemPlace} (hv : v.cells.toList = [v]) (h : DataW.Trod enc Try.prog W 0 (fun _ => true) true 37 v d p) :
  ∃ T : Ts, Sl W (fun _ => True) v T ∧ T.length ≤ 9223372036854775807 ∧ T.wide := by
 obtain ⟨fuel, hf⟩ := h
 rw [hv] at hf
 exact open_termsW _ fuel v _ (Nat.le_refl _) hf
end Go.Proofs.Ythliapbflkfdiab
