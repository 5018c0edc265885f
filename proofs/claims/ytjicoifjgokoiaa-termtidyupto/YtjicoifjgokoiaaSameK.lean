/-
  A recursive comparison of terms answers whether they are alike.
-/
import Derived.Test.YtjicoifjgokoiaaAlike
import Derived.Test.YtjicoifjgokoiaaRows
import Derived.Deep.LoopGhost
import Derived.StillTailTactics
namespace Go.Proofs.Ytjicoifjgokoiaa.K
open Go.RowKit
set_option maxRecDepth 100000

def SameSaid (T U : Ts) : Prop := ∀ (k n : Int) (s : ByteArray) (v : Value) (k' n' : Int) (s' : ByteArray) (v' : Value) (w : World), Sl w (fun _ => True) v T → Sl w (fun _ => True) v' U → T.nodes ≤ 1073741824 → U.nodes ≤ 1073741824 →
    Calls Try.prog 47 #[.agg #[.int .i64 k, .int .i64 n, .string s, v], .agg #[.int .i64 k', .int .i64 n', .string s', v']] w fun e w' => e = .returned (.bool (same1 k n s T k' n' s' U)) ∧ Below w.heap.size w w'

set_option maxHeartbeats 400000 in
theorem sameTerm_of (m : Nat) (ih : ∀ T U : Ts, T.nodes < m → SameSaid T U) (T U : Ts) (hm : T.nodes ≤ m) : SameSaid T U := by
  intro k n s v k' n' s' v' w hv hv' hT hU
  obtain ⟨A, c, rfl, hs⟩ := hv.form
  obtain ⟨A', c', rfl, hs'⟩ := hv'.form
  have hle := T.length_le
  by_cases hk : k ≠ k'
  · have r : same1 k n s T k' n' s' U = false := by simp [same1, hk]
    rw [r]
    have hk' : (k != k') = true := by simp [hk]
    clear r hk
    go_enter Try.func47, Try.ntmps47
    go_wp2_with fail
    go_ret
    exact ⟨rfl, ((Below.refl _ _).alloc (Nat.le_refl _) _).alloc (by simp) _⟩
  obtain rfl : k = k' := by simpa using hk
  by_cases hn : n ≠ n'
  · have r : same1 k n s T k n' s' U = false := by simp [same1, hn]
    rw [r]
    have hn' : (n != n') = true := by simp [hn]
    clear r hk hn
    go_enter Try.func47, Try.ntmps47
    go_wp2_with fail
    go_ret
    exact ⟨rfl, ((Below.refl _ _).alloc (Nat.le_refl _) _).alloc (by simp) _⟩
  obtain rfl : n = n' := by simpa using hn
  by_cases hs0 : s ≠ s'
  · have r : same1 k n s T k n s' U = false := by simp [same1, hs0]
    rw [r]
    have hs1 : (s.toList == s'.toList) = false := by simp [str_eq, hs0]
    clear r hk hn hs0
    go_enter Try.func47, Try.ntmps47
    go_wp2_with fail
    go_ret
    exact ⟨rfl, ((Below.refl _ _).alloc (Nat.le_refl _) _).alloc (by simp) _⟩
  obtain rfl : s = s' := by simpa using hs0
  by_cases hl : T.length ≠ U.length
  · have r : same1 k n s T k n s U = false := by
      have : T.same U = false := by
        rw [Bool.eq_false_iff, ne_eq, Ts.same_iff]; exact fun e => hl (by rw [e])
      simp [same1, this]
    rw [r]
    have hl' : ((T.length : Int) != (U.length : Int)) = true := by rw [bne_iff_ne]; omega
    clear r hk hn hs0
    go_enter Try.func47, Try.ntmps47
    go_wp2_with fail
    go_ret
    exact ⟨rfl, ((Below.refl _ _).alloc (Nat.le_refl _) _).alloc (by simp) _⟩
  have hl' : ((T.length : Int) != (U.length : Int)) = false := by rw [bne_eq_false_iff_eq]; omega
  have r : same1 k n s T k n s U = T.same U := by simp [same1]
  rw [r]
  have HL : Hid (T.length = U.length) := Lib.hid (by simpa using hl)
  clear r hk hn hs0 hl
  have h0 : SameRel ((w.alloc (.cells #[.int .i64 k, .int .i64 n, .string s, .slice A T.length c] 24)).alloc (.cells #[.int .i64 k, .int .i64 n, .string s, .slice A' U.length c'] 24)) T U T.length (.int .i64 0)
      ((w.alloc (.cells #[.int .i64 k, .int .i64 n, .string s, .slice A T.length c] 24)).alloc (.cells #[.int .i64 k, .int .i64 n, .string s, .slice A' U.length c'] 24)) :=
    ⟨.nil, T, U, rfl, rfl, HL.out, rfl, rfl, Below.refl _ _⟩
  have hW : Below w.heap.size w ((w.alloc (.cells #[.int .i64 k, .int .i64 n, .string s, .slice A T.length c] 24)).alloc (.cells #[.int .i64 k, .int .i64 n, .string s, .slice A' U.length c'] 24)) :=
    ((Below.refl _ _).alloc (Nat.le_refl _) _).alloc (by simp) _
  go_enter Try.func47, Try.ntmps47
  go_wp2_with fail
  go_loopg [37] T.length (SameRel ((w.alloc (.cells #[.int .i64 k, .int .i64 n, .string s, .slice A T.length c] 24)).alloc (.cells #[.int .i64 k, .int .i64 n, .string s, .slice A' U.length c'] 24)) T U)
  case atStart => exact h0
  case round =>
    clear h0
    obtain ⟨D, R, R', eT, eU, eR, eg, rfl, hb⟩ := hrel
    have hbw : Below w.heap.size w wr := hW.trans (hb.mono (by simp; omega))
    cases R with
    | nil =>
      have e1 : D.length = T.length := by rw [eT, Ts.app_nil]
      have hres : T.same U = true := by
        rw [Ts.same_iff, eT, eU, Ts.nil_of_length (T := R') eR.symm]
      have HS := Lib.hid hres
      clear hres eT eU eR eg
      go_wp2_with fail
      go_ret
      exact ⟨by rw [HS.out]; rfl, hbw⟩
    | cons k1 n1 s1 a1 r1 =>
      cases R' with
      | nil => simp [Ts.length] at eR
      | cons k2 n2 s2 a2 r2 =>
      obtain ⟨f0, f1, f2, f3, ff⟩ := (((Plot.new w 24 #[.int .i64 k, .int .i64 n, .string s, .slice A T.length c]).alloc (.cells #[.int .i64 k, .int .i64 n, .string s, .slice A' U.length c'] 24)).below hb).four
      obtain ⟨g0, g1, g2, g3, gf⟩ := ((Plot.new (w.alloc (.cells #[.int .i64 k, .int .i64 n, .string s, .slice A T.length c] 24)) 24 #[.int .i64 k, .int .i64 n, .string s, .slice A' U.length c']).below hb).four
      simp only [World.size_alloc] at g3
      clear f0 f1 f2 ff g0 g1 g2 gf
      have e1 : D.length < T.length := by rw [eT, Ts.length_app]; simp [Ts.length]
      have e2 : D.length < U.length := by rw [eU, Ts.length_app]; simp [Ts.length]
      have e3 : a1.nodes < m ∧ a1.nodes ≤ 1073741824 := by rw [eT, Ts.nodes_app] at hm hT; simp [Ts.nodes] at hm hT; omega
      have e4 : a2.nodes ≤ 1073741824 := by rw [eU, Ts.nodes_app] at hU; simp [Ts.nodes] at hU; omega
      have hs2 := (hs.below hbw)
      have hs3 := (hs'.below hbw)
      obtain ⟨b1, o1, rfl, hq1⟩ := Sl.at_ (D := D) (R := .cons k1 n1 s1 a1 r1) (by rw [← eT]; exact hs2) (by simp [Ts.length])
      obtain ⟨b2, o2, rfl, hq2⟩ := Sl.at_ (D := D) (R := .cons k2 n2 s2 a2 r2) (by rw [← eU]; exact hs3) (by simp [Ts.length])
      obtain ⟨_, c10, c11, c12, ⟨v1, c13, hv1⟩, _⟩ := seg_cons.1 hq1
      obtain ⟨_, c20, c21, c22, ⟨v2, c23, hv2⟩, _⟩ := seg_cons.1 hq2
      have HT := Lib.hid eT
      have HU := Lib.hid eU
      have HG := Lib.hid eg
      have HR := Lib.hid eR
      clear eT eU eg eR hs2 hs3 hq1 hq2
      go_wp2_with fail
      go_still_tail 10, (by kernel_rfl)
      change wpList _ _ _ _ _ wr.drew
      obtain ⟨A1, d1, rfl, hv1⟩ := hv1.form
      obtain ⟨A2, d2, rfl, hv2⟩ := hv2.form
      go_wp2_with fail
      refine (ih a1 a2 e3.1 k1 n1 s1 _ k2 n2 s2 _ _ ?_ ?_ e3.2 e4).mono ?_
      · exact hv1.below (below_drewN _ wr 1)
      · exact hv2.below (below_drewN _ wr 1)
      rintro e w2 ⟨rfl, hb2⟩
      have hb3 : Below wr.heap.size wr w2 := (below_drewN _ wr 1).trans hb2
      cases hsame : same1 k1 n1 s1 a1 k2 n2 s2 a2 with
      | false =>
        have hres : T.same U = false := Ts.same_stop HT.out HU.out hsame
        have HS := Lib.hid hres
        clear hres hsame
        go_wp2_with fail
        go_ret
        exact ⟨by rw [HS.out]; rfl, hbw.trans (hb3.mono hbw.size)⟩
      | true =>
        have HS := Lib.hid hsame
        clear hsame
        go_wp2_with fail
        go_roundg r1.length
        case measure => rw [HG.out]; simp [Ts.length]
        case rel => exact SameRel.step HT.out HU.out HR.out HS.out hb hb3

theorem same_said (T U : Ts) : SameSaid T U := by
  have : ∀ m, ∀ T U : Ts, T.nodes < m → SameSaid T U := by
    intro m
    induction m with
    | zero => intro T U h; omega
    | succ m ih => intro T U h; exact sameTerm_of m ih T U (by omega)
  exact this _ T U (Nat.lt_succ_self _)

set_option maxHeartbeats 400000 in
theorem sameTerms_any (T U : Ts) (v v' : Value) (w : World) (hv : Sl w (fun _ => True) v T) (hv' : Sl w (fun _ => True) v' U) (hT : T.nodes ≤ 1073741824) (hU : U.nodes ≤ 1073741824) :
    Calls Try.prog 21 #[v, v'] w fun e w' => e = .returned (.bool (T.same U)) ∧ Below w.heap.size w w' := by
  obtain ⟨A, c, rfl, hs⟩ := hv.form
  obtain ⟨A', c', rfl, hs'⟩ := hv'.form
  have hle := T.length_le
  by_cases hl : T.length ≠ U.length
  · have r : T.same U = false := by
      rw [Bool.eq_false_iff, ne_eq, Ts.same_iff]; exact fun e => hl (by rw [e])
    rw [r]
    have hl' : ((T.length : Int) != (U.length : Int)) = true := by rw [bne_iff_ne]; omega
    clear r
    go_enter Try.func21, Try.ntmps21
    go_wp2_with fail
    go_ret
    exact ⟨rfl, Below.refl _ _⟩
  have hl' : ((T.length : Int) != (U.length : Int)) = false := by rw [bne_eq_false_iff_eq]; omega
  have HL : Hid (T.length = U.length) := Lib.hid (by simpa using hl)
  clear hl
  have h0 : SameRel w T U T.length (.int .i64 0) w := ⟨.nil, T, U, rfl, rfl, HL.out, rfl, rfl, Below.refl _ _⟩
  go_enter Try.func21, Try.ntmps21
  go_wp2_with fail
  go_loopg [13] T.length (SameRel w T U)
  case atStart => exact h0
  case round =>
    clear h0
    obtain ⟨D, R, R', eT, eU, eR, eg, rfl, hb⟩ := hrel
    cases R with
    | nil =>
      have e1 : D.length = T.length := by rw [eT, Ts.app_nil]
      have hres : T.same U = true := by
        rw [Ts.same_iff, eT, eU, Ts.nil_of_length (T := R') eR.symm]
      have HS := Lib.hid hres
      clear hres eT eU eR eg
      go_wp2_with fail
      go_ret
      exact ⟨by rw [HS.out]; rfl, hb⟩
    | cons k1 n1 s1 a1 r1 =>
      cases R' with
      | nil => simp [Ts.length] at eR
      | cons k2 n2 s2 a2 r2 =>
      have e1 : D.length < T.length := by rw [eT, Ts.length_app]; simp [Ts.length]
      have e2 : D.length < U.length := by rw [eU, Ts.length_app]; simp [Ts.length]
      have e3 : a1.nodes ≤ 1073741824 := by rw [eT, Ts.nodes_app] at hT; simp [Ts.nodes] at hT; omega
      have e4 : a2.nodes ≤ 1073741824 := by rw [eU, Ts.nodes_app] at hU; simp [Ts.nodes] at hU; omega
      have hs2 := (hs.below hb)
      have hs3 := (hs'.below hb)
      obtain ⟨b1, o1, rfl, hq1⟩ := Sl.at_ (D := D) (R := .cons k1 n1 s1 a1 r1) (by rw [← eT]; exact hs2) (by simp [Ts.length])
      obtain ⟨b2, o2, rfl, hq2⟩ := Sl.at_ (D := D) (R := .cons k2 n2 s2 a2 r2) (by rw [← eU]; exact hs3) (by simp [Ts.length])
      obtain ⟨_, c10, c11, c12, ⟨v1, c13, hv1⟩, _⟩ := seg_cons.1 hq1
      obtain ⟨_, c20, c21, c22, ⟨v2, c23, hv2⟩, _⟩ := seg_cons.1 hq2
      have HT := Lib.hid eT
      have HU := Lib.hid eU
      have HG := Lib.hid eg
      have HR := Lib.hid eR
      clear eT eU eg eR hs2 hs3 hq1 hq2
      go_wp2_with fail
      go_still_tail 8, (by kernel_rfl)
      change wpList _ _ _ _ _ wr.drew
      obtain ⟨A1, d1, rfl, hv1⟩ := hv1.form
      obtain ⟨A2, d2, rfl, hv2⟩ := hv2.form
      go_wp2_with fail
      refine (same_said a1 a2 k1 n1 s1 _ k2 n2 s2 _ _ ?_ ?_ e3 e4).mono ?_
      · exact hv1.below (below_drewN _ wr 1)
      · exact hv2.below (below_drewN _ wr 1)
      rintro e w2 ⟨rfl, hb2⟩
      have hb3 : Below wr.heap.size wr w2 := (below_drewN _ wr 1).trans hb2
      cases hsame : same1 k1 n1 s1 a1 k2 n2 s2 a2 with
      | false =>
        have hres : T.same U = false := Ts.same_stop HT.out HU.out hsame
        have HS := Lib.hid hres
        clear hres hsame
        go_wp2_with fail
        go_ret
        exact ⟨by rw [HS.out]; rfl, hb.trans (hb3.mono hb.size)⟩
      | true =>
        have HS := Lib.hid hsame
        clear hsame
        go_wp2_with fail
        go_roundg r1.length
        case measure => rw [HG.out]; simp [Ts.length]
        case rel => exact SameRel.step HT.out HU.out HR.out HS.out hb hb3
end Go.Proofs.Ytjicoifjgokoiaa.K
