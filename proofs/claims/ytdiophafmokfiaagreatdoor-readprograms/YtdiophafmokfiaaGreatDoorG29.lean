/- Alike, SameR, LPrograms: texts that follow one another, laid into one file. -/
import Derived.Test.YtdiophafmokfiaaGreatDoorG6
import Derived.Test.YtdiophafmokfiaaGreatDoorRows
import Derived.Deep.LoopGhost
import Derived.StillTailTactics
import Derived.Test.YtdiophafmokfiaaGreatDoorG19
import Derived.Test.YtdiophafmokfiaaGreatDoorRefW6
namespace Go.Proofs.YtdiophafmokfiaaGreatDoor
open Go.RowKit

/-- Are two lists of terms alike? -/
def Ts.same : Ts → Ts → Bool
  | .nil, .nil => true
  | .cons k n s ar r, .cons k' n' s' ar' r' => decide (k = k') && decide (n = n') && decide (s = s') && ar.same ar' && r.same r'
  | _, _ => false
theorem Ts.same_iff (T : Ts) : ∀ U : Ts, T.same U = true ↔ T = U := by
  induction T with
  | nil => intro U; cases U <;> simp [same]
  | cons k n s ar r iha ihr =>
    intro U
    cases U with
    | nil => simp [same]
    | cons k' n' s' ar' r' => simp [same, iha, ihr, and_assoc]
/-- Are two terms alike? -/
def same1 (k n : Int) (s : ByteArray) (ar : Ts) (k' n' : Int) (s' : ByteArray) (ar' : Ts) : Bool := decide (k = k') && decide (n = n') && decide (s = s') && ar.same ar'

def SameRel (W : World) (T U : Ts) (g : Nat) (s37 : Value) (wr : World) : Prop :=
  ∃ D R R' : Ts, T = D.app R ∧ U = D.app R' ∧ R.length = R'.length ∧ g = R.length ∧ s37 = .int .i64 D.length ∧ Below W.heap.size W wr

theorem same1_iff {k n : Int} {s : ByteArray} {ar : Ts} {k' n' : Int} {s' : ByteArray} {ar' : Ts} : same1 k n s ar k' n' s' ar' = true ↔ k = k' ∧ n = n' ∧ s = s' ∧ ar = ar' := by
  simp [same1, Ts.same_iff, and_assoc]
theorem Ts.app_inj {D R R' : Ts} (h : D.app R = D.app R') : R = R' := by
  induction D with
  | nil => exact h
  | cons k n s ar r _ ih => simp only [Ts.app, Ts.cons.injEq] at h; exact ih h.2.2.2.2
theorem Ts.same_stop {T U D r1 r2 a1 a2 : Ts} {k1 n1 k2 n2 : Int} {s1 s2 : ByteArray} (hT : T = D.app (.cons k1 n1 s1 a1 r1)) (hU : U = D.app (.cons k2 n2 s2 a2 r2))
    (h : same1 k1 n1 s1 a1 k2 n2 s2 a2 = false) : T.same U = false := by
  rw [Bool.eq_false_iff, ne_eq, Ts.same_iff, hT, hU]
  intro e
  have := Ts.app_inj e
  simp only [Ts.cons.injEq] at this
  rw [Bool.eq_false_iff, ne_eq, same1_iff] at h
  exact h ⟨this.1, this.2.1, this.2.2.1, this.2.2.2.1⟩
theorem SameRel.step {W wr w2 : World} {T U D r1 r2 a1 a2 : Ts} {k1 n1 k2 n2 : Int} {s1 s2 : ByteArray} (hT : T = D.app (.cons k1 n1 s1 a1 r1)) (hU : U = D.app (.cons k2 n2 s2 a2 r2))
    (hR : (Ts.cons k1 n1 s1 a1 r1).length = (Ts.cons k2 n2 s2 a2 r2).length) (h : same1 k1 n1 s1 a1 k2 n2 s2 a2 = true) (hb : Below W.heap.size W wr) (hb2 : Below wr.heap.size wr w2) :
    SameRel W T U r1.length (.int .i64 ((D.length : Int) + 1)) w2 := by
  obtain ⟨rfl, rfl, rfl, rfl⟩ := same1_iff.1 h
  refine ⟨D.app (.cons k1 n1 s1 a1 .nil), r1, r2, by rw [hT, Ts.app_assoc]; rfl, by rw [hU, Ts.app_assoc]; rfl, by simpa [Ts.length] using hR, rfl, ?_, hb.trans (hb2.mono hb.size)⟩
  rw [Ts.length_app]; rfl

end Go.Proofs.YtdiophafmokfiaaGreatDoor
namespace Go.Proofs.YtdiophafmokfiaaGreatDoor.R
open Go.RowKit
set_option maxRecDepth 100000

def SameSaid (T U : Ts) : Prop := ∀ (k n : Int) (s : ByteArray) (v : Value) (k' n' : Int) (s' : ByteArray) (v' : Value) (w : World), Sl w (fun _ => True) v T → Sl w (fun _ => True) v' U → T.nodes ≤ 1048576 → U.nodes ≤ 1048576 →
    Calls Tryz.prog 23 #[.agg #[.int .i64 k, .int .i64 n, .string s, v], .agg #[.int .i64 k', .int .i64 n', .string s', v']] w fun e w' => e = .returned (.bool (same1 k n s T k' n' s' U)) ∧ Below w.heap.size w w'

set_option maxHeartbeats 400000 in
theorem sameTerm_of (m : Nat) (ih : ∀ T U : Ts, T.nodes < m → SameSaid T U) (T U : Ts) (hm : T.nodes ≤ m) : SameSaid T U := by
  intro k n s v k' n' s' v' w hv hv' hT hU
  obtain ⟨A, c, rfl, hs⟩ := hv.form
  obtain ⟨A', c', rfl, hs'⟩ := hv'.form
  have hle := T.length_le
  by_cases hk : k ≠ k'
  · have r : same1 k n s T k' n' s' U = false := by simp [same1, hk]
    rw [r]
    have hk' : (k != k') = true := by simp [hk]
    clear r hk
    go_enter Tryz.func23, Tryz.ntmps23
    go_wp2_with fail
    go_ret
    exact ⟨rfl, ((Below.refl _ _).alloc (Nat.le_refl _) _).alloc (by simp) _⟩
  obtain rfl : k = k' := by simpa using hk
  by_cases hn : n ≠ n'
  · have r : same1 k n s T k n' s' U = false := by simp [same1, hn]
    rw [r]
    have hn' : (n != n') = true := by simp [hn]
    clear r hk hn
    go_enter Tryz.func23, Tryz.ntmps23
    go_wp2_with fail
    go_ret
    exact ⟨rfl, ((Below.refl _ _).alloc (Nat.le_refl _) _).alloc (by simp) _⟩
  obtain rfl : n = n' := by simpa using hn
  by_cases hs0 : s ≠ s'
  · have r : same1 k n s T k n s' U = false := by simp [same1, hs0]
    rw [r]
    have hs1 : (s.toList == s'.toList) = false := by simp [str_eq, hs0]
    clear r hk hn hs0
    go_enter Tryz.func23, Tryz.ntmps23
    go_wp2_with fail
    go_ret
    exact ⟨rfl, ((Below.refl _ _).alloc (Nat.le_refl _) _).alloc (by simp) _⟩
  obtain rfl : s = s' := by simpa using hs0
  by_cases hl : T.length ≠ U.length
  · have r : same1 k n s T k n s U = false := by
      have : T.same U = false := by
        rw [Bool.eq_false_iff, ne_eq, Ts.same_iff]; exact fun e => hl (by rw [e])
      simp [same1, this]
    rw [r]
    have hl' : ((T.length : Int) != (U.length : Int)) = true := by rw [bne_iff_ne]; omega
    clear r hk hn hs0
    go_enter Tryz.func23, Tryz.ntmps23
    go_wp2_with fail
    go_ret
    exact ⟨rfl, ((Below.refl _ _).alloc (Nat.le_refl _) _).alloc (by simp) _⟩
  have hl' : ((T.length : Int) != (U.length : Int)) = false := by rw [bne_eq_false_iff_eq]; omega
  have r : same1 k n s T k n s U = T.same U := by simp [same1]
  rw [r]
  have HL : Hid (T.length = U.length) := Lib.hid (by simpa using hl)
  clear r hk hn hs0 hl
  have h0 : SameRel ((w.alloc (.cells #[.int .i64 k, .int .i64 n, .string s, .slice A T.length c] 31)).alloc (.cells #[.int .i64 k, .int .i64 n, .string s, .slice A' U.length c'] 31)) T U T.length (.int .i64 0)
      ((w.alloc (.cells #[.int .i64 k, .int .i64 n, .string s, .slice A T.length c] 31)).alloc (.cells #[.int .i64 k, .int .i64 n, .string s, .slice A' U.length c'] 31)) :=
    ⟨.nil, T, U, rfl, rfl, HL.out, rfl, rfl, Below.refl _ _⟩
  have hW : Below w.heap.size w ((w.alloc (.cells #[.int .i64 k, .int .i64 n, .string s, .slice A T.length c] 31)).alloc (.cells #[.int .i64 k, .int .i64 n, .string s, .slice A' U.length c'] 31)) :=
    ((Below.refl _ _).alloc (Nat.le_refl _) _).alloc (by simp) _
  go_enter Tryz.func23, Tryz.ntmps23
  go_wp2_with fail
  go_loopg [37] T.length (SameRel ((w.alloc (.cells #[.int .i64 k, .int .i64 n, .string s, .slice A T.length c] 31)).alloc (.cells #[.int .i64 k, .int .i64 n, .string s, .slice A' U.length c'] 31)) T U)
  case atStart => exact h0
  case round =>
    clear h0
    obtain ⟨D, R, R', eT, eU, eR, eg, rfl, hb⟩ := hrel
    have hbw : Below w.heap.size w wr := hW.trans (hb.mono (by simp; omega))
    cases R with
    | nil =>
      have e1 : D.length = T.length := by rw [eT, Ts.app_nil]
      have hres : T.same U = true := by
        rw [Ts.same_iff, eT, eU, Ts.nil_of_length (T := R') eR.symm]
      have HS := Lib.hid hres
      clear hres eT eU eR eg
      go_wp2_with fail
      go_ret
      exact ⟨by rw [HS.out]; rfl, hbw⟩
    | cons k1 n1 s1 a1 r1 =>
      cases R' with
      | nil => simp [Ts.length] at eR
      | cons k2 n2 s2 a2 r2 =>
      obtain ⟨f0, f1, f2, f3, ff⟩ := (((Plot.new w 31 #[.int .i64 k, .int .i64 n, .string s, .slice A T.length c]).alloc (.cells #[.int .i64 k, .int .i64 n, .string s, .slice A' U.length c'] 31)).below hb).four
      obtain ⟨g0, g1, g2, g3, gf⟩ := ((Plot.new (w.alloc (.cells #[.int .i64 k, .int .i64 n, .string s, .slice A T.length c] 31)) 31 #[.int .i64 k, .int .i64 n, .string s, .slice A' U.length c']).below hb).four
      simp only [World.size_alloc] at g3
      clear f0 f1 f2 ff g0 g1 g2 gf
      have e1 : D.length < T.length := by rw [eT, Ts.length_app]; simp [Ts.length]
      have e2 : D.length < U.length := by rw [eU, Ts.length_app]; simp [Ts.length]
      have e3 : a1.nodes < m ∧ a1.nodes ≤ 1048576 := by rw [eT, Ts.nodes_app] at hm hT; simp [Ts.nodes] at hm hT; omega
      have e4 : a2.nodes ≤ 1048576 := by rw [eU, Ts.nodes_app] at hU; simp [Ts.nodes] at hU; omega
      have hs2 := (hs.below hbw)
      have hs3 := (hs'.below hbw)
      obtain ⟨b1, o1, rfl, hq1⟩ := Sl.at_ (D := D) (R := .cons k1 n1 s1 a1 r1) (by rw [← eT]; exact hs2) (by simp [Ts.length])
      obtain ⟨b2, o2, rfl, hq2⟩ := Sl.at_ (D := D) (R := .cons k2 n2 s2 a2 r2) (by rw [← eU]; exact hs3) (by simp [Ts.length])
      obtain ⟨_, c10, c11, c12, ⟨v1, c13, hv1⟩, _⟩ := seg_cons.1 hq1
      obtain ⟨_, c20, c21, c22, ⟨v2, c23, hv2⟩, _⟩ := seg_cons.1 hq2
      have HT := Lib.hid eT
      have HU := Lib.hid eU
      have HG := Lib.hid eg
      have HR := Lib.hid eR
      clear eT eU eg eR hs2 hs3 hq1 hq2
      go_wp2_with fail
      go_still_tail 10, (by kernel_rfl)
      change wpList _ _ _ _ _ wr.drew
      obtain ⟨A1, d1, rfl, hv1⟩ := hv1.form
      obtain ⟨A2, d2, rfl, hv2⟩ := hv2.form
      go_wp2_with fail
      refine (ih a1 a2 e3.1 k1 n1 s1 _ k2 n2 s2 _ _ ?_ ?_ e3.2 e4).mono ?_
      · exact hv1.below (below_drewN _ wr 1)
      · exact hv2.below (below_drewN _ wr 1)
      rintro e w2 ⟨rfl, hb2⟩
      have hb3 : Below wr.heap.size wr w2 := (below_drewN _ wr 1).trans hb2
      cases hsame : same1 k1 n1 s1 a1 k2 n2 s2 a2 with
      | false =>
        have hres : T.same U = false := Ts.same_stop HT.out HU.out hsame
        have HS := Lib.hid hres
        clear hres hsame
        go_wp2_with fail
        go_ret
        exact ⟨by rw [HS.out]; rfl, hbw.trans (hb3.mono hbw.size)⟩
      | true =>
        have HS := Lib.hid hsame
        clear hsame
        go_wp2_with fail
        go_roundg r1.length
        case measure => rw [HG.out]; simp [Ts.length]
        case rel => exact SameRel.step HT.out HU.out HR.out HS.out hb hb3

theorem same_said (T U : Ts) : SameSaid T U := by
  have : ∀ m, ∀ T U : Ts, T.nodes < m → SameSaid T U := by
    intro m
    induction m with
    | zero => intro T U h; omega
    | succ m ih => intro T U h; exact sameTerm_of m ih T U (by omega)
  exact this _ T U (Nat.lt_succ_self _)

set_option maxHeartbeats 400000 in
theorem sameTerms_any (T U : Ts) (v v' : Value) (w : World) (hv : Sl w (fun _ => True) v T) (hv' : Sl w (fun _ => True) v' U) (hT : T.nodes ≤ 1048576) (hU : U.nodes ≤ 1048576) :
    Calls Tryz.prog 11 #[v, v'] w fun e w' => e = .returned (.bool (T.same U)) ∧ Below w.heap.size w w' := by
  obtain ⟨A, c, rfl, hs⟩ := hv.form
  obtain ⟨A', c', rfl, hs'⟩ := hv'.form
  have hle := T.length_le
  by_cases hl : T.length ≠ U.length
  · have r : T.same U = false := by
      rw [Bool.eq_false_iff, ne_eq, Ts.same_iff]; exact fun e => hl (by rw [e])
    rw [r]
    have hl' : ((T.length : Int) != (U.length : Int)) = true := by rw [bne_iff_ne]; omega
    clear r
    go_enter Tryz.func11, Tryz.ntmps11
    go_wp2_with fail
    go_ret
    exact ⟨rfl, Below.refl _ _⟩
  have hl' : ((T.length : Int) != (U.length : Int)) = false := by rw [bne_eq_false_iff_eq]; omega
  have HL : Hid (T.length = U.length) := Lib.hid (by simpa using hl)
  clear hl
  have h0 : SameRel w T U T.length (.int .i64 0) w := ⟨.nil, T, U, rfl, rfl, HL.out, rfl, rfl, Below.refl _ _⟩
  go_enter Tryz.func11, Tryz.ntmps11
  go_wp2_with fail
  go_loopg [13] T.length (SameRel w T U)
  case atStart => exact h0
  case round =>
    clear h0
    obtain ⟨D, R, R', eT, eU, eR, eg, rfl, hb⟩ := hrel
    cases R with
    | nil =>
      have e1 : D.length = T.length := by rw [eT, Ts.app_nil]
      have hres : T.same U = true := by
        rw [Ts.same_iff, eT, eU, Ts.nil_of_length (T := R') eR.symm]
      have HS := Lib.hid hres
      clear hres eT eU eR eg
      go_wp2_with fail
      go_ret
      exact ⟨by rw [HS.out]; rfl, hb⟩
    | cons k1 n1 s1 a1 r1 =>
      cases R' with
      | nil => simp [Ts.length] at eR
      | cons k2 n2 s2 a2 r2 =>
      have e1 : D.length < T.length := by rw [eT, Ts.length_app]; simp [Ts.length]
      have e2 : D.length < U.length := by rw [eU, Ts.length_app]; simp [Ts.length]
      have e3 : a1.nodes ≤ 1048576 := by rw [eT, Ts.nodes_app] at hT; simp [Ts.nodes] at hT; omega
      have e4 : a2.nodes ≤ 1048576 := by rw [eU, Ts.nodes_app] at hU; simp [Ts.nodes] at hU; omega
      have hs2 := (hs.below hb)
      have hs3 := (hs'.below hb)
      obtain ⟨b1, o1, rfl, hq1⟩ := Sl.at_ (D := D) (R := .cons k1 n1 s1 a1 r1) (by rw [← eT]; exact hs2) (by simp [Ts.length])
      obtain ⟨b2, o2, rfl, hq2⟩ := Sl.at_ (D := D) (R := .cons k2 n2 s2 a2 r2) (by rw [← eU]; exact hs3) (by simp [Ts.length])
      obtain ⟨_, c10, c11, c12, ⟨v1, c13, hv1⟩, _⟩ := seg_cons.1 hq1
      obtain ⟨_, c20, c21, c22, ⟨v2, c23, hv2⟩, _⟩ := seg_cons.1 hq2
      have HT := Lib.hid eT
      have HU := Lib.hid eU
      have HG := Lib.hid eg
      have HR := Lib.hid eR
      clear eT eU eg eR hs2 hs3 hq1 hq2
      go_wp2_with fail
      go_still_tail 8, (by kernel_rfl)
      change wpList _ _ _ _ _ wr.drew
      obtain ⟨A1, d1, rfl, hv1⟩ := hv1.form
      obtain ⟨A2, d2, rfl, hv2⟩ := hv2.form
      go_wp2_with fail
      refine (same_said a1 a2 k1 n1 s1 _ k2 n2 s2 _ _ ?_ ?_ e3 e4).mono ?_
      · exact hv1.below (below_drewN _ wr 1)
      · exact hv2.below (below_drewN _ wr 1)
      rintro e w2 ⟨rfl, hb2⟩
      have hb3 : Below wr.heap.size wr w2 := (below_drewN _ wr 1).trans hb2
      cases hsame : same1 k1 n1 s1 a1 k2 n2 s2 a2 with
      | false =>
        have hres : T.same U = false := Ts.same_stop HT.out HU.out hsame
        have HS := Lib.hid hres
        clear hres hsame
        go_wp2_with fail
        go_ret
        exact ⟨by rw [HS.out]; rfl, hb.trans (hb3.mono hb.size)⟩
      | true =>
        have HS := Lib.hid hsame
        clear hsame
        go_wp2_with fail
        go_roundg r1.length
        case measure => rw [HG.out]; simp [Ts.length]
        case rel => exact SameRel.step HT.out HU.out HR.out HS.out hb hb3
end Go.Proofs.YtdiophafmokfiaaGreatDoor.R
namespace Go.Proofs.YtdiophafmokfiaaGreatDoor
open Go.RowKit Go.Shelf
set_option linter.unusedVariables false
set_option linter.unusedSimpArgs false
set_option maxRecDepth 100000
set_option maxHeartbeats 1000000

theorem clause_nodes (num : Str → Option Int) (s : RS) : (clauseM num s).1.hd.nodes ≤ s.left ∧ (clauseM num s).1.bd.nodes ≤ s.left := by
  have h1 := term_few num 24 { s with vars := [] }
  have h2 := body_few num (termM num 24 { s with vars := [] }).2
  have e : RS.left { s with vars := [] } = s.left := rfl
  rw [e] at h1
  exact ⟨by show (termM num 24 _).1.ar.nodes ≤ _; omega, by show (tsOf (bodyM num _).1).nodes ≤ _; omega⟩
theorem prog_nodes (num : Str → Option Int) : ∀ (n : Nat) (s : RS), ∀ c ∈ (progLoop num n s).1, c.hd.nodes ≤ s.left ∧ c.bd.nodes ≤ s.left
  | 0, s, c, h => by simp [progLoop] at h
  | n + 1, s, c, h => by
    unfold progLoop at h
    split at h
    · simp at h
    · rename_i ht
      have h1 := clause_nodes num s
      rcases List.mem_cons.1 h with rfl | h
      · exact h1
      · have h2 := prog_nodes num n _ c h
        have h3 := clause_lt num s ht
        omega
theorem program_nodes (num : Str → Option Int) (l : Str) : ∀ c ∈ (programM num l).1, c.hd.nodes ≤ 2000 ∧ c.bd.nodes ≤ 2000 := by
  intro c hc
  have h0 := start_short l
  have : c ∈ (progLoop num (RS.start l).left (RS.start l)).1 := by
    unfold programM at hc
    simp only at hc
    split at hc
    · split at hc
      · exact hc
      · simp at hc
    · split at hc
      · exact hc
      · simp at hc
  have := prog_nodes num _ _ c this
  omega
theorem program_len (num : Str → Option Int) (l : Str) : (programM num l).1.length ≤ 24 := by
  unfold programM
  simp only
  generalize progLoop num (RS.start l).left (RS.start l) = p
  by_cases h : 24 < p.1.length
  · have h1 : (p.2.fail 3).err ≠ 0 := by
      simp only [RS.fail]
      split
      · decide
      · assumption
    rw [if_pos h, if_neg h1]; simp
  · rw [if_neg h]
    split
    · simp only; omega
    · simp
theorem samePrograms_any (CL : List Cl) (u v : Value) (w : World) (hu : SlC w (fun _ => True) u CL) (hv : SlC w (fun _ => True) v CL) (hcl : CL.length ≤ 24) (hnod : ∀ c ∈ CL, c.hd.nodes ≤ 2000 ∧ c.bd.nodes ≤ 2000) :
    Calls Tryz.prog 7 #[u, v] w fun e w' => e = .returned (.bool true) ∧ Below w.heap.size w w' := by
  have hS := St.start w
  obtain ⟨A6, c6, rfl, f6⟩ := hu.form
  obtain ⟨A8, c8, rfl, f8⟩ := hv.form
  refine goes_enter2 Tryz.func7 rfl Tryz.ntmps7 rfl ?_
  refine goes_seq ?_
  refine goes_region ?_
  refine lst_run (run_assign (by conv => lhs; whnf)) rfl ?_
  refine lst_done ?_
  refine goes_seq ?_
  refine goes_seq ?_
  refine goes_region ?_
  refine lst_run (run_move (by conv => lhs; whnf)) rfl ?_
  refine lst_run (run_len_slice rfl rfl rfl) rfl ?_
  refine lst_run (run_move (by conv => lhs; whnf)) rfl ?_
  refine lst_run (run_len_slice rfl rfl rfl) rfl ?_
  first
    | refine lst_run (run_neq_one_int rfl rfl) rfl ?_
    | refine lst_run (run_neq_no rfl rfl (by first | assumption | omega)) rfl ?_
    | refine lst_run (run_neq_yes rfl rfl (by omega)) rfl ?_
    | refine lst_run (rfl) rfl ?_
  refine lst_done ?_
  refine goes_false rfl ?_
  refine goes_skip ?_
  refine goes_seq ?_
  refine goes_seq ?_
  refine goes_region ?_
  refine lst_run (run_move (by conv => lhs; whnf)) rfl ?_
  refine lst_run (run_len_slice rfl rfl rfl) rfl ?_
  refine lst_run (run_move (by conv => lhs; whnf)) rfl ?_
  refine lst_done ?_
  refine goes_block ?_
  refine goes_loop1 13 (14 :: 15 :: 5 :: 16 :: 17 :: 18 :: 19 :: 20 :: 21 :: 22 :: 23 :: 24 :: 25 :: 26 :: 27 :: 28 :: 29 :: 30 :: 31 :: 32 :: 33 :: 34 :: 35 :: 36 :: 37 :: 38 :: 39 :: 40 :: 41 :: 42 :: 43 :: 44 :: 45 :: 46 :: 47 :: 48 :: 49 :: 50 :: 51 :: 52 :: 53 :: 54 :: 4 :: 55 :: []) (fun (R : List Cl) v w' => St [] w [] [] w' ∧ ∃ D, CL = D ++ R ∧ v = .int .i64 (D.length : Nat)) (fun R => R.length) (CL) ?_ (by conv => lhs; whnf) ?_
  · exact ⟨hS, [], rfl, rfl⟩
  clear hS
  rintro R2 v2 w6 jv2 ⟨hS, D2, hD2, rfl⟩ ih
  have hlen2 : CL.length = D2.length + R2.length := by rw [hD2]; simp
  cases R2 with
  | nil =>
    simp only [List.length_nil] at hlen2
    refine goes_seq ?_
    refine goes_region ?_
    first
      | refine lst_run (run_lss_yes rfl rfl (by omega)) rfl ?_
      | refine lst_run (run_lss_no rfl rfl (by omega)) rfl ?_
      | refine lst_run (rfl) rfl ?_
    refine lst_done ?_
    refine goes_seq ?_
    refine goes_false rfl ?_
    refine goes_exit rfl ?_
    refine goes_seq ?_
    refine goes_region ?_
    refine lst_run (run_assign (by conv => lhs; whnf)) rfl ?_
    refine lst_done ?_
    refine goes_ret1 Tryz.func7 rfl (by conv => lhs; whnf) ?_
    exact ⟨rfl, hS.ext.below⟩
  | cons c r =>
    simp only [List.length_cons] at hlen2
    have f6' := f6
    have f8' := f8
    rw [hD2] at f6' f8'
    obtain ⟨b6, o6, rfl, _, p0, p1, p2, ⟨p3v, p3, p3'⟩, ⟨p4v, p4, p4'⟩, p5, _⟩ := SlC.at_ f6' (by simp)
    obtain ⟨b8, o8, rfl, _, q0, q1, q2, ⟨q3v, q3, q3'⟩, ⟨q4v, q4, q4'⟩, q5, _⟩ := SlC.at_ f8' (by simp)
    have hno := hnod c (by rw [hD2]; simp)
    have hsame : ∀ w', St [] w [] [] w' → Calls Tryz.prog 23 #[.agg #[.int .i64 c.k, .int .i64 c.n, .string c.s, p3v], .agg #[.int .i64 c.k, .int .i64 c.n, .string c.s, q3v]] w' fun e w'' => e = .returned (.bool true) ∧ Below w'.heap.size w' w'' := by
      intro w' h
      have := R.same_said c.hd c.hd c.k c.n c.s p3v c.k c.n c.s q3v w' (p3'.below h.ext.below) (q3'.below h.ext.below) (by omega) (by omega)
      rw [same1_iff.2 ⟨rfl, rfl, rfl, rfl⟩] at this
      exact this
    have hsames : ∀ w', St [] w [] [] w' → Calls Tryz.prog 11 #[p4v, q4v] w' fun e w'' => e = .returned (.bool true) ∧ Below w'.heap.size w' w'' := by
      intro w' h
      have := R.sameTerms_any c.bd c.bd p4v q4v w' (p4'.below h.ext.below) (q4'.below h.ext.below) (by omega) (by omega)
      rw [(Ts.same_iff _ _).2 rfl] at this
      exact this
    refine goes_seq ?_
    refine goes_region ?_
    first
      | refine lst_run (run_lss_yes rfl rfl (by omega)) rfl ?_
      | refine lst_run (run_lss_no rfl rfl (by omega)) rfl ?_
      | refine lst_run (rfl) rfl ?_
    refine lst_done ?_
    refine goes_seq ?_
    refine goes_true rfl ?_
    refine goes_skip ?_
    refine goes_seq ?_
    refine goes_block ?_
    refine goes_seq ?_
    refine goes_region ?_
    refine lst_run (run_move (by conv => lhs; whnf)) rfl ?_
    refine lst_run (run_assign (by conv => lhs; whnf)) rfl ?_
    refine lst_done ?_
    refine goes_seq ?_
    refine goes_draw (St [] w [] []) 39 ((0, true) :: (1, true) :: (2, true) :: (3, true) :: (4, true) :: (5, true) :: (6, true) :: (7, true) :: (8, true) :: (9, true) :: (10, true) :: (11, true) :: (12, true) :: (13, true) :: (14, true) :: (15, true) :: (16, true) :: (17, true) :: (18, true) :: (19, true) :: (20, true) :: (21, true) :: (22, false) :: (23, true) :: (24, true) :: (25, true) :: (26, true) :: (27, true) :: (28, true) :: (29, true) :: (30, true) :: (31, true) :: (32, true) :: (33, true) :: (34, true) :: (35, true) :: (36, false) :: (37, true) :: (38, true) :: []) (by kernel_rfl) (by kernel_rfl) hS.drew ?_
    replace hS := hS.drew
    refine ord_read rfl (fun _ hS => run_move (by conv => lhs; whnf)) rfl ?_
    refine ord_read rfl (fun _ hS => run_move (by conv => lhs; whnf)) rfl ?_
    refine ord_read rfl (fun _ hS => run_indexAddr (sz := 6) rfl rfl rfl rfl (by omega) (by omega)) rfl ?_
    refine ord_read rfl (fun _ hS => run_fieldAddr (off := 5) rfl rfl) rfl ?_
    first
      | refine ord_read rfl (fun _ hS => run_load1_own hS rfl rfl (by first | exact .head | exact .tail .head | exact .tail (.tail .head) | exact .tail (.tail (.tail .head)) | exact .tail (.tail (.tail (.tail .head))) | exact .tail (.tail (.tail (.tail (.tail .head))))) (by repeat constructor)) rfl ?_
      | refine ord_read rfl (fun _ hS => run_load1 rfl rfl (by first | assumption | exact hS.cell0 (by assumption) | exact lv_next hS | exact lv_list hS)) rfl ?_
    refine ord_read rfl (fun _ hS => run_move (by conv => lhs; whnf)) rfl ?_
    refine ord_read rfl (fun _ hS => run_move (by conv => lhs; whnf)) rfl ?_
    refine ord_read rfl (fun _ hS => run_indexAddr (sz := 6) rfl rfl rfl rfl (by omega) (by omega)) rfl ?_
    refine ord_read rfl (fun _ hS => run_fieldAddr (off := 5) rfl rfl) rfl ?_
    first
      | refine ord_read rfl (fun _ hS => run_load1_own hS rfl rfl (by first | exact .head | exact .tail .head | exact .tail (.tail .head) | exact .tail (.tail (.tail .head)) | exact .tail (.tail (.tail (.tail .head))) | exact .tail (.tail (.tail (.tail (.tail .head))))) (by repeat constructor)) rfl ?_
      | refine ord_read rfl (fun _ hS => run_load1 rfl rfl (by first | assumption | exact hS.cell0 (by assumption) | exact lv_next hS | exact lv_list hS)) rfl ?_
    first
      | refine ord_read rfl (fun _ hS => run_neq_one_int rfl rfl) rfl ?_
      | refine ord_read rfl (fun _ hS => run_neq_no rfl rfl (by first | assumption | omega)) rfl ?_
      | refine ord_read rfl (fun _ hS => run_neq_yes rfl rfl (by omega)) rfl ?_
      | refine ord_read rfl (fun _ hS => rfl) rfl ?_
    refine ord_read rfl (fun _ hS => run_move (by conv => lhs; whnf)) rfl ?_
    refine ord_readG rfl rfl rfl (fun _ hS => run_move (by conv => lhs; whnf)) rfl ?_
    refine ord_readG rfl rfl rfl (fun _ hS => run_move (by conv => lhs; whnf)) rfl ?_
    refine ord_readG rfl rfl rfl (fun _ hS => run_indexAddr (sz := 6) rfl rfl rfl rfl (by omega) (by omega)) rfl ?_
    refine ord_readG rfl rfl rfl (fun _ hS => run_fieldAddr (off := 0) rfl rfl) rfl ?_
    first
      | refine ord_readG rfl rfl rfl (fun _ hS => run_loadN_own (k := 4) hS rfl rfl rfl (by first | exact .head | exact .tail .head | exact .tail (.tail .head) | exact .tail (.tail (.tail .head)) | exact .tail (.tail (.tail (.tail .head))) | exact .tail (.tail (.tail (.tail (.tail .head))))) (by repeat constructor)) rfl ?_
      | refine ord_readG rfl rfl rfl (fun _ hS => run_load4 rfl rfl rfl (by first | assumption | exact hS.cell0 (by assumption)) (by first | assumption | exact hS.cell0 (by assumption)) (by first | assumption | exact hS.cell0 (by assumption)) (by first | assumption | exact hS.cell0 (by assumption))) rfl ?_
    refine ord_readG rfl rfl rfl (fun _ hS => run_move (by conv => lhs; whnf)) rfl ?_
    refine ord_readG rfl rfl rfl (fun _ hS => run_move (by conv => lhs; whnf)) rfl ?_
    refine ord_readG rfl rfl rfl (fun _ hS => run_indexAddr (sz := 6) rfl rfl rfl rfl (by omega) (by omega)) rfl ?_
    refine ord_readG rfl rfl rfl (fun _ hS => run_fieldAddr (off := 0) rfl rfl) rfl ?_
    first
      | refine ord_readG rfl rfl rfl (fun _ hS => run_loadN_own (k := 4) hS rfl rfl rfl (by first | exact .head | exact .tail .head | exact .tail (.tail .head) | exact .tail (.tail (.tail .head)) | exact .tail (.tail (.tail (.tail .head))) | exact .tail (.tail (.tail (.tail (.tail .head))))) (by repeat constructor)) rfl ?_
      | refine ord_readG rfl rfl rfl (fun _ hS => run_load4 rfl rfl rfl (by first | assumption | exact hS.cell0 (by assumption)) (by first | assumption | exact hS.cell0 (by assumption)) (by first | assumption | exact hS.cell0 (by assumption)) (by first | assumption | exact hS.cell0 (by assumption))) rfl ?_
    refine ord_act rfl ?_
    refine lst_guard rfl rfl ?_
    refine lst_enter (run_call (by kernel_rfl) (args_2 (by conv => lhs; whnf) (by conv => lhs; whnf))) rfl ?_
    refine Calls.mono (hsame _ hS) ?_
    rintro _ w7 ⟨rfl, hb7⟩
    refine ⟨_, rfl, ?_⟩
    replace hS := hS.grow hb7
    refine lst_ord hS ?_
    refine ord_readG rfl rfl rfl (fun _ hS => rfl) rfl ?_
    first
      | refine ord_read rfl (fun _ hS => run_pick_t rfl (by conv => lhs; whnf)) rfl ?_
      | refine ord_read rfl (fun _ hS => run_pick_f rfl (by conv => lhs; whnf)) rfl ?_
    refine ord_read rfl (fun _ hS => run_move (by conv => lhs; whnf)) rfl ?_
    refine ord_readG rfl rfl rfl (fun _ hS => run_move (by conv => lhs; whnf)) rfl ?_
    refine ord_readG rfl rfl rfl (fun _ hS => run_move (by conv => lhs; whnf)) rfl ?_
    refine ord_readG rfl rfl rfl (fun _ hS => run_indexAddr (sz := 6) rfl rfl rfl rfl (by omega) (by omega)) rfl ?_
    refine ord_readG rfl rfl rfl (fun _ hS => run_fieldAddr (off := 4) rfl rfl) rfl ?_
    first
      | refine ord_readG rfl rfl rfl (fun _ hS => run_load1_own hS rfl rfl (by first | exact .head | exact .tail .head | exact .tail (.tail .head) | exact .tail (.tail (.tail .head)) | exact .tail (.tail (.tail (.tail .head))) | exact .tail (.tail (.tail (.tail (.tail .head))))) (by repeat constructor)) rfl ?_
      | refine ord_readG rfl rfl rfl (fun _ hS => run_load1 rfl rfl (by first | assumption | exact hS.cell0 (by assumption) | exact lv_next hS | exact lv_list hS)) rfl ?_
    refine ord_readG rfl rfl rfl (fun _ hS => run_move (by conv => lhs; whnf)) rfl ?_
    refine ord_readG rfl rfl rfl (fun _ hS => run_move (by conv => lhs; whnf)) rfl ?_
    refine ord_readG rfl rfl rfl (fun _ hS => run_indexAddr (sz := 6) rfl rfl rfl rfl (by omega) (by omega)) rfl ?_
    refine ord_readG rfl rfl rfl (fun _ hS => run_fieldAddr (off := 4) rfl rfl) rfl ?_
    first
      | refine ord_readG rfl rfl rfl (fun _ hS => run_load1_own hS rfl rfl (by first | exact .head | exact .tail .head | exact .tail (.tail .head) | exact .tail (.tail (.tail .head)) | exact .tail (.tail (.tail (.tail .head))) | exact .tail (.tail (.tail (.tail (.tail .head))))) (by repeat constructor)) rfl ?_
      | refine ord_readG rfl rfl rfl (fun _ hS => run_load1 rfl rfl (by first | assumption | exact hS.cell0 (by assumption) | exact lv_next hS | exact lv_list hS)) rfl ?_
    refine ord_act rfl ?_
    refine lst_guard rfl rfl ?_
    refine lst_enter (run_call (by kernel_rfl) (args_2 (by conv => lhs; whnf) (by conv => lhs; whnf))) rfl ?_
    refine Calls.mono (hsames _ hS) ?_
    rintro _ w8 ⟨rfl, hb8⟩
    refine ⟨_, rfl, ?_⟩
    replace hS := hS.grow hb8
    refine lst_ord hS ?_
    refine ord_readG rfl rfl rfl (fun _ hS => rfl) rfl ?_
    first
      | refine ord_read rfl (fun _ hS => run_pick_t rfl (by conv => lhs; whnf)) rfl ?_
      | refine ord_read rfl (fun _ hS => run_pick_f rfl (by conv => lhs; whnf)) rfl ?_
    refine ord_end ?_
    refine lst_done ?_
    refine goes_false rfl ?_
    refine goes_skip ?_
    refine goes_inBlock ?_
    refine goes_region ?_
    refine lst_run (run_add rfl rfl (by omega) (by omega)) rfl ?_
    refine lst_run (run_move (by conv => lhs; whnf)) rfl ?_
    refine lst_done ?_
    refine ih (r) _ _ _ ?_ ?_ (by conv => lhs; whnf) (by kernel_rfl)
    · simp
    · exact ⟨hS, D2 ++ [c], by rw [hD2, List.append_assoc]; rfl, by simp⟩
theorem programs_any (l : Str) (w : World) (hG : ∀ w', Ext [] w w' → GVars w') (hl : l.length ≤ 1125899906842624) :
    Calls Tryz.prog 3 #[sv l] w fun e w' => e = .returned (.bool true) ∧ Below w.heap.size w w' := by
  have hS := St.start w
  have hnod := program_nodes numM l
  have hcl := program_len numM l
  have hrp : ∀ {F : List (World → Prop)} (w' : World), St [] w [] F w' → Calls Tryz.prog 6 #[sv l] w' fun e w'' => ∃ v, e = .returned (.tuple #[v, .int .i64 (programM numM l).2]) ∧ St [] w [] ((fun w => SlC w (fun _ => True) v (programM numM l).1) :: F) w'' := by
    intro F w' h
    have := readProgram_any l w' hl h
    rw [← program_ref] at this
    exact this
  refine goes_enter1 Tryz.func3 rfl Tryz.ntmps3 rfl ?_
  refine goes_seq ?_
  refine goes_region ?_
  refine lst_run (run_assign (by conv => lhs; whnf)) rfl ?_
  refine lst_done ?_
  refine goes_seq ?_
  refine goes_region ?_
  refine lst_run (run_move (by conv => lhs; whnf)) rfl ?_
  refine lst_enter (run_call (by kernel_rfl) (args_1 (by conv => lhs; whnf))) rfl ?_
  refine Calls.mono (program_r numM GVars lib1 lib2 lib3 l _ hG hl hS) ?_
  rintro _ w3 ⟨v6, rfl, hS'⟩
  refine ⟨_, rfl, ?_⟩
  replace hS := hS'
  clear hS'
  obtain ⟨A6, c6, rfl, _⟩ := (hS.fact (.head _)).form
  refine lst_run (run_move (by conv => lhs; whnf)) rfl ?_
  refine lst_run (run_extract rfl rfl) rfl ?_
  refine lst_run (run_extract rfl rfl) rfl ?_
  refine lst_run (run_assign (by conv => lhs; whnf)) rfl ?_
  refine lst_run (run_assign (by conv => lhs; whnf)) rfl ?_
  refine lst_done ?_
  refine goes_seq ?_
  refine goes_region ?_
  refine lst_run (run_move (by conv => lhs; whnf)) rfl ?_
  refine lst_enter (run_call (by kernel_rfl) (args_1 (by conv => lhs; whnf))) rfl ?_
  refine Calls.mono (hrp _ hS) ?_
  rintro _ w4 ⟨v8, rfl, hS'⟩
  refine ⟨_, rfl, ?_⟩
  replace hS := hS'
  clear hS'
  have f8 := hS.fact (.head _)
  have f6 := hS.fact (.tail _ (.head _))
  obtain ⟨A8, c8, rfl, f8⟩ := f8.form
  have hsm := samePrograms_any _ _ _ _ f6 f8 hcl hnod
  generalize programM numM l = pr at *
  obtain ⟨CL, er⟩ := pr
  dsimp only at *
  refine lst_run (run_move (by conv => lhs; whnf)) rfl ?_
  refine lst_run (run_extract rfl rfl) rfl ?_
  refine lst_run (run_extract rfl rfl) rfl ?_
  refine lst_run (run_assign (by conv => lhs; whnf)) rfl ?_
  refine lst_run (run_assign (by conv => lhs; whnf)) rfl ?_
  refine lst_done ?_
  refine goes_seq ?_
  refine goes_region ?_
  refine lst_run (run_move (by conv => lhs; whnf)) rfl ?_
  refine lst_run (run_move (by conv => lhs; whnf)) rfl ?_
  refine lst_enter (run_call (by kernel_rfl) (args_2 (by conv => lhs; whnf) (by conv => lhs; whnf))) rfl ?_
  refine Calls.mono (hsm) ?_
  rintro _ w5 ⟨rfl, hb5⟩
  refine ⟨_, rfl, ?_⟩
  replace hS := hS.grow hb5
  refine lst_run (run_move (by conv => lhs; whnf)) rfl ?_
  refine lst_guard rfl rfl ?_
  refine lst_run (run_move (by conv => lhs; whnf)) rfl ?_
  refine lst_guard rfl rfl ?_
  refine lst_run (run_move (by conv => lhs; whnf)) rfl ?_
  refine lst_guard rfl rfl ?_
  first
    | refine lst_run (run_eql_one_int rfl rfl) rfl ?_
    | refine lst_run (run_eql_no rfl rfl (by first | assumption | omega)) rfl ?_
    | refine lst_run (run_eql_yes rfl rfl (by omega)) rfl ?_
    | refine lst_run (rfl) rfl ?_
  first
    | refine lst_run (run_pick_t rfl (by conv => lhs; whnf)) rfl ?_
    | refine lst_run (run_pick_f rfl (by conv => lhs; whnf)) rfl ?_
  refine lst_run (run_move (by conv => lhs; whnf)) rfl ?_
  refine lst_guard rfl rfl ?_
  have hG5 : ∀ w', Ext [] w5 w' → GVars w' := fun w' h => hG w' (hS.ext.trans h)
  refine lst_enter (run_call (by kernel_rfl) args_nil) rfl ?_
  refine Calls.mono (reads_any _ hG5) ?_
  rintro _ w6 ⟨rfl, hb6⟩
  refine ⟨_, rfl, ?_⟩
  replace hS := hS.grow hb6
  first
    | refine lst_run (run_pick_t rfl (by conv => lhs; whnf)) rfl ?_
    | refine lst_run (run_pick_f rfl (by conv => lhs; whnf)) rfl ?_
  refine lst_run (run_assign (by conv => lhs; whnf)) rfl ?_
  refine lst_done ?_
  refine goes_ret1 Tryz.func3 rfl (by conv => lhs; whnf) ?_
  exact ⟨rfl, hS.ext.below⟩
end Go.Proofs.YtdiophafmokfiaaGreatDoor
