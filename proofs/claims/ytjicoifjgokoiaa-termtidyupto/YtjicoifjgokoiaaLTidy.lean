/-
  TermTidy, walked over terms in memory: it answers true, and turns nothing that was there.
-/
import Derived.Test.YtjicoifjgokoiaaTidy
import Derived.Test.YtjicoifjgokoiaaTermsK
import Derived.Test.YtjicoifjgokoiaaSameK
namespace Go.Proofs.Ytjicoifjgokoiaa
open Go.RowKit

theorem Ts.same_self (T : Ts) : T.same T = true := (Ts.same_iff T T).2 rfl
theorem Ts.nodes_shift (T : Ts) (m : Int) : (T.shift m).nodes = T.nodes := Ts.nodes_ren _ T ()
theorem Ts.nodes_tidy (T : Ts) : T.tidy.nodes = T.nodes := Ts.nodes_ren _ T []

/-- The number that pick takes. -/
def pickM (k : Int) : Int := if k.tmod 1000 < 0 then k.tmod 1000 + 1000 else k.tmod 1000
theorem pick_any (k : Int) (w : World) : Calls Try.prog 19 #[.int .i64 k, .int .i64 1000] w fun e w' => e = .returned (.int .i64 (pickM k)) ∧ w = w' := by
  have h1 : -1000 < k.tmod 1000 ∧ k.tmod 1000 < 1000 := by
    have := Int.emod_lt_of_pos k (b := 1000) (by omega)
    rw [Int.tmod_eq_emod]
    split <;> omega
  go_enter Try.func19, Try.ntmps19
  go_wp2_with fail
  all_goals go_ret
  all_goals refine ⟨?_, rfl⟩
  all_goals congr 2
  all_goals unfold pickM
  all_goals simp
  all_goals omega

/-- What holds at the head of the loop: of the terms, D have been shifted, R have not. -/
structure TyRel (w1 : World) (T D R : Ts) (m : Int) (u : Value) (xs : List Value) (wr : World) : Prop where
  split : T = D.app R
  own : wr.ownsRow w1.heap.size 24 4 u D.length xs
  cs : Cs wr (fun k => w1.heap.size ≤ k ∧ u.ownBlock ≠ some k) (D.shift m) xs
  chg : Below w1.heap.size w1 wr
def TyLoop (w1 : World) (T : Ts) (m : Int) (g : Nat) (s6 s7 s14 : Value) (wr : World) : Prop := ∃ D R xs, TyRel w1 T D R m s6 xs wr ∧ g = R.length ∧ s7 = .bool (D.good 1048576) ∧ s14 = .int .i64 D.length

theorem Ts.shift_app (D R : Ts) (m : Int) : (D.app R).shift m = (D.shift m).app (R.shift m) := by
  induction D with
  | nil => rfl
  | cons k n b ar r _ ih => simp only [Ts.app, Ts.shift_cons, ih]
theorem Ts.good_app (v : Int) (D R : Ts) : (D.app R).good v = (D.good v && R.good v) := by
  induction D with
  | nil => rfl
  | cons k n b ar r _ ih => simp only [Ts.app, Ts.good, ih, Bool.and_assoc]

theorem TyRel.aside {w1 wr w' : World} {T D R : Ts} {m : Int} {u : Value} {xs : List Value} (h : TyRel w1 T D R m u xs wr) (hb : Below wr.heap.size wr w') : TyRel w1 T D R m u xs w' :=
  ⟨h.split, own_below h.own hb, h.cs.below hb, h.chg.trans (hb.mono h.chg.size)⟩

theorem TyRel.step {w1 wr W w3 : World} {T D r ar : Ts} {k n m : Int} {s : ByteArray} {u v3 v : Value} {xs : List Value}
    (h : TyRel w1 T D (.cons k n s ar r) m u xs wr) (hC : Below wr.heap.size wr W)
    (hv : Sl W (fun k => wr.heap.size ≤ k) v (ar.shift m))
    (ho3 : w3.ownsRow w1.heap.size 24 4 v3 (D.length + 1) (xs ++ [.int .i64 k, .int .i64 (shiftN k n m), .string s, v]))
    (hg : W.grownBy w3 u.ownBlock) (hat : v3.ownBlock = u.ownBlock ∨ v3.ownBlock = some W.heap.size) :
    TyRel w1 T (D.app (.cons k n s ar .nil)) r m v3 (xs ++ [.int .i64 k, .int .i64 (shiftN k n m), .string s, v]) w3 := by
  have hlt := h.own.lt
  have hz := h.chg.size
  have hWs := hC.size
  have hu : ∀ k, u.ownBlock = some k → w1.heap.size ≤ k ∧ k < wr.heap.size := fun k hk => hlt k hk
  refine ⟨by rw [h.split, Ts.app_assoc]; rfl, by rw [Ts.length_app]; exact ho3, ?_, ?_⟩
  · rw [Ts.shift_app, Ts.shift_cons]
    have h1 : Cs W (fun k => (w1.heap.size ≤ k ∧ v3.ownBlock ≠ some k) ∧ u.ownBlock ≠ some k) ((D.shift m).app (.cons k (shiftN k n m) s (ar.shift m) .nil)) (xs ++ [.int .i64 k, .int .i64 (shiftN k n m), .string s, v]) := by
      refine Cs.app ?_ ⟨v, [], rfl, ?_, rfl⟩
      · refine (h.cs.imp (q := fun k => (w1.heap.size ≤ k ∧ v3.ownBlock ≠ some k) ∧ u.ownBlock ≠ some k) fun k hk hl => ⟨⟨hk.1, ?_⟩, hk.2⟩).keep fun k hk hl => hC.block k hl
        rcases hat with e | e <;> rw [e]
        · exact hk.2
        · intro e2; simp at e2; omega
      · refine hv.imp fun k hk hl => ⟨⟨by omega, ?_⟩, ?_⟩
        · rcases hat with e | e <;> rw [e]
          · intro e2; have := hu k e2; omega
          · intro e2; simp at e2; omega
        · intro e2; have := hu k e2; omega
    exact (h1.keep (w' := w3) fun k hk hl => hg.block k hl (fun e => hk.2 e.symm)).imp fun k hk _ => hk.1
  · refine (h.chg.trans (hC.mono hz)).grown hg (by omega) fun k hk => by have := hu k hk; omega

set_option maxHeartbeats 1000000 in
theorem termTidy_any (T : Ts) (v : Value) (n : Int) (w : World) (hv : Sl w (fun _ => True) v T) (hn : T.nodes < 1048576) :
    Calls Try.prog 4 #[v, .int .i64 n] w fun e w' => e = .returned (.bool true) ∧ Below w.heap.size w w' := by
  obtain ⟨A, c, rfl, hs⟩ := hv.form
  have hle := T.length_le
  obtain ⟨i0, hi0, hz0, hz1, hz2⟩ := info_parts info_term
  generalize hm : pickM n = m
  have HM := Lib.hid hm
  clear hm
  go_enter Try.func4, Try.ntmps4
  go_wp2_with fail
  refine (tidy_any T _ _ hs (by omega)).mono ?_
  rintro e w1 ⟨v1, rfl, hv1, hb1⟩
  obtain ⟨A1, c1, rfl, hv1⟩ := hv1.form
  have hs1 := hs.below hb1
  have h0 : TyLoop w1 T m T.length (.slice none 0 0) (.bool true) (.int .i64 0) w1 := ⟨.nil, T, [], ⟨rfl, World.ownsRow_nil _ _ _ _, rfl, Below.refl _ _⟩, rfl, rfl, rfl⟩
  go_wp2_with fail
  go_loopg [6, 7, 14] T.length (TyLoop w1 T m)
  case atStart => exact h0
  case round =>
    clear h0
    obtain ⟨D, R, xs, hrel, hg, rfl, rfl⟩ := hrel
    have HG := Lib.hid hg
    clear hg
    obtain ⟨Au, cu, hu⟩ := own_form hrel.own
    subst hu
    cases R with
    | nil =>
      have eD : D = T := by rw [hrel.split, Ts.app_nil]
      subst eD
      have hmv : Sl wr (fun _ => True) (.slice Au D.length cu) (D.shift m) := by
        have h1 := hrel.own
        have e : (D.shift m).length = D.length := Ts.length_ren _ D ()
        rw [← e] at h1
        have h2 := Sl.own h1 (hrel.cs.imp fun k hk _ => hk.1) fun g hg => (h1.lt g hg).1
        rw [e] at h2
        exact h2.any
      have hb := hrel.chg
      have hz := hb.size
      have hz1' := hb1.size
      have hv1r := hv1.any.below hb
      have ht1 : D.tidy.nodes ≤ 1073741824 := by rw [Ts.nodes_tidy]; omega
      have ht2 : (D.shift m).nodes ≤ 1073741824 := by rw [Ts.nodes_shift]; omega
      have ht3 : D.tidy.tidy.nodes ≤ 1073741824 := by rw [Ts.nodes_tidy]; exact ht1
      have ht4 : (D.shift m).tidy.nodes ≤ 1073741824 := by rw [Ts.nodes_tidy]; exact ht2
      clear hrel
      cases hdg : D.good 1048576 with
      | false =>
        go_wp2_with fail
        refine (tidy_any D.tidy _ _ hv1r ht1).mono ?_
        rintro e w2 ⟨v2, rfl, hv2, hb2⟩
        obtain ⟨A2, c2, rfl, hv2⟩ := hv2.form
        have z2 := hb2.size
        go_wp2_with fail
        refine (K.sameTerms_any D.tidy D.tidy.tidy _ _ _ (hv1r.below hb2) hv2.any ht1 ht3).mono ?_
        rintro e w3 ⟨rfl, hb3⟩
        have z3 := hb3.size
        rw [Ts.tidy_tidy, Ts.same_self]
        go_wp2_with fail
        refine (K.terms_any _).mono ?_
        rintro e w4 ⟨rfl, hb4⟩
        go_wp2_with fail
        go_ret
        exact ⟨rfl, ((((hb1.trans (hb.mono (by omega))).trans (hb2.mono (by omega))).trans (hb3.mono (by omega))).trans (hb4.mono (by omega)))⟩
      | true =>
        have HGT := Lib.hid (Ts.tidy_shift D m hdg)
        go_wp2_with fail
        refine (tidy_any D.tidy _ _ hv1r ht1).mono ?_
        rintro e w2 ⟨v2, rfl, hv2, hb2⟩
        obtain ⟨A2, c2, rfl, hv2⟩ := hv2.form
        have z2 := hb2.size
        go_wp2_with fail
        refine (K.sameTerms_any D.tidy D.tidy.tidy _ _ _ (hv1r.below hb2) hv2.any ht1 ht3).mono ?_
        rintro e w3 ⟨rfl, hb3⟩
        have z3 := hb3.size
        rw [Ts.tidy_tidy, Ts.same_self]
        go_wp2_with fail
        refine (tidy_any (D.shift m) _ _ ((hmv.below hb2).below hb3) ht2).mono ?_
        rintro e w4 ⟨v4, rfl, hv4, hb4⟩
        obtain ⟨A4, c4, rfl, hv4⟩ := hv4.form
        have z4 := hb4.size
        go_wp2_with fail
        refine (K.sameTerms_any D.tidy (D.shift m).tidy _ _ _ (((hv1r.below hb2).below hb3).below hb4) hv4.any ht1 ht4).mono ?_
        rintro e w5 ⟨rfl, hb5⟩
        have z5 := hb5.size
        rw [HGT.out, Ts.same_self]
        go_wp2_with fail
        refine (K.terms_any _).mono ?_
        rintro e w6 ⟨rfl, hb6⟩
        go_wp2_with fail
        go_ret
        exact ⟨rfl, ((((((hb1.trans (hb.mono (by omega))).trans (hb2.mono (by omega))).trans (hb3.mono (by omega))).trans (hb4.mono (by omega))).trans (hb5.mono (by omega))).trans (hb6.mono (by omega)))⟩
    | cons k n0 s ar r =>
      have e1 : D.length < T.length := by rw [hrel.split, Ts.length_app]; simp [Ts.length]
      have e2 : ar.nodes < 1048576 := by
        have h := hrel.split
        rw [h, Ts.nodes_app] at hn
        simp [Ts.nodes] at hn
        omega
      have hsl : Sl wr (fun k => k < w1.heap.size) (.slice A T.length c) (D.app (.cons k n0 s ar r)) := by
        rw [← hrel.split]
        exact (hs1.imp (q := fun k => k < w1.heap.size) fun k _ h => h).below hrel.chg
      obtain ⟨b1, o1, rfl, hq1⟩ := Sl.at_ hsl (by simp [Ts.length])
      obtain ⟨_, c10, c11, c12, ⟨v1, c13, hv1'⟩, _⟩ := seg_cons.1 hq1
      obtain ⟨A2, d2, rfl, hv2⟩ := hv1'.form
      clear hq1 hsl hv1'
      go_wp2_with fail
      have bA := Plot.new wr 24 #[.int .i64 k, .int .i64 n0, .string s, .slice A2 ar.length d2]
      have hW0 : Below wr.heap.size wr (wr.alloc (.cells #[.int .i64 k, .int .i64 n0, .string s, .slice A2 ar.length d2] 24)) := (Below.refl _ _).alloc (Nat.le_refl _) _
      generalize (wr.alloc (.cells #[.int .i64 k, .int .i64 n0, .string s, .slice A2 ar.length d2] 24)) = W0 at *
      have hvo := hv2
      have hv2 := hv2.any.below hW0
      refine wp_region_ord (fun ws => Plot ws wr.heap.size 24 #[.int .i64 k, .int .i64 n0, .string s, .slice A2 ar.length d2])
        6 [(0, true), (1, true), (2, true), (3, false), (4, false), (5, false)] (by kernel_rfl) (by kernel_rfl) bA.drew ?_
      iterate 3
        refine wpOrd_read rfl rfl ⟨?_, fun w' hS => ?_, fun _ _ _ h => h, ?_⟩
        rotate_left
        · obtain ⟨p0, p1, p2, p3, _⟩ := hS.four
          clear hS
          go_simp
          exact rfl
      refine wpOrd_run rfl ?_
      go_wp2_with fail
      refine (pick_any n _).mono ?_
      rintro e w2 ⟨rfl, rfl⟩
      rw [HM.out]
      go_wp2_with fail
      refine ⟨bA.drew, ?_⟩
      refine wpOrd_run rfl ?_
      go_wp2_with fail
      refine (shift_any k n0 m s ar _ _ (hv2.below (below_drewN _ W0 1)) e2).mono ?_
      rintro e w3 ⟨v3, rfl, hv3, hb3⟩
      obtain ⟨A3, c3, rfl, hv3⟩ := hv3.form
      go_wp2_with fail
      refine ⟨bA.drew.below hb3, ?_⟩
      refine wpOrd_run rfl ?_
      go_wp2_with fail
      have hz := hrel.chg.size
      have hsz3 := hb3.size
      have hsz0 := hW0.size
      have hwz : wr.heap.size < w3.heap.size := by have := bA.lt; simp at hsz3; omega
      have hC3 : Below wr.heap.size wr (w3.alloc (.cells #[.int .i64 k, .int .i64 (shiftN k n0 m), .string s, .slice A3 (ar.shift m).length c3] 24)) := (((hW0.trans ((below_drewN _ W0 1).mono hsz0)).trans (hb3.mono hsz0))).alloc (by omega) _
      have bA3 : Plot (w3.alloc (.cells #[.int .i64 k, .int .i64 (shiftN k n0 m), .string s, .slice A3 (ar.shift m).length c3] 24)) wr.heap.size 24 #[.int .i64 k, .int .i64 n0, .string s, .slice A2 ar.length d2] := (bA.drew.below hb3).alloc _
      have hv4 : Sl (w3.alloc (.cells #[.int .i64 k, .int .i64 (shiftN k n0 m), .string s, .slice A3 (ar.shift m).length c3] 24)) (fun k => wr.heap.size ≤ k) (.slice A3 (ar.shift m).length c3) (ar.shift m) :=
        (hv3.below ((Below.refl _ _).alloc (Nat.le_refl _) _)).imp fun k hk _ => by simp at hk; omega
      have ho3 := own_below hrel.own hC3
      refine ⟨bA3, ?_⟩
      simp only [wpOrd, List.drop_succ_cons, List.drop_zero]
      go_wp2_with (at_builtin; refine wpList_append_at _ rfl (.tmp 18) (.tmp 23) _ rfl w1.heap.size 24 i0 _ 4 56 Try.underlying22 hi0 hz0 hz1 hz2 rfl (by omega) (.slice Au D.length cu) D.length xs rfl ho3 ⟨w3.heap.size, 0, none⟩ 1 1 [.int .i64 k, .int .i64 (shiftN k n0 m), .string s, .slice A3 (ar.shift m).length c3] rfl rfl (cell_lit w3 _ _) (by simp [Value.oneCell']) (by simp only [maxLen]; omega) (by omega) (by simp; omega) ?next)
      case next =>
        intro v4 w4 hov hg hat
        have hat' : v4.ownBlock = (Value.slice Au D.length cu).ownBlock ∨ v4.ownBlock = some (w3.alloc (.cells #[.int .i64 k, .int .i64 (shiftN k n0 m), .string s, .slice A3 (ar.shift m).length c3] 24)).heap.size := by simpa using hat
        have hstep := TyRel.step hrel hC3 hv4 hov hg hat'
        have hown : ∀ g, (Value.slice Au D.length cu).ownBlock = some g → g ≠ wr.heap.size := fun g e => by have := (hrel.own.lt g e).2; omega
        have bA4 := bA3.grown hg fun e => hown _ e.symm rfl
        have hv6 : Sl w4 (fun _ => True) (.slice A2 ar.length d2) ar := ((hvo.below hC3).keep fun k hk hl => hg.block k hl fun e => by have := (hrel.own.lt k e.symm).1; omega).any
        clear hat hat' hov
        obtain ⟨p0, p1, p2, p3, _⟩ := bA4.four
        have hgood : (D.app (.cons k n0 s ar .nil)).good 1048576 = (D.good 1048576 && (Ts.cons k n0 s ar .nil).good 1048576) := Ts.good_app _ _ _
        cases hdg : D.good 1048576 with
        | false =>
          rw [hdg] at hgood
          go_wp2_with fail
          go_roundg r.length
          case measure => rw [HG.out]; simp [Ts.length]
          case rel =>
            refine ⟨_, _, _, hstep, rfl, ?_, ?_⟩
            · rw [hgood]; rfl
            · rw [Ts.length_app]; rfl
        | true =>
          go_wp2_with fail
          refine (good_any k n0 1048576 s ar _ _ hv6 e2).mono ?_
          rintro e w5 ⟨rfl, hb5⟩
          rw [hdg, Bool.true_and] at hgood
          rw [← hgood]
          generalize hgd : (D.app (.cons k n0 s ar .nil)).good 1048576 = gd
          have HGD := Lib.hid hgd
          clear hgd hgood
          go_wp2_with fail
          go_roundg r.length
          case measure => rw [HG.out]; simp [Ts.length]
          case rel =>
            refine ⟨_, _, _, hstep.aside hb5, rfl, ?_, ?_⟩
            · rw [HGD.out]
            · rw [Ts.length_app]; rfl
end Go.Proofs.Ytjicoifjgokoiaa
