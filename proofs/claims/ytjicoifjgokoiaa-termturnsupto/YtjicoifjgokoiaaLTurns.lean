/-
  TermTurns, walked over terms in memory: it answers true, and turns nothing that was there.
-/
import Derived.Test.YtjicoifjgokoiaaTSame
import Derived.Test.YtjicoifjgokoiaaTermsR
import Derived.Test.YtjicoifjgokoiaaSameR
namespace Go.Proofs.Ytjicoifjgokoiaa
open Go.RowKit

theorem same1_self (k n : Int) (s : ByteArray) (T : Ts) : same1 k n s T k n s T = true := same1_iff.2 ⟨rfl, rfl, rfl, rfl⟩
theorem Ts.same_self (T : Ts) : T.same T = true := (Ts.same_iff T T).2 rfl
theorem Ts.nodes_shift (T : Ts) (m : Int) : (T.shift m).nodes = T.nodes := Ts.nodes_ren _ T ()
theorem Ts.nodes_tidy (T : Ts) : T.tidy.nodes = T.nodes := Ts.nodes_ren _ T []

set_option maxHeartbeats 1000000 in
theorem termTurns_any (k n : Int) (s : ByteArray) (T : Ts) (v : Value) (k' n' : Int) (s' : ByteArray) (U : Ts) (v' : Value) (L : Ts) (l : Value) (m : Int) (w : World)
    (hv : Sl w (fun _ => True) v T) (hv' : Sl w (fun _ => True) v' U) (hl : Sl w (fun _ => True) l L) (hT : T.nodes < 1048576) (hU : U.nodes < 1048576) (hL : L.nodes ≤ 1048576) :
    Calls Try.prog 3 #[.agg #[.int .i64 k, .int .i64 n, .string s, v], .agg #[.int .i64 k', .int .i64 n', .string s', v'], l, .int .i64 m] w fun e w' => e = .returned (.bool true) ∧ Below w.heap.size w w' := by
  obtain ⟨A, c, rfl, hs⟩ := hv.form
  obtain ⟨A', c', rfl, hs'⟩ := hv'.form
  obtain ⟨Al, cl, rfl, hl⟩ := hl.form
  go_enter Try.func3, Try.ntmps3
  go_wp2_with fail
  have hW0 : Below w.heap.size w ((w.alloc (.cells #[.int .i64 k, .int .i64 n, .string s, .slice A T.length c] 24)).alloc (.cells #[.int .i64 k', .int .i64 n', .string s', .slice A' U.length c'] 24)) := ((Below.refl _ _).alloc (Nat.le_refl _) _).alloc (by simp) _
  have bA : Plot ((w.alloc (.cells #[.int .i64 k, .int .i64 n, .string s, .slice A T.length c] 24)).alloc (.cells #[.int .i64 k', .int .i64 n', .string s', .slice A' U.length c'] 24)) w.heap.size 24 #[.int .i64 k, .int .i64 n, .string s, .slice A T.length c] := (Plot.new w _ _).alloc _
  have bB : Plot ((w.alloc (.cells #[.int .i64 k, .int .i64 n, .string s, .slice A T.length c] 24)).alloc (.cells #[.int .i64 k', .int .i64 n', .string s', .slice A' U.length c'] 24)) (w.heap.size + 1) 24 #[.int .i64 k', .int .i64 n', .string s', .slice A' U.length c'] := by
    have := Plot.new (w.alloc (.cells #[.int .i64 k, .int .i64 n, .string s, .slice A T.length c] 24)) 24 #[.int .i64 k', .int .i64 n', .string s', .slice A' U.length c']
    simpa using this
  generalize (w.alloc (.cells #[.int .i64 k, .int .i64 n, .string s, .slice A T.length c] 24)).alloc (.cells #[.int .i64 k', .int .i64 n', .string s', .slice A' U.length c'] 24) = W0 at *
  have hs := hs.below hW0
  have hs' := hs'.below hW0
  have hl := hl.below hW0
  refine wp_region_ord (fun ws => Plot ws w.heap.size 24 #[.int .i64 k, .int .i64 n, .string s, .slice A T.length c] ∧ Plot ws (w.heap.size + 1) 24 #[.int .i64 k', .int .i64 n', .string s', .slice A' U.length c'])
    26 [(0, true), (1, true), (3, true), (4, true), (2, false), (5, false), (6, true), (7, true), (8, true), (10, true), (12, true), (13, true), (9, false), (11, false), (14, false), (15, false), (16, true), (17, true), (18, true), (21, true), (19, false), (20, false), (22, false), (23, false), (24, true), (25, true)] (by kernel_rfl) (by kernel_rfl) ⟨bA.drew, bB.drew⟩ ?_
  iterate 4
    refine wpOrd_read rfl rfl ⟨?_, fun w' hS => ?_, fun _ _ _ h => h, ?_⟩
    rotate_left
    · obtain ⟨p0, p1, p2, p3, _⟩ := hS.1.four
      obtain ⟨q0, q1, q2, q3, _⟩ := hS.2.four
      clear hS
      go_simp
      exact rfl
  refine wpOrd_run rfl ?_
  go_wp2_with fail
  refine (termSame_any k n s T _ k' n' s' U _ _ (hs.below (below_drewN _ W0 1)) (hs'.below (below_drewN _ W0 1)) hT hU).mono ?_
  rintro e w2 ⟨rfl, hb2⟩
  have hB2 : Below W0.heap.size W0 w2 := (below_drewN _ W0 1).trans hb2
  generalize hrb : same1 k n s T k' n' s' U = rb
  have HRB := Lib.hid hrb
  clear hrb
  have bA2 := bA.below hB2
  have bB2 := bB.below hB2
  have hs2 := hs.below hB2
  have hs2' := hs'.below hB2
  have hl2 := hl.below hB2
  go_wp2_with fail
  refine ⟨⟨bA2, bB2⟩, ?_⟩
  refine wpOrd_run rfl ?_
  go_wp2_with fail
  refine (R.same_said T U k n s _ k' n' s' _ _ hs2 hs2' (by omega) (by omega)).mono ?_
  rintro e w3 ⟨rfl, hb3⟩
  rw [HRB.out]
  have bA3 := bA2.below hb3
  have bB3 := bB2.below hb3
  have hs3 := hs2.below hb3
  have hl3 := hl2.below hb3
  go_wp2_with fail
  refine ⟨⟨bA3, bB3⟩, ?_⟩
  iterate 2
    refine wpOrd_read rfl rfl ⟨?_, fun w' hS => ?_, fun _ _ _ h => h, ?_⟩
    rotate_left
    · obtain ⟨p0, p1, p2, p3, _⟩ := hS.1.four
      obtain ⟨q0, q1, q2, q3, _⟩ := hS.2.four
      clear hS
      go_simp
      exact rfl
  iterate 4
    refine wpOrd_readG rfl ?_ ⟨?_, fun w' hS => ?_, fun _ _ _ h => h, ?_⟩
    · simp [Region.wanted, yielded, Act.put]
    rotate_left
    · obtain ⟨p0, p1, p2, p3, _⟩ := hS.1.four
      obtain ⟨q0, q1, q2, q3, _⟩ := hS.2.four
      clear hS
      go_simp
      exact rfl
  refine wpOrd_run rfl ?_
  go_wp2_with fail
  refine (copyTerm_of (copy_said T) (by omega) k n s _ _ hs3).mono ?_
  rintro e w4 ⟨v4, rfl, hv4, hb4⟩
  obtain ⟨A4, c4, rfl, hv4⟩ := hv4.form
  have bA4 := bA3.below hb4
  have bB4 := bB3.below hb4
  have hs4 := hs3.below hb4
  have hl4 := hl3.below hb4
  go_wp2_with fail
  refine ⟨⟨bA4, bB4⟩, ?_⟩
  refine wpOrd_run rfl ?_
  go_wp2_with fail
  refine (shift_any k n m s T _ _ hv4.any hT).mono ?_
  rintro e w5 ⟨v5, rfl, hv5, hb5⟩
  obtain ⟨A5, c5, rfl, hv5⟩ := hv5.form
  have bA5 := bA4.below hb5
  have bB5 := bB4.below hb5
  have hs5 := hs4.below hb5
  have hl5 := hl4.below hb5
  go_wp2_with fail
  refine ⟨⟨bA5, bB5⟩, ?_⟩
  refine wpOrd_run rfl ?_
  go_wp2_with fail
  refine (shifted_any k n m s T _ _ hs5 (by omega)).mono ?_
  rintro e w6 ⟨v6, rfl, hv6, hb6⟩
  obtain ⟨A6, c6, rfl, hv6⟩ := hv6.form
  have bA6 := bA5.below hb6
  have bB6 := bB5.below hb6
  have hv56 := hv5.any.below hb6
  have hl6 := hl5.below hb6
  have hsh : (T.shift m).nodes ≤ 1073741824 := by rw [Ts.nodes_shift]; omega
  go_wp2_with fail
  refine ⟨⟨bA6, bB6⟩, ?_⟩
  refine wpOrd_run rfl ?_
  go_wp2_with fail
  refine (R.same_said (T.shift m) (T.shift m) k _ s _ k _ s _ _ hv56 hv6 hsh hsh).mono ?_
  rintro e w7 ⟨rfl, hb7⟩
  rw [same1_self]
  have bA7 := bA6.below hb7
  have bB7 := bB6.below hb7
  have hl7 := hl6.below hb7
  go_wp2_with fail
  refine ⟨⟨bA7, bB7⟩, ?_⟩
  iterate 2
    refine wpOrd_read rfl rfl ⟨?_, fun w' hS => ?_, fun _ _ _ h => h, ?_⟩
    rotate_left
    · obtain ⟨p0, p1, p2, p3, _⟩ := hS.1.four
      obtain ⟨q0, q1, q2, q3, _⟩ := hS.2.four
      clear hS
      go_simp
      exact rfl
  iterate 2
    refine wpOrd_readG rfl ?_ ⟨?_, fun w' hS => ?_, fun _ _ _ h => h, ?_⟩
    · simp [Region.wanted, yielded, Act.put]
    rotate_left
    · obtain ⟨p0, p1, p2, p3, _⟩ := hS.1.four
      obtain ⟨q0, q1, q2, q3, _⟩ := hS.2.four
      clear hS
      go_simp
      exact rfl
  refine wpOrd_run rfl ?_
  go_wp2_with fail
  refine (copy_said L _ _ hl7 hL).mono ?_
  rintro e w8 ⟨v8, rfl, hv8, hb8⟩
  obtain ⟨A8, c8, rfl, hv8⟩ := hv8.form
  have bA8 := bA7.below hb8
  have bB8 := bB7.below hb8
  have hl8 := hl7.below hb8
  go_wp2_with fail
  refine ⟨⟨bA8, bB8⟩, ?_⟩
  refine wpOrd_run rfl ?_
  go_wp2_with fail
  refine (tidy_any L _ _ hv8.any (by omega)).mono ?_
  rintro e w9 ⟨v9, rfl, hv9, hb9⟩
  obtain ⟨A9, c9, rfl, hv9⟩ := hv9.form
  have bA9 := bA8.below hb9
  have bB9 := bB8.below hb9
  have hl9 := hl8.below hb9
  go_wp2_with fail
  refine ⟨⟨bA9, bB9⟩, ?_⟩
  refine wpOrd_run rfl ?_
  go_wp2_with fail
  refine (tidied_any L _ _ hl9 hL).mono ?_
  rintro e w10 ⟨v10, rfl, hv10, hb10⟩
  obtain ⟨A10, c10, rfl, hv10⟩ := hv10.form
  have bA10 := bA9.below hb10
  have bB10 := bB9.below hb10
  have hv910 := hv9.any.below hb10
  have htd : L.tidy.nodes ≤ 1073741824 := by rw [Ts.nodes_tidy]; omega
  go_wp2_with fail
  refine ⟨⟨bA10, bB10⟩, ?_⟩
  refine wpOrd_run rfl ?_
  go_wp2_with fail
  refine (R.sameTerms_any L.tidy L.tidy _ _ _ hv910 hv10.any htd htd).mono ?_
  rintro e w11 ⟨rfl, hb11⟩
  rw [Ts.same_self]
  go_wp2_with fail
  refine ⟨⟨bA10.below hb11, bB10.below hb11⟩, ?_⟩
  iterate 2
    refine wpOrd_read rfl rfl ⟨?_, fun w' hS => ?_, fun _ _ _ h => h, ?_⟩
    rotate_left
    · obtain ⟨p0, p1, p2, p3, _⟩ := hS.1.four
      obtain ⟨q0, q1, q2, q3, _⟩ := hS.2.four
      clear hS
      go_simp
      exact rfl
  simp only [wpOrd, List.drop_succ_cons, List.drop_zero]
  go_wp2_with fail
  refine (R.terms_any _).mono ?_
  rintro e w12 ⟨rfl, hb12⟩
  go_wp2_with fail
  go_ret
  refine ⟨rfl, ?_⟩
  have z0 := hW0.size
  have z2 := hB2.size
  have z3 := hb3.size
  have z4 := hb4.size
  have z5 := hb5.size
  have z6 := hb6.size
  have z7 := hb7.size
  have z8 := hb8.size
  have z9 := hb9.size
  have z10 := hb10.size
  have z11 := hb11.size
  exact ((((((((((hW0.trans (hB2.mono z0)).trans (hb3.mono (by omega))).trans (hb4.mono (by omega))).trans (hb5.mono (by omega))).trans (hb6.mono (by omega))).trans (hb7.mono (by omega))).trans (hb8.mono (by omega))).trans (hb9.mono (by omega))).trans (hb10.mono (by omega))).trans (hb11.mono (by omega))).trans (hb12.mono (by omega))
end Go.Proofs.Ytjicoifjgokoiaa
