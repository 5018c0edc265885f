/- NodesOf, Built, Fits: texts that follow one another, laid into one file. -/
import Derived.Test.YtdiophafmokfiaaGreatDoorG11
import Derived.Test.YtdiophafmokfiaaGreatDoorG3
import Derived.Test.YtdiophafmokfiaaGreatDoorG12
import Derived.Deep.LoopGhost
import Derived.Test.YtdiophafmokfiaaGreatDoorG6
import Derived.Test.YtdiophafmokfiaaGreatDoorRows
import Derived.Deep.QuietTactic
import Derived.BigQuiet
namespace Go.Proofs.YtdiophafmokfiaaGreatDoor
open Go.RowKit

def QLoop (w : World) (N : Nat) (g : Nat) (s3 s4 : Value) (wr : World) : Prop := ∃ (Q : Ts) (ao : Option Addr) (b off cap : Nat) (olds : List Value) (c : Nat), s3 = .int .i64 c ∧ c + Q.nodes = N ∧ g = Q.nodes ∧
  s4 = .slice ao Q.length cap ∧ Came wr 4 ao b off Q.length cap olds ∧ Cs wr (fun k => k < w.heap.size) Q olds ∧ (0 < cap → w.heap.size ≤ b) ∧ Below w.heap.size w wr

set_option maxRecDepth 100000 in
set_option maxHeartbeats 1000000 in
theorem nodesOf_any (k n : Int) (s : ByteArray) (T : Ts) (v : Value) (w : World) (hv : Sl w (fun _ => True) v T) (hn : T.nodes < 1048576) :
    Calls Tryz.prog 62 #[.agg #[.int .i64 k, .int .i64 n, .string s, v]] w fun e w' => e = .returned (.int .i64 (T.nodes + 1 : Nat)) ∧ Below w.heap.size w w' := by
  obtain ⟨A, c, rfl, hs⟩ := hv.form
  obtain ⟨i0, hi0, hz0, hz1, hz2⟩ := info_parts info_term
  go_enter Tryz.func62, Tryz.ntmps62
  go_wp2_with fail
  have bA := Plot.new w 31 #[.int .i64 k, .int .i64 n, .string s, .slice A T.length c]
  have hW0 : Below w.heap.size w (w.alloc (.cells #[.int .i64 k, .int .i64 n, .string s, .slice A T.length c] 31)) := (Below.refl _ _).alloc (Nat.le_refl _) _
  generalize (w.alloc (.cells #[.int .i64 k, .int .i64 n, .string s, .slice A T.length c] 31)) = W0 at *
  refine wp_region_ord (fun ws => Plot ws w.heap.size 31 #[.int .i64 k, .int .i64 n, .string s, .slice A T.length c])
    3 [(0, true), (2, true), (1, false)] (by kernel_rfl) (by kernel_rfl) bA.drew ?_
  iterate 2
    refine wpOrd_read rfl rfl ⟨?_, fun w' hS => ?_, fun _ _ _ h => h, ?_⟩
    rotate_left
    · obtain ⟨p0, p1, p2, p3, _⟩ := hS.four
      clear hS
      go_simp
      exact rfl
  refine wpOrd_run rfl ?_
  go_wp2_with fail
  refine ⟨bA.drew.alloc _, ?_⟩
  simp only [wpOrd, List.drop_succ_cons, List.drop_zero]
  go_wp2_with fail
  have h0 : QLoop w (T.nodes + 1) (T.nodes + 1) (.int .i64 0) (.slice (some ⟨W0.heap.size, 0, none⟩) 1 1) (W0.alloc (.cells #[.int .i64 k, .int .i64 n, .string s, .slice A T.length c] 31)).drew := by
    have hz := hW0.size
    have hb1 : Below w.heap.size w (W0.alloc (.cells #[.int .i64 k, .int .i64 n, .string s, .slice A T.length c] 31)).drew := (hW0.alloc hz _).drew
    have bB := (Plot.new W0 31 #[.int .i64 k, .int .i64 n, .string s, .slice A T.length c]).drew
    refine ⟨.cons k n s T .nil, _, W0.heap.size, 0, 1, [.int .i64 k, .int .i64 n, .string s, .slice A T.length c], 0, rfl, by simp [Ts.nodes], by simp [Ts.nodes], rfl, ?_, ⟨_, [], rfl, ?_, rfl⟩, fun _ => hz, hb1⟩
    · refine ⟨Nat.le_refl _, fun _ => rfl, fun _ => bB.lt, rfl, fun j u hu => ?_, fun j hj => by simp [Ts.length] at hj⟩
      rw [Nat.zero_add, bB.cell j]
      simpa using hu
    · exact (hs.imp (q := fun k => k < w.heap.size) fun k _ h => h).below hb1
  have hN : T.nodes + 1 ≤ 1048576 := hn
  generalize hNN : T.nodes + 1 = N at *
  have HNN := Lib.hid hNN
  clear hNN
  generalize (W0.alloc (.cells #[.int .i64 k, .int .i64 n, .string s, .slice A T.length c] 31)).drew = W1 at *
  go_loopg [3, 4] N (QLoop w N)
  case atStart => exact h0
  case round =>
    clear h0 bA hW0
    obtain ⟨Q, ao, b, off, cap, olds, cn, rfl, hcn, hg, rfl, hcm, hcs, hbb, hB⟩ := hrel
    have hQ : Q.nodes ≤ N := by omega
    have hQl := Q.length_le
    have HG := Lib.hid hg
    clear hg
    cases Q with
    | nil =>
      go_wp2_with fail
      go_ret
      refine ⟨?_, hB⟩
      rw [HNN.out, ← hcn]; rfl
    | cons k1 n1 s1 ar r =>
      obtain ⟨u, xs, rfl, hu, hxs⟩ := hcs
      obtain ⟨Au, cu, rfl, hu⟩ := hu.form
      have hcp : 0 < cap := by have := hcm.le; simp [Ts.length] at this; omega
      have hao := hcm.addr hcp
      subst hao
      have hblt := hcm.lt hcp
      have c10 : wr.cell? ⟨b, off, none⟩ = some (.int .i64 k1) := hcm.olds 0 _ rfl
      have c11 : wr.cell? ⟨b, off + 1, none⟩ = some (.int .i64 n1) := hcm.olds 1 _ rfl
      have c12 : wr.cell? ⟨b, off + 2, none⟩ = some (.string s1) := hcm.olds 2 _ rfl
      have c13 : wr.cell? ⟨b, off + 3, none⟩ = some (.slice Au ar.length cu) := hcm.olds 3 _ rfl
      have hlc : r.length + 1 ≤ cap := hcm.le
      have hl1 : (Ts.cons k1 n1 s1 ar r).length = r.length + 1 := rfl
      rw [hl1]
      have h1c : (1 : Int) ≤ (r.length : Int) + 1 := by omega
      have hcm1 : Came wr 4 (if cap = 1 then some ⟨b, off, none⟩ else some ⟨b, off + 4, none⟩) b (off + 4) r.length (cap - 1) xs := by
        have hol := hcm.oldsLen
        simp only [List.length_cons, hl1] at hol
        refine ⟨by omega, fun h => by rw [if_neg (by omega)], fun _ => hblt, by omega, fun j u hu => ?_, fun j hj => ?_⟩
        · have := hcm.olds (j + 4) u (by simpa using hu)
          rwa [show off + (j + 4) = off + 4 + j by omega] at this
        · have := hcm.spare j (by rw [hl1]; omega)
          rw [hl1] at this
          rwa [show off + 4 + r.length * 4 + j = off + (r.length + 1) * 4 + j by omega]
      go_wp2_with fail
      have bX := Plot.new wr 31 #[.int .i64 k1, .int .i64 n1, .string s1, .slice Au ar.length cu]
      have hX : Below wr.heap.size wr (wr.alloc (.cells #[.int .i64 k1, .int .i64 n1, .string s1, .slice Au ar.length cu] 31)) := (Below.refl _ _).alloc (Nat.le_refl _) _
      generalize (wr.alloc (.cells #[.int .i64 k1, .int .i64 n1, .string s1, .slice Au ar.length cu] 31)) = X at *
      refine wp_region_ord (fun ws => Plot ws wr.heap.size 31 #[.int .i64 k1, .int .i64 n1, .string s1, .slice Au ar.length cu])
        4 [(0, true), (1, true), (2, true), (3, true)] (by kernel_rfl) (by kernel_rfl) bX.drew ?_
      refine wpOrd_read rfl rfl ⟨?_, fun w' hS => ?_, fun _ _ _ h => h, ?_⟩
      rotate_left
      · go_simp
        exact rfl
      refine wpOrd_read rfl rfl ⟨?_, fun w' hS => ?_, fun _ _ _ h => h, ?_⟩
      rotate_left
      · clear hS
        go_simp
        exact rfl
      generalize (if cap = 1 then some (⟨b, off, none⟩ : Addr) else some ⟨b, off + 4, none⟩) = ao' at hcm1 ⊢
      iterate 2
        refine wpOrd_read rfl rfl ⟨?_, fun w' hS => ?_, fun _ _ _ h => h, ?_⟩
        rotate_left
        · obtain ⟨p0, p1, p2, p3, _⟩ := hS.four
          clear hS
          go_simp
          exact rfl
      simp only [wpOrd, List.drop_succ_cons, List.drop_zero]
      have hXd : Below wr.heap.size wr X.drew := hX.drew
      have hz := hB.size
      have hzX := hXd.size
      have hcm2 := came_below hcm1 hXd
      obtain ⟨news, hsrc, hnews⟩ := (hu.below hXd).src (P := Tryz.prog) Tryz.underlying29
      have hxs2 := hxs.below hXd
      have hnod : r.length + ar.length ≤ 1048576 := by
        have h1 := r.length_le
        have h2 := ar.length_le
        simp only [Ts.nodes] at hQ
        omega
      have hBX : Below w.heap.size w X.drew := hB.trans (hXd.mono hz)
      refine wpList_append_came (P := Tryz.prog) X.drew rfl (.tmp 15) (.tmp 17) 29 29 rfl (e := 31) hcm2 i0 _ 56 Tryz.underlying29 hi0 hz0 hz1 hz2 rfl rfl _ ar.length news rfl hsrc (by simp only [maxLen]; omega) (by omega) w.heap.size (fun h => hbb (by omega)) (by omega) ?_
      intro ao2 b2 off2 cap2 w2 hcm3 hbb3 hB3
      go_wp2_with fail
      go_roundg (r.app ar).nodes
      case measure => rw [HG.out]; simp only [Ts.nodes_app, Ts.nodes]; omega
      case rel =>
        refine ⟨r.app ar, ao2, b2, off2, cap2, xs ++ news, cn + 1, ?_, ?_, rfl, ?_, ?_, ?_, hbb3, hBX.trans (hB3.mono (Nat.le_refl _))⟩
        · rfl
        · simp only [Ts.nodes_app]; simp only [Ts.nodes] at hcn; omega
        · rw [Ts.length_app]
        · rw [Ts.length_app]; exact hcm3
        · exact (Cs.app hxs2 hnews).keep fun k hk hl => hB3.block k hk
end Go.Proofs.YtdiophafmokfiaaGreatDoor
namespace Go.Proofs.YtdiophafmokfiaaGreatDoor
open Go.RowKit

def goalB (k : Int) : Bool := decide (k = 1) || decide (k = 3)
/-- Is it the S and the number of arguments of a built-in predicate? -/
def builtB (t : List UInt8) (l : Nat) : Bool :=
  if t = [33] then decide (l = 0) else if t = [116, 114, 117, 101] then decide (l = 0) else if t = [102, 97, 105, 108] then decide (l = 0)
  else if t = [101, 113] then decide (l = 2) else if t = [108, 101, 115, 115] then decide (l = 2) else if t = [97, 100, 100] then decide (l = 3) else false

theorem goal_any (k n : Int) (s : ByteArray) (v : Value) (w : World) : Calls Tryz.prog 47 #[.agg #[.int .i64 k, .int .i64 n, .string s, v]] w fun e w' => e = .returned (.bool (goalB k)) ∧ Below w.heap.size w w' := by
  by_cases h1 : k = 1
  · subst h1
    go_enter Tryz.func47, Tryz.ntmps47
    go_wp2_with fail
    go_ret
    exact ⟨rfl, (Below.refl _ _).alloc (Nat.le_refl _) _⟩
  by_cases h3 : k = 3
  · subst h3
    go_enter Tryz.func47, Tryz.ntmps47
    go_wp2_with fail
    go_ret
    exact ⟨rfl, (Below.refl _ _).alloc (Nat.le_refl _) _⟩
  have R := Lib.hid (show goalB k = false by simp [goalB, h1, h3])
  have g1 : (k == 1) = false := by simpa using h1
  have g3 : (k == 3) = false := by simpa using h3
  clear h1 h3
  go_enter Tryz.func47, Tryz.ntmps47
  go_wp2_with fail
  go_ret
  exact ⟨by rw [R.out]; rfl, (Below.refl _ _).alloc (Nat.le_refl _) _⟩

set_option maxHeartbeats 1000000 in
theorem builtin_any (k n : Int) (s : ByteArray) (A : Option Addr) (l c : Nat) (w : World) : Calls Tryz.prog 58 #[.agg #[.int .i64 k, .int .i64 n, .string s, .slice A l c]] w fun e w' => e = .returned (.bool (builtB s.toList l)) ∧ Below w.heap.size w w' := by
  generalize hr : builtB s.toList l = rb
  have R := Lib.hid hr
  clear hr
  go_enter Tryz.func58, Tryz.ntmps58
  go_wp2_with fail
  all_goals go_ret
  all_goals refine ⟨?_, (Below.refl _ _).alloc (Nat.le_refl _) _⟩
  all_goals rw [← R.out]
  all_goals refine ret_bool ?_
  all_goals rw [Bool.eq_iff_iff]
  all_goals simp_all [builtB]
  all_goals try omega

/-- No entry ahead of number i is what is asked for. -/
def EvLoop (S : World → Prop) (t : List UInt8) (l : Nat) (g : Nat) (s8 : Value) (wr : World) : Prop := ∃ i : Nat, i ≤ 6 ∧ g = 6 - i ∧ s8 = .int .i64 i ∧ S wr ∧
  (0 < i → ¬ (t = [33] ∧ l = 0)) ∧ (1 < i → ¬ (t = [116, 114, 117, 101] ∧ l = 0)) ∧ (2 < i → ¬ (t = [102, 97, 105, 108] ∧ l = 0)) ∧
  (3 < i → ¬ (t = [101, 113] ∧ l = 2)) ∧ (4 < i → ¬ (t = [108, 101, 115, 115] ∧ l = 2)) ∧ (5 < i → ¬ (t = [97, 100, 100] ∧ l = 3))

def EvS (w : World) (k n : Int) (s : ByteArray) (A : Option Addr) (l c : Nat) (x : World) : Prop := Plot x w.heap.size 31 #[.int .i64 k, .int .i64 n, .string s, .slice A l c] ∧
  Plot x (w.heap.size + 1) 9 #[.string ⟨#[33, 47, 48]⟩, .string ⟨#[116, 114, 117, 101, 47, 48]⟩, .string ⟨#[102, 97, 105, 108, 47, 48]⟩, .string ⟨#[101, 113, 47, 50]⟩, .string ⟨#[108, 101, 115, 115, 47, 50]⟩, .string ⟨#[97, 100, 100, 47, 51]⟩] ∧ Below w.heap.size w x
theorem EvS.drewN {w x : World} {k n : Int} {s : ByteArray} {A : Option Addr} {l c : Nat} (h : EvS w k n s A l c x) (q : Nat) : EvS w k n s A l c (x.drewN q) := ⟨h.1.drewN q, h.2.1.drewN q, h.2.2.trans (below_drewN _ _ _)⟩
theorem EvLoop.step0 {S : World → Prop} {W : World} (hS : S W) {t : List UInt8} {l : Nat} (hA : (0 < 0 → ¬ (t = [33] ∧ l = 0)) ∧ (1 < 0 → ¬ (t = [116, 114, 117, 101] ∧ l = 0)) ∧ (2 < 0 → ¬ (t = [102, 97, 105, 108] ∧ l = 0)) ∧ (3 < 0 → ¬ (t = [101, 113] ∧ l = 2)) ∧ (4 < 0 → ¬ (t = [108, 101, 115, 115] ∧ l = 2)) ∧ (5 < 0 → ¬ (t = [97, 100, 100] ∧ l = 3))) (h : ¬ (t = [33] ∧ l = 0)) : EvLoop S t l 5 (.int .i64 1) W := by
  obtain ⟨hA0, hA1, hA2, hA3, hA4, hA5⟩ := hA
  exact ⟨1, by omega, rfl, rfl, hS, fun _ => h, fun hh => absurd hh (by omega), fun hh => absurd hh (by omega), fun hh => absurd hh (by omega), fun hh => absurd hh (by omega), fun hh => absurd hh (by omega)⟩
theorem EvLoop.step1 {S : World → Prop} {W : World} (hS : S W) {t : List UInt8} {l : Nat} (hA : (0 < 1 → ¬ (t = [33] ∧ l = 0)) ∧ (1 < 1 → ¬ (t = [116, 114, 117, 101] ∧ l = 0)) ∧ (2 < 1 → ¬ (t = [102, 97, 105, 108] ∧ l = 0)) ∧ (3 < 1 → ¬ (t = [101, 113] ∧ l = 2)) ∧ (4 < 1 → ¬ (t = [108, 101, 115, 115] ∧ l = 2)) ∧ (5 < 1 → ¬ (t = [97, 100, 100] ∧ l = 3))) (h : ¬ (t = [116, 114, 117, 101] ∧ l = 0)) : EvLoop S t l 4 (.int .i64 2) W := by
  obtain ⟨hA0, hA1, hA2, hA3, hA4, hA5⟩ := hA
  exact ⟨2, by omega, rfl, rfl, hS, fun _ => hA0 (by omega), fun _ => h, fun hh => absurd hh (by omega), fun hh => absurd hh (by omega), fun hh => absurd hh (by omega), fun hh => absurd hh (by omega)⟩
theorem EvLoop.step2 {S : World → Prop} {W : World} (hS : S W) {t : List UInt8} {l : Nat} (hA : (0 < 2 → ¬ (t = [33] ∧ l = 0)) ∧ (1 < 2 → ¬ (t = [116, 114, 117, 101] ∧ l = 0)) ∧ (2 < 2 → ¬ (t = [102, 97, 105, 108] ∧ l = 0)) ∧ (3 < 2 → ¬ (t = [101, 113] ∧ l = 2)) ∧ (4 < 2 → ¬ (t = [108, 101, 115, 115] ∧ l = 2)) ∧ (5 < 2 → ¬ (t = [97, 100, 100] ∧ l = 3))) (h : ¬ (t = [102, 97, 105, 108] ∧ l = 0)) : EvLoop S t l 3 (.int .i64 3) W := by
  obtain ⟨hA0, hA1, hA2, hA3, hA4, hA5⟩ := hA
  exact ⟨3, by omega, rfl, rfl, hS, fun _ => hA0 (by omega), fun _ => hA1 (by omega), fun _ => h, fun hh => absurd hh (by omega), fun hh => absurd hh (by omega), fun hh => absurd hh (by omega)⟩
theorem EvLoop.step3 {S : World → Prop} {W : World} (hS : S W) {t : List UInt8} {l : Nat} (hA : (0 < 3 → ¬ (t = [33] ∧ l = 0)) ∧ (1 < 3 → ¬ (t = [116, 114, 117, 101] ∧ l = 0)) ∧ (2 < 3 → ¬ (t = [102, 97, 105, 108] ∧ l = 0)) ∧ (3 < 3 → ¬ (t = [101, 113] ∧ l = 2)) ∧ (4 < 3 → ¬ (t = [108, 101, 115, 115] ∧ l = 2)) ∧ (5 < 3 → ¬ (t = [97, 100, 100] ∧ l = 3))) (h : ¬ (t = [101, 113] ∧ l = 2)) : EvLoop S t l 2 (.int .i64 4) W := by
  obtain ⟨hA0, hA1, hA2, hA3, hA4, hA5⟩ := hA
  exact ⟨4, by omega, rfl, rfl, hS, fun _ => hA0 (by omega), fun _ => hA1 (by omega), fun _ => hA2 (by omega), fun _ => h, fun hh => absurd hh (by omega), fun hh => absurd hh (by omega)⟩
theorem EvLoop.step4 {S : World → Prop} {W : World} (hS : S W) {t : List UInt8} {l : Nat} (hA : (0 < 4 → ¬ (t = [33] ∧ l = 0)) ∧ (1 < 4 → ¬ (t = [116, 114, 117, 101] ∧ l = 0)) ∧ (2 < 4 → ¬ (t = [102, 97, 105, 108] ∧ l = 0)) ∧ (3 < 4 → ¬ (t = [101, 113] ∧ l = 2)) ∧ (4 < 4 → ¬ (t = [108, 101, 115, 115] ∧ l = 2)) ∧ (5 < 4 → ¬ (t = [97, 100, 100] ∧ l = 3))) (h : ¬ (t = [108, 101, 115, 115] ∧ l = 2)) : EvLoop S t l 1 (.int .i64 5) W := by
  obtain ⟨hA0, hA1, hA2, hA3, hA4, hA5⟩ := hA
  exact ⟨5, by omega, rfl, rfl, hS, fun _ => hA0 (by omega), fun _ => hA1 (by omega), fun _ => hA2 (by omega), fun _ => hA3 (by omega), fun _ => h, fun hh => absurd hh (by omega)⟩
theorem EvLoop.step5 {S : World → Prop} {W : World} (hS : S W) {t : List UInt8} {l : Nat} (hA : (0 < 5 → ¬ (t = [33] ∧ l = 0)) ∧ (1 < 5 → ¬ (t = [116, 114, 117, 101] ∧ l = 0)) ∧ (2 < 5 → ¬ (t = [102, 97, 105, 108] ∧ l = 0)) ∧ (3 < 5 → ¬ (t = [101, 113] ∧ l = 2)) ∧ (4 < 5 → ¬ (t = [108, 101, 115, 115] ∧ l = 2)) ∧ (5 < 5 → ¬ (t = [97, 100, 100] ∧ l = 3))) (h : ¬ (t = [97, 100, 100] ∧ l = 3)) : EvLoop S t l 0 (.int .i64 6) W := by
  obtain ⟨hA0, hA1, hA2, hA3, hA4, hA5⟩ := hA
  exact ⟨6, by omega, rfl, rfl, hS, fun _ => hA0 (by omega), fun _ => hA1 (by omega), fun _ => hA2 (by omega), fun _ => hA3 (by omega), fun _ => hA4 (by omega), fun _ => h⟩
theorem built_none {t : List UInt8} {l : Nat} (hA : (0 < 6 → ¬ (t = [33] ∧ l = 0)) ∧ (1 < 6 → ¬ (t = [116, 114, 117, 101] ∧ l = 0)) ∧ (2 < 6 → ¬ (t = [102, 97, 105, 108] ∧ l = 0)) ∧ (3 < 6 → ¬ (t = [101, 113] ∧ l = 2)) ∧ (4 < 6 → ¬ (t = [108, 101, 115, 115] ∧ l = 2)) ∧ (5 < 6 → ¬ (t = [97, 100, 100] ∧ l = 3))) : builtB t l = false := by
  obtain ⟨h0, h1, h2, h3, h4, h5⟩ := hA
  unfold builtB
  repeat' split
  all_goals simp_all

set_option maxHeartbeats 2000000 in
theorem everybody_any (k n : Int) (s : ByteArray) (A : Option Addr) (l c : Nat) (w : World) : Calls Tryz.prog 43 #[.agg #[.int .i64 k, .int .i64 n, .string s, .slice A l c]] w fun e w' => e = .returned (.bool (builtB s.toList l)) ∧ Below w.heap.size w w' := by
  generalize hr : builtB s.toList l = rb
  have R := Lib.hid hr
  clear hr
  go_enter Tryz.func43, Tryz.ntmps43
  go_wp2_with fail
  have bT := (Plot.new w 31 #[.int .i64 k, .int .i64 n, .string s, .slice A l c]).alloc (.cells #[.string ⟨#[33, 47, 48]⟩, .string ⟨#[116, 114, 117, 101, 47, 48]⟩, .string ⟨#[102, 97, 105, 108, 47, 48]⟩, .string ⟨#[101, 113, 47, 50]⟩, .string ⟨#[108, 101, 115, 115, 47, 50]⟩, .string ⟨#[97, 100, 100, 47, 51]⟩] 9)
  have bS := Plot.new (w.alloc (.cells #[.int .i64 k, .int .i64 n, .string s, .slice A l c] 31)) 9 #[.string ⟨#[33, 47, 48]⟩, .string ⟨#[116, 114, 117, 101, 47, 48]⟩, .string ⟨#[102, 97, 105, 108, 47, 48]⟩, .string ⟨#[101, 113, 47, 50]⟩, .string ⟨#[108, 101, 115, 115, 47, 50]⟩, .string ⟨#[97, 100, 100, 47, 51]⟩]
  have hB : Below w.heap.size w ((w.alloc (.cells #[.int .i64 k, .int .i64 n, .string s, .slice A l c] 31)).alloc (.cells #[.string ⟨#[33, 47, 48]⟩, .string ⟨#[116, 114, 117, 101, 47, 48]⟩, .string ⟨#[102, 97, 105, 108, 47, 48]⟩, .string ⟨#[101, 113, 47, 50]⟩, .string ⟨#[108, 101, 115, 115, 47, 50]⟩, .string ⟨#[97, 100, 100, 47, 51]⟩] 9)) := ((Below.refl _ _).alloc (Nat.le_refl _) _).alloc (by simp) _
  simp only [World.size_alloc] at bS
  generalize ((w.alloc (.cells #[.int .i64 k, .int .i64 n, .string s, .slice A l c] 31)).alloc (.cells #[.string ⟨#[33, 47, 48]⟩, .string ⟨#[116, 114, 117, 101, 47, 48]⟩, .string ⟨#[102, 97, 105, 108, 47, 48]⟩, .string ⟨#[101, 113, 47, 50]⟩, .string ⟨#[108, 101, 115, 115, 47, 50]⟩, .string ⟨#[97, 100, 100, 47, 51]⟩] 9)) = W at *
  have h0 : EvLoop (EvS w k n s A l c) s.toList l 6 (.int .i64 0) W := ⟨0, Nat.zero_le _, rfl, rfl, ⟨bT, bS, hB⟩, fun h => absurd h (by omega), fun h => absurd h (by omega), fun h => absurd h (by omega), fun h => absurd h (by omega), fun h => absurd h (by omega), fun h => absurd h (by omega)⟩
  clear bT bS hB
  go_loopg [8] 6 (EvLoop (EvS w k n s A l c) s.toList l)
  case atStart => exact h0
  case round =>
    obtain ⟨i, hi, hg, rfl, hS, hA⟩ := hrel
    have HA := Lib.hid hA
    have HG := Lib.hid hg
    clear hA hg h0
    have hB := hS.2.2
    obtain ⟨p0, p1, p2, p3, _⟩ := hS.1.four
    have q0 := hS.2.1.cell 0
    have q1 := hS.2.1.cell 1
    have q2 := hS.2.1.cell 2
    have q3 := hS.2.1.cell 3
    have q4 := hS.2.1.cell 4
    have q5 := hS.2.1.cell 5
    simp at q0 q1 q2 q3 q4 q5
    have HS := Lib.hid hS
    clear hS
    have x0 : ((⟨#[33, 47, 48]⟩ : ByteArray).extract 0 1).toList = [33] := by rw [ByteArray.toList_eq]; rfl
    have x1 : ((⟨#[116, 114, 117, 101, 47, 48]⟩ : ByteArray).extract 0 4).toList = [116, 114, 117, 101] := by rw [ByteArray.toList_eq]; rfl
    have x2 : ((⟨#[102, 97, 105, 108, 47, 48]⟩ : ByteArray).extract 0 4).toList = [102, 97, 105, 108] := by rw [ByteArray.toList_eq]; rfl
    have x3 : ((⟨#[101, 113, 47, 50]⟩ : ByteArray).extract 0 2).toList = [101, 113] := by rw [ByteArray.toList_eq]; rfl
    have x4 : ((⟨#[108, 101, 115, 115, 47, 50]⟩ : ByteArray).extract 0 4).toList = [108, 101, 115, 115] := by rw [ByteArray.toList_eq]; rfl
    have x5 : ((⟨#[97, 100, 100, 47, 51]⟩ : ByteArray).extract 0 3).toList = [97, 100, 100] := by rw [ByteArray.toList_eq]; rfl
    have y0 : ((⟨#[33, 47, 48]⟩ : ByteArray)[2]'(by decide)).toNat = 48 := rfl
    have y1 : ((⟨#[116, 114, 117, 101, 47, 48]⟩ : ByteArray)[5]'(by decide)).toNat = 48 := rfl
    have y2 : ((⟨#[102, 97, 105, 108, 47, 48]⟩ : ByteArray)[5]'(by decide)).toNat = 48 := rfl
    have y3 : ((⟨#[101, 113, 47, 50]⟩ : ByteArray)[3]'(by decide)).toNat = 50 := rfl
    have y4 : ((⟨#[108, 101, 115, 115, 47, 50]⟩ : ByteArray)[5]'(by decide)).toNat = 50 := rfl
    have y5 : ((⟨#[97, 100, 100, 47, 51]⟩ : ByteArray)[4]'(by decide)).toNat = 51 := rfl
    have hi' : i = 0 ∨ i = 1 ∨ i = 2 ∨ i = 3 ∨ i = 4 ∨ i = 5 ∨ i = 6 := by omega
    rcases hi' with rfl | rfl | rfl | rfl | rfl | rfl | rfl
    · by_cases ht : s.toList = [33]
      · have hte : (s.toList == [33]) = true := by simpa using ht
        by_cases hl : l = 0
        · subst hl
          have HT := Lib.hid ht
          go_wp2_with fail
          go_quiet (fail)
          go_wp2_with fail
          go_ret
          exact ⟨by rw [← R.out, HT.out]; rfl, hB.trans (below_drewN _ _ _)⟩
        · have hlz : ((l : Int) == 0) = false := by simp; omega
          have HN : Hid (¬ (s.toList = [33] ∧ l = 0)) := Lib.hid fun h => hl h.2
          clear hl
          go_wp2_with fail
          go_quiet (fail)
          go_wp2_with fail
          go_roundg 5
          case measure => rw [HG.out]; omega
          case rel => exact EvLoop.step0 (HS.out.drewN _) HA.out HN.out
      · have hte : (s.toList == [33]) = false := by simpa using ht
        have HN : Hid (¬ (s.toList = [33] ∧ l = 0)) := Lib.hid fun h => ht h.1
        clear ht
        go_wp2_with fail
        go_quiet (fail)
        go_wp2_with fail
        go_roundg 5
        case measure => rw [HG.out]; omega
        case rel => exact EvLoop.step0 (HS.out.drewN _) HA.out HN.out
    · by_cases ht : s.toList = [116, 114, 117, 101]
      · have hte : (s.toList == [116, 114, 117, 101]) = true := by simpa using ht
        by_cases hl : l = 0
        · subst hl
          have HT := Lib.hid ht
          go_wp2_with fail
          go_quiet (fail)
          go_wp2_with fail
          go_ret
          exact ⟨by rw [← R.out, HT.out]; rfl, hB.trans (below_drewN _ _ _)⟩
        · have hlz : ((l : Int) == 0) = false := by simp; omega
          have HN : Hid (¬ (s.toList = [116, 114, 117, 101] ∧ l = 0)) := Lib.hid fun h => hl h.2
          clear hl
          go_wp2_with fail
          go_quiet (fail)
          go_wp2_with fail
          go_roundg 4
          case measure => rw [HG.out]; omega
          case rel => exact EvLoop.step1 (HS.out.drewN _) HA.out HN.out
      · have hte : (s.toList == [116, 114, 117, 101]) = false := by simpa using ht
        have HN : Hid (¬ (s.toList = [116, 114, 117, 101] ∧ l = 0)) := Lib.hid fun h => ht h.1
        clear ht
        go_wp2_with fail
        go_quiet (fail)
        go_wp2_with fail
        go_roundg 4
        case measure => rw [HG.out]; omega
        case rel => exact EvLoop.step1 (HS.out.drewN _) HA.out HN.out
    · by_cases ht : s.toList = [102, 97, 105, 108]
      · have hte : (s.toList == [102, 97, 105, 108]) = true := by simpa using ht
        by_cases hl : l = 0
        · subst hl
          have HT := Lib.hid ht
          go_wp2_with fail
          go_quiet (fail)
          go_wp2_with fail
          go_ret
          exact ⟨by rw [← R.out, HT.out]; rfl, hB.trans (below_drewN _ _ _)⟩
        · have hlz : ((l : Int) == 0) = false := by simp; omega
          have HN : Hid (¬ (s.toList = [102, 97, 105, 108] ∧ l = 0)) := Lib.hid fun h => hl h.2
          clear hl
          go_wp2_with fail
          go_quiet (fail)
          go_wp2_with fail
          go_roundg 3
          case measure => rw [HG.out]; omega
          case rel => exact EvLoop.step2 (HS.out.drewN _) HA.out HN.out
      · have hte : (s.toList == [102, 97, 105, 108]) = false := by simpa using ht
        have HN : Hid (¬ (s.toList = [102, 97, 105, 108] ∧ l = 0)) := Lib.hid fun h => ht h.1
        clear ht
        go_wp2_with fail
        go_quiet (fail)
        go_wp2_with fail
        go_roundg 3
        case measure => rw [HG.out]; omega
        case rel => exact EvLoop.step2 (HS.out.drewN _) HA.out HN.out
    · by_cases ht : s.toList = [101, 113]
      · have hte : (s.toList == [101, 113]) = true := by simpa using ht
        by_cases hl : l = 2
        · subst hl
          have HT := Lib.hid ht
          go_wp2_with fail
          go_quiet (fail)
          go_wp2_with fail
          go_ret
          exact ⟨by rw [← R.out, HT.out]; rfl, hB.trans (below_drewN _ _ _)⟩
        · have hlz : ((l : Int) == 2) = false := by simp; omega
          have HN : Hid (¬ (s.toList = [101, 113] ∧ l = 2)) := Lib.hid fun h => hl h.2
          clear hl
          go_wp2_with fail
          go_quiet (fail)
          go_wp2_with fail
          go_roundg 2
          case measure => rw [HG.out]; omega
          case rel => exact EvLoop.step3 (HS.out.drewN _) HA.out HN.out
      · have hte : (s.toList == [101, 113]) = false := by simpa using ht
        have HN : Hid (¬ (s.toList = [101, 113] ∧ l = 2)) := Lib.hid fun h => ht h.1
        clear ht
        go_wp2_with fail
        go_quiet (fail)
        go_wp2_with fail
        go_roundg 2
        case measure => rw [HG.out]; omega
        case rel => exact EvLoop.step3 (HS.out.drewN _) HA.out HN.out
    · by_cases ht : s.toList = [108, 101, 115, 115]
      · have hte : (s.toList == [108, 101, 115, 115]) = true := by simpa using ht
        by_cases hl : l = 2
        · subst hl
          have HT := Lib.hid ht
          go_wp2_with fail
          go_quiet (fail)
          go_wp2_with fail
          go_ret
          exact ⟨by rw [← R.out, HT.out]; rfl, hB.trans (below_drewN _ _ _)⟩
        · have hlz : ((l : Int) == 2) = false := by simp; omega
          have HN : Hid (¬ (s.toList = [108, 101, 115, 115] ∧ l = 2)) := Lib.hid fun h => hl h.2
          clear hl
          go_wp2_with fail
          go_quiet (fail)
          go_wp2_with fail
          go_roundg 1
          case measure => rw [HG.out]; omega
          case rel => exact EvLoop.step4 (HS.out.drewN _) HA.out HN.out
      · have hte : (s.toList == [108, 101, 115, 115]) = false := by simpa using ht
        have HN : Hid (¬ (s.toList = [108, 101, 115, 115] ∧ l = 2)) := Lib.hid fun h => ht h.1
        clear ht
        go_wp2_with fail
        go_quiet (fail)
        go_wp2_with fail
        go_roundg 1
        case measure => rw [HG.out]; omega
        case rel => exact EvLoop.step4 (HS.out.drewN _) HA.out HN.out
    · by_cases ht : s.toList = [97, 100, 100]
      · have hte : (s.toList == [97, 100, 100]) = true := by simpa using ht
        by_cases hl : l = 3
        · subst hl
          have HT := Lib.hid ht
          go_wp2_with fail
          go_quiet (fail)
          go_wp2_with fail
          go_ret
          exact ⟨by rw [← R.out, HT.out]; rfl, hB.trans (below_drewN _ _ _)⟩
        · have hlz : ((l : Int) == 3) = false := by simp; omega
          have HN : Hid (¬ (s.toList = [97, 100, 100] ∧ l = 3)) := Lib.hid fun h => hl h.2
          clear hl
          go_wp2_with fail
          go_quiet (fail)
          go_wp2_with fail
          go_roundg 0
          case measure => rw [HG.out]; omega
          case rel => exact EvLoop.step5 (HS.out.drewN _) HA.out HN.out
      · have hte : (s.toList == [97, 100, 100]) = false := by simpa using ht
        have HN : Hid (¬ (s.toList = [97, 100, 100] ∧ l = 3)) := Lib.hid fun h => ht h.1
        clear ht
        go_wp2_with fail
        go_quiet (fail)
        go_wp2_with fail
        go_roundg 0
        case measure => rw [HG.out]; omega
        case rel => exact EvLoop.step5 (HS.out.drewN _) HA.out HN.out
    · go_wp2_with fail
      go_ret
      refine ⟨?_, hB⟩
      rw [← R.out, built_none HA.out]; rfl
end Go.Proofs.YtdiophafmokfiaaGreatDoor
namespace Go.Proofs.YtdiophafmokfiaaGreatDoor
open Go.RowKit

/-- The two variables that the visitor knows: how many nodes are left, and itself. -/
structure VS (lb vb : Nat) (L : Nat) (w : World) : Prop where
  left : Plot w lb 3 #[.int .i64 L]
  fn : Plot w vb 76 #[.func (.func 80) #[] #[.pointer (some ⟨lb, 0, none⟩), .pointer (some ⟨vb, 0, none⟩)]]
  ne : vb ≠ lb
theorem VS.far {lb vb L : Nat} {w w' : World} (h : VS lb vb L w) (hb : Below w.heap.size w w') : VS lb vb L w' := ⟨h.left.below hb, h.fn.below hb, h.ne⟩

def VisitSaid (T : Ts) : Prop := ∀ (k n : Int) (s : ByteArray) (v : Value) (L lb vb B : Nat) (w : World), Sl w (fun k => k < B) v T → B ≤ lb → VS lb vb L w → L ≤ 24 → T.nodes ≤ 1048576 →
    Calls Tryz.prog 80 #[.agg #[.int .i64 k, .int .i64 n, .string s, v], .pointer (some ⟨lb, 0, none⟩), .pointer (some ⟨vb, 0, none⟩)] w fun e w' =>
      e = .returned (.bool (decide (T.nodes + 1 ≤ L))) ∧ (T.nodes + 1 ≤ L → VS lb vb (L - (T.nodes + 1)) w') ∧ Chg (fun k => k = lb) w w'

def VtLoop (w : World) (T : Ts) (L lb vb : Nat) (g : Nat) (sx : Value) (wr : World) : Prop := ∃ D R : Ts, T = D.app R ∧ g = R.length ∧ sx = .int .i64 D.length ∧ D.nodes + 1 ≤ L ∧ VS lb vb (L - (D.nodes + 1)) wr ∧ Chg (fun k => k = lb) w wr

set_option maxHeartbeats 1000000 in
theorem visit_of (m : Nat) (ih : ∀ T : Ts, T.nodes < m → VisitSaid T) (T : Ts) (hm : T.nodes ≤ m) : VisitSaid T := by
  intro k n s v L lb vb B w hv hBl hvs hL hn
  obtain ⟨A, c, rfl, hs⟩ := hv.form
  have hle := T.length_le
  have hW : Below w.heap.size w (w.alloc (.cells #[.int .i64 k, .int .i64 n, .string s, .slice A T.length c] 31)) := (Below.refl _ _).alloc (Nat.le_refl _) _
  have hvs1 := hvs.far hW
  have hs1 := hs.below hW
  have bA := Plot.new w 31 #[.int .i64 k, .int .i64 n, .string s, .slice A T.length c]
  have l0 := hvs1.left.cell 0
  have lf := hvs1.left.frozen 0
  simp at l0
  have hlt := hvs.left.lt
  by_cases hL0 : L = 0
  · subst hL0
    go_enter Tryz.func80, Tryz.ntmps80
    go_wp2_with fail
    go_ret
    exact ⟨rfl, fun h => absurd h (by omega), Chg.of_fresh hW⟩
  have hL1 : 0 < L := by omega
  obtain ⟨p0, p1, p2, p3, _⟩ := bA.four
  have hne : w.heap.size ≠ lb := by omega
  go_enter Tryz.func80, Tryz.ntmps80
  go_wp2_with fail
  have hstart : VS lb vb (L - 1) ((w.setCell ⟨lb, 0, none⟩ (.int .i64 ((L : Int) - 1))).alloc (.cells #[.int .i64 k, .int .i64 n, .string s, .slice A T.length c] 31)) := by
    refine ⟨?_, ?_, hvs.ne⟩
    · have h1 := (hvs.left.set_ 0 (.int .i64 ((L : Int) - 1))).alloc (.cells #[.int .i64 k, .int .i64 n, .string s, .slice A T.length c] 31)
      rw [show ((L - 1 : Nat) : Int) = (L : Int) - 1 by omega]
      exact h1
    · exact (hvs.fn.far (p := ⟨lb, 0, none⟩) hvs.ne _).alloc _
  have hchg : Chg (fun k => k = lb) w ((w.setCell ⟨lb, 0, none⟩ (.int .i64 ((L : Int) - 1))).alloc (.cells #[.int .i64 k, .int .i64 n, .string s, .slice A T.length c] 31)) :=
    ((Chg.refl (fun k => k = lb) w).setCell (p := ⟨lb, 0, none⟩) (fun _ => rfl) _).alloc _
  have hcall : ∀ (args : Array Value) (x : World), (callFunc 80 args).run Tryz.prog x = .ok (.enter 80 args) x := fun args x => by simp [go_sem]
  generalize ((w.setCell ⟨lb, 0, none⟩ (.int .i64 ((L : Int) - 1))).alloc (.cells #[.int .i64 k, .int .i64 n, .string s, .slice A T.length c] 31)) = W at *
  have h0 : VtLoop w T L lb vb T.length (.int .i64 0) W := ⟨.nil, T, rfl, rfl, rfl, hL1, hstart, hchg⟩
  clear hstart hchg hvs1 bA p0 p1 p2 p3 hne l0 lf hs1 hW
  go_loopg [14] T.length (VtLoop w T L lb vb)
  case atStart => exact h0
  case round =>
    clear h0
    obtain ⟨D, R, hT, hg, rfl, hD, hvr, hc⟩ := hrel
    have HT := Lib.hid hT
    have HG := Lib.hid hg
    clear hT hg
    have hsr : Sl wr (fun k => k < B) (.slice A T.length c) T := hs.chg hc fun k hk => by omega
    cases R with
    | nil =>
      have eD : D = T := by rw [HT.out, Ts.app_nil]
      subst eD
      go_wp2_with fail
      go_ret
      refine ⟨?_, fun _ => hvr, hc⟩
      rw [decide_eq_true hD]; rfl
    | cons k1 n1 s1 ar r =>
      have e1 : D.length < T.length := by rw [HT.out, Ts.length_app]; simp [Ts.length]
      have hnod : T.nodes = D.nodes + (1 + ar.nodes + r.nodes) := by rw [HT.out, Ts.nodes_app]; simp only [Ts.nodes]; omega
      rw [HT.out] at hsr
      rw [show (D.app (.cons k1 n1 s1 ar r)).length = T.length by rw [← HT.out]] at hsr
      obtain ⟨b1, o1, rfl, hq1⟩ := Sl.at_ hsr (by simp [Ts.length])
      obtain ⟨_, c10, c11, c12, ⟨v1, c13, hv1⟩, _⟩ := seg_cons.1 hq1
      obtain ⟨A1, d1, rfl, hv1⟩ := hv1.form
      clear hq1 hsr
      have hX : Below wr.heap.size wr (wr.alloc (.cells #[.int .i64 k1, .int .i64 n1, .string s1, .slice A1 ar.length d1] 31)) := (Below.refl _ _).alloc (Nat.le_refl _) _
      have hvx := hvr.far hX
      have f0 := hvx.fn.cell 0
      simp at f0
      go_wp2_with fail
      have e2 : ar.nodes < m := by omega
      refine (ih ar e2 k1 n1 s1 _ (L - (D.nodes + 1)) lb vb B _ (hv1.below hX) hBl hvx (by omega) (by omega)).mono ?_
      rintro e w2 ⟨rfl, hok, hc2⟩
      have hc3 : Chg (fun k => k = lb) w w2 := (hc.trans (Chg.of_fresh (S := fun k => k = lb) hX) fun _ _ h => h).trans hc2 fun _ _ h => h
      by_cases hx : ar.nodes + 1 ≤ L - (D.nodes + 1)
      · have hok := hok hx
        rw [decide_eq_true hx]
        have hnx : Hid (VS lb vb (L - ((D.app (.cons k1 n1 s1 ar .nil)).nodes + 1)) w2) := Lib.hid (by
          rw [Ts.nodes_app]
          simp only [Ts.nodes]
          rw [show L - (D.nodes + (ar.nodes + 0 + 1) + 1) = L - (D.nodes + 1) - (ar.nodes + 1) by omega]
          exact hok)
        clear hok
        go_wp2_with fail
        go_roundg r.length
        case measure => rw [HG.out]; simp [Ts.length]
        case rel =>
          refine ⟨D.app (.cons k1 n1 s1 ar .nil), r, ?_, rfl, ?_, ?_, hnx.out, hc3⟩
          · rw [HT.out, Ts.app_assoc]; rfl
          · rw [Ts.length_app]; rfl
          · rw [Ts.nodes_app]; simp only [Ts.nodes]; omega
      · rw [decide_eq_false hx]
        have hbig : Hid (¬ T.nodes + 1 ≤ L) := Lib.hid (by omega)
        clear hok
        go_wp2_with fail
        go_ret
        refine ⟨?_, fun h => absurd h hbig.out, hc3⟩
        rw [decide_eq_false hbig.out]; rfl

theorem visit_said (T : Ts) : VisitSaid T := by
  have : ∀ m, ∀ T : Ts, T.nodes < m → VisitSaid T := by
    intro m
    induction m with
    | zero => intro T h; omega
    | succ m ih => intro T h; exact visit_of m ih T (by omega)
  exact this _ T (Nat.lt_succ_self _)

set_option maxHeartbeats 1000000 in
theorem fits_any (k n : Int) (s : ByteArray) (T : Ts) (v : Value) (w : World) (hv : Sl w (fun _ => True) v T) (hn : T.nodes ≤ 1048576) :
    Calls Tryz.prog 63 #[.agg #[.int .i64 k, .int .i64 n, .string s, v], .int .i64 24] w fun e w' => e = .returned (.bool (decide (T.nodes + 1 ≤ 24))) ∧ Below w.heap.size w w' := by
  obtain ⟨A, c, rfl, hs⟩ := hv.form
  have hs := hs.imp (q := fun k => k < w.heap.size) fun k _ h => h
  have hW : Below w.heap.size w (((w.alloc (.cells #[.int .i64 k, .int .i64 n, .string s, .slice A T.length c] 31)).alloc (.cells #[.int .i64 24] 3)).alloc (.cells #[.func (.func 80) #[] #[.pointer (some ⟨w.heap.size + 1, 0, none⟩), .pointer (some ⟨w.heap.size + 1 + 1, 0, none⟩)]] 76)) := (((Below.refl _ _).alloc (Nat.le_refl _) _).alloc (by simp) _).alloc (by simp; omega) _
  have hst : (store ⟨w.heap.size + 1 + 1, 0, none⟩ (.func (.func 80) #[] #[.pointer (some ⟨w.heap.size + 1, 0, none⟩), .pointer (some ⟨w.heap.size + 1 + 1, 0, none⟩)])).run Tryz.prog (((w.alloc (.cells #[.int .i64 k, .int .i64 n, .string s, .slice A T.length c] 31)).alloc (.cells #[.int .i64 24] 3)).alloc (.cells #[.nilFunc] 76)) =
      .ok () (((w.alloc (.cells #[.int .i64 k, .int .i64 n, .string s, .slice A T.length c] 31)).alloc (.cells #[.int .i64 24] 3)).alloc (.cells #[.func (.func 80) #[] #[.pointer (some ⟨w.heap.size + 1, 0, none⟩), .pointer (some ⟨w.heap.size + 1 + 1, 0, none⟩)]] 76)) := by
    have hb := Plot.new ((w.alloc (.cells #[.int .i64 k, .int .i64 n, .string s, .slice A T.length c] 31)).alloc (.cells #[.int .i64 24] 3)) 76 #[.nilFunc]
    have e := setCell_new ((w.alloc (.cells #[.int .i64 k, .int .i64 n, .string s, .slice A T.length c] 31)).alloc (.cells #[.int .i64 24] 3)) .nilFunc (.func (.func 80) #[] #[.pointer (some ⟨w.heap.size + 1, 0, none⟩), .pointer (some ⟨w.heap.size + 1 + 1, 0, none⟩)]) 76
    have h := run_store_func (P := Tryz.prog) (f := .func 80) (x := #[]) (y := #[.pointer (some ⟨w.heap.size + 1, 0, none⟩), .pointer (some ⟨w.heap.size + 1 + 1, 0, none⟩)]) (hb.cell 0) (hb.frozen 0)
    rw [e] at h
    simpa using h
  have hvs : VS (w.heap.size + 1) (w.heap.size + 1 + 1) 24 (((w.alloc (.cells #[.int .i64 k, .int .i64 n, .string s, .slice A T.length c] 31)).alloc (.cells #[.int .i64 24] 3)).alloc (.cells #[.func (.func 80) #[] #[.pointer (some ⟨w.heap.size + 1, 0, none⟩), .pointer (some ⟨w.heap.size + 1 + 1, 0, none⟩)]] 76)) := by
    refine ⟨?_, ?_, by omega⟩
    · have := (Plot.new (w.alloc (.cells #[.int .i64 k, .int .i64 n, .string s, .slice A T.length c] 31)) 3 #[.int .i64 24]).alloc (.cells #[.func (.func 80) #[] #[.pointer (some ⟨w.heap.size + 1, 0, none⟩), .pointer (some ⟨w.heap.size + 1 + 1, 0, none⟩)]] 76)
      simpa using this
    · have := Plot.new ((w.alloc (.cells #[.int .i64 k, .int .i64 n, .string s, .slice A T.length c] 31)).alloc (.cells #[.int .i64 24] 3)) 76 #[.func (.func 80) #[] #[.pointer (some ⟨w.heap.size + 1, 0, none⟩), .pointer (some ⟨w.heap.size + 1 + 1, 0, none⟩)]]
      simpa using this
  have hcall : ∀ (args : Array Value) (x : World), (callFunc 80 args).run Tryz.prog x = .ok (.enter 80 args) x := fun args x => by simp [go_sem]
  go_enter Tryz.func63, Tryz.ntmps63
  go_wp2_with fail
  refine (visit_said T k n s _ 24 (w.heap.size + 1) (w.heap.size + 1 + 1) w.heap.size _ (hs.below hW) (by omega) hvs (Nat.le_refl _) hn).mono ?_
  rintro e w2 ⟨rfl, _, hc⟩
  generalize hfb : decide (T.nodes + 1 ≤ 24) = fb
  have HFB := Lib.hid hfb
  clear hfb
  go_wp2_with fail
  go_ret
  refine ⟨by rw [HFB.out]; rfl, hW.trans (hc.below (by simp; omega) fun k hk _ => ?_)⟩
  have e : k = w.heap.size + 1 := hk
  omega
end Go.Proofs.YtdiophafmokfiaaGreatDoor
