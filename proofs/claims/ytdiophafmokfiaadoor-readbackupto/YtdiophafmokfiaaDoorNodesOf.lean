/-
  The reference's NodesOf answers how many nodes a term has.
-/
import Derived.Test.YtdiophafmokfiaaDoorPath
import Derived.Test.YtdiophafmokfiaaDoorMix
import Derived.Test.YtdiophafmokfiaaDoorQueue
import Derived.Deep.LoopGhost
namespace Go.Proofs.YtdiophafmokfiaaDoor
open Go.RowKit

def QLoop (w : World) (N : Nat) (g : Nat) (s3 s4 : Value) (wr : World) : Prop := ∃ (Q : Ts) (ao : Option Addr) (b off cap : Nat) (olds : List Value) (c : Nat), s3 = .int .i64 c ∧ c + Q.nodes = N ∧ g = Q.nodes ∧
  s4 = .slice ao Q.length cap ∧ Came wr 4 ao b off Q.length cap olds ∧ Cs wr (fun k => k < w.heap.size) Q olds ∧ (0 < cap → w.heap.size ≤ b) ∧ Below w.heap.size w wr

set_option maxRecDepth 100000 in
set_option maxHeartbeats 1000000 in
theorem nodesOf_any (k n : Int) (s : ByteArray) (T : Ts) (v : Value) (w : World) (hv : Sl w (fun _ => True) v T) (hn : T.nodes < 1048576) :
    Calls Tryd.prog 13 #[.agg #[.int .i64 k, .int .i64 n, .string s, v]] w fun e w' => e = .returned (.int .i64 (T.nodes + 1 : Nat)) ∧ Below w.heap.size w w' := by
  obtain ⟨A, c, rfl, hs⟩ := hv.form
  obtain ⟨i0, hi0, hz0, hz1, hz2⟩ := info_parts info_term
  go_enter Tryd.func13, Tryd.ntmps13
  go_wp2_with fail
  have bA := Plot.new w 24 #[.int .i64 k, .int .i64 n, .string s, .slice A T.length c]
  have hW0 : Below w.heap.size w (w.alloc (.cells #[.int .i64 k, .int .i64 n, .string s, .slice A T.length c] 24)) := (Below.refl _ _).alloc (Nat.le_refl _) _
  generalize (w.alloc (.cells #[.int .i64 k, .int .i64 n, .string s, .slice A T.length c] 24)) = W0 at *
  refine wp_region_ord (fun ws => Plot ws w.heap.size 24 #[.int .i64 k, .int .i64 n, .string s, .slice A T.length c])
    3 [(0, true), (2, true), (1, false)] (by kernel_rfl) (by kernel_rfl) bA.drew ?_
  iterate 2
    refine wpOrd_read rfl rfl ⟨?_, fun w' hS => ?_, fun _ _ _ h => h, ?_⟩
    rotate_left
    · obtain ⟨p0, p1, p2, p3, _⟩ := hS.four
      clear hS
      go_simp
      exact rfl
  refine wpOrd_run rfl ?_
  go_wp2_with fail
  refine ⟨bA.drew.alloc _, ?_⟩
  simp only [wpOrd, List.drop_succ_cons, List.drop_zero]
  go_wp2_with fail
  have h0 : QLoop w (T.nodes + 1) (T.nodes + 1) (.int .i64 0) (.slice (some ⟨W0.heap.size, 0, none⟩) 1 1) (W0.alloc (.cells #[.int .i64 k, .int .i64 n, .string s, .slice A T.length c] 24)).drew := by
    have hz := hW0.size
    have hb1 : Below w.heap.size w (W0.alloc (.cells #[.int .i64 k, .int .i64 n, .string s, .slice A T.length c] 24)).drew := (hW0.alloc hz _).drew
    have bB := (Plot.new W0 24 #[.int .i64 k, .int .i64 n, .string s, .slice A T.length c]).drew
    refine ⟨.cons k n s T .nil, _, W0.heap.size, 0, 1, [.int .i64 k, .int .i64 n, .string s, .slice A T.length c], 0, rfl, by simp [Ts.nodes], by simp [Ts.nodes], rfl, ?_, ⟨_, [], rfl, ?_, rfl⟩, fun _ => hz, hb1⟩
    · refine ⟨Nat.le_refl _, fun _ => rfl, fun _ => bB.lt, rfl, fun j u hu => ?_, fun j hj => by simp [Ts.length] at hj⟩
      rw [Nat.zero_add, bB.cell j]
      simpa using hu
    · exact (hs.imp (q := fun k => k < w.heap.size) fun k _ h => h).below hb1
  have hN : T.nodes + 1 ≤ 1048576 := hn
  generalize hNN : T.nodes + 1 = N at *
  have HNN := Lib.hid hNN
  clear hNN
  generalize (W0.alloc (.cells #[.int .i64 k, .int .i64 n, .string s, .slice A T.length c] 24)).drew = W1 at *
  go_loopg [3, 4] N (QLoop w N)
  case atStart => exact h0
  case round =>
    clear h0 bA hW0
    obtain ⟨Q, ao, b, off, cap, olds, cn, rfl, hcn, hg, rfl, hcm, hcs, hbb, hB⟩ := hrel
    have hQ : Q.nodes ≤ N := by omega
    have hQl := Q.length_le
    have HG := Lib.hid hg
    clear hg
    cases Q with
    | nil =>
      go_wp2_with fail
      go_ret
      refine ⟨?_, hB⟩
      rw [HNN.out, ← hcn]; rfl
    | cons k1 n1 s1 ar r =>
      obtain ⟨u, xs, rfl, hu, hxs⟩ := hcs
      obtain ⟨Au, cu, rfl, hu⟩ := hu.form
      have hcp : 0 < cap := by have := hcm.le; simp [Ts.length] at this; omega
      have hao := hcm.addr hcp
      subst hao
      have hblt := hcm.lt hcp
      have c10 : wr.cell? ⟨b, off, none⟩ = some (.int .i64 k1) := hcm.olds 0 _ rfl
      have c11 : wr.cell? ⟨b, off + 1, none⟩ = some (.int .i64 n1) := hcm.olds 1 _ rfl
      have c12 : wr.cell? ⟨b, off + 2, none⟩ = some (.string s1) := hcm.olds 2 _ rfl
      have c13 : wr.cell? ⟨b, off + 3, none⟩ = some (.slice Au ar.length cu) := hcm.olds 3 _ rfl
      have hlc : r.length + 1 ≤ cap := hcm.le
      have hl1 : (Ts.cons k1 n1 s1 ar r).length = r.length + 1 := rfl
      rw [hl1]
      have h1c : (1 : Int) ≤ (r.length : Int) + 1 := by omega
      have hcm1 : Came wr 4 (if cap = 1 then some ⟨b, off, none⟩ else some ⟨b, off + 4, none⟩) b (off + 4) r.length (cap - 1) xs := by
        have hol := hcm.oldsLen
        simp only [List.length_cons, hl1] at hol
        refine ⟨by omega, fun h => by rw [if_neg (by omega)], fun _ => hblt, by omega, fun j u hu => ?_, fun j hj => ?_⟩
        · have := hcm.olds (j + 4) u (by simpa using hu)
          rwa [show off + (j + 4) = off + 4 + j by omega] at this
        · have := hcm.spare j (by rw [hl1]; omega)
          rw [hl1] at this
          rwa [show off + 4 + r.length * 4 + j = off + (r.length + 1) * 4 + j by omega]
      go_wp2_with fail
      have bX := Plot.new wr 24 #[.int .i64 k1, .int .i64 n1, .string s1, .slice Au ar.length cu]
      have hX : Below wr.heap.size wr (wr.alloc (.cells #[.int .i64 k1, .int .i64 n1, .string s1, .slice Au ar.length cu] 24)) := (Below.refl _ _).alloc (Nat.le_refl _) _
      generalize (wr.alloc (.cells #[.int .i64 k1, .int .i64 n1, .string s1, .slice Au ar.length cu] 24)) = X at *
      refine wp_region_ord (fun ws => Plot ws wr.heap.size 24 #[.int .i64 k1, .int .i64 n1, .string s1, .slice Au ar.length cu])
        4 [(0, true), (1, true), (2, true), (3, true)] (by kernel_rfl) (by kernel_rfl) bX.drew ?_
      refine wpOrd_read rfl rfl ⟨?_, fun w' hS => ?_, fun _ _ _ h => h, ?_⟩
      rotate_left
      · go_simp
        exact rfl
      refine wpOrd_read rfl rfl ⟨?_, fun w' hS => ?_, fun _ _ _ h => h, ?_⟩
      rotate_left
      · clear hS
        go_simp
        exact rfl
      generalize (if cap = 1 then some (⟨b, off, none⟩ : Addr) else some ⟨b, off + 4, none⟩) = ao' at hcm1 ⊢
      iterate 2
        refine wpOrd_read rfl rfl ⟨?_, fun w' hS => ?_, fun _ _ _ h => h, ?_⟩
        rotate_left
        · obtain ⟨p0, p1, p2, p3, _⟩ := hS.four
          clear hS
          go_simp
          exact rfl
      simp only [wpOrd, List.drop_succ_cons, List.drop_zero]
      have hXd : Below wr.heap.size wr X.drew := hX.drew
      have hz := hB.size
      have hzX := hXd.size
      have hcm2 := came_below hcm1 hXd
      obtain ⟨news, hsrc, hnews⟩ := (hu.below hXd).src (P := Tryd.prog) Tryd.underlying22
      have hxs2 := hxs.below hXd
      have hnod : r.length + ar.length ≤ 1048576 := by
        have h1 := r.length_le
        have h2 := ar.length_le
        simp only [Ts.nodes] at hQ
        omega
      have hBX : Below w.heap.size w X.drew := hB.trans (hXd.mono hz)
      refine wpList_append_came (P := Tryd.prog) X.drew rfl (.tmp 15) (.tmp 17) 22 22 rfl (e := 24) hcm2 i0 _ 56 Tryd.underlying22 hi0 hz0 hz1 hz2 rfl rfl _ ar.length news rfl hsrc (by simp only [maxLen]; omega) (by omega) w.heap.size (fun h => hbb (by omega)) (by omega) ?_
      intro ao2 b2 off2 cap2 w2 hcm3 hbb3 hB3
      go_wp2_with fail
      go_roundg (r.app ar).nodes
      case measure => rw [HG.out]; simp only [Ts.nodes_app, Ts.nodes]; omega
      case rel =>
        refine ⟨r.app ar, ao2, b2, off2, cap2, xs ++ news, cn + 1, ?_, ?_, rfl, ?_, ?_, ?_, hbb3, hBX.trans (hB3.mono (Nat.le_refl _))⟩
        · rfl
        · simp only [Ts.nodes_app]; simp only [Ts.nodes] at hcn; omega
        · rw [Ts.length_app]
        · rw [Ts.length_app]; exact hcm3
        · exact (Cs.app hxs2 hnews).keep fun k hk hl => hB3.block k hk
end Go.Proofs.YtdiophafmokfiaaDoor
