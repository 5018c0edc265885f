/-
  The reference's CopyTerm and CopyTerms answer a fresh copy that reads the same, and turn nothing that was there.
-/
import Derived.Test.YtjicoifjgokoiaaBase
import Derived.Test.YtjicoifjgokoiaaRows
import Derived.Deep.LoopGhost
import Derived.Lib.Hide
namespace Go.Proofs.Ytjicoifjgokoiaa
open Go.RowKit

theorem info_term : (Try.prog.info? 24).map (fun i => (i.zero, i.size, i.bytes)) = some (some (.agg #[.int .i64 0, .int .i64 0, .string .empty, .slice none 0 0]), 4, 56) := by kernel_rfl

def CopySaid (T : Ts) : Prop := ∀ (w : World) (v : Value), Sl w (fun _ => True) v T → T.nodes ≤ 1048576 →
    Calls Try.prog 16 #[v] w fun e w' => ∃ v', e = .returned v' ∧ Sl w' (fun k => w.heap.size ≤ k) v' T ∧ Below w.heap.size w w'

set_option maxHeartbeats 400000 in
theorem copyTerm_of {ar : Ts} (ih : CopySaid ar) (hn : ar.nodes ≤ 1048576) (k n : Int) (s : ByteArray) (v : Value) (w : World) (hv : Sl w (fun _ => True) v ar) :
    Calls Try.prog 12 #[.agg #[.int .i64 k, .int .i64 n, .string s, v]] w fun e w' => ∃ v', e = .returned (.agg #[.int .i64 k, .int .i64 n, .string s, v']) ∧ Sl w' (fun k => w.heap.size ≤ k) v' ar ∧ Below w.heap.size w w' := by
  go_enter Try.func12, Try.ntmps12
  go_wp2_with fail
  refine (ih _ v ?_ hn).mono ?_
  · exact hv.below (((Below.refl _ _).alloc (Nat.le_refl _) _).alloc (by simp) _)
  rintro e w1 ⟨v', rfl, hv', hb⟩
  obtain ⟨a0, a1, a2, a3, af⟩ := (((Plot.new w 24 #[.int .i64 k, .int .i64 n, .string s, v]).alloc _).below hb).four
  obtain ⟨b0, b1, b2, b3, bf⟩ := ((Plot.new (w.alloc _) 24 _).below hb).four
  simp only [World.size_alloc] at b0 b1 b2 b3 bf
  have hz : w.heap.size + 1 < w1.heap.size := by have := hb.size; simp at this; omega
  obtain ⟨A, c, rfl, h2⟩ := hv'
  go_wp2_with fail
  have hs : Below w.heap.size w (((((w1.setCell ⟨w.heap.size, 3, none⟩ (.slice A ar.length c)).setCell ⟨w.heap.size + 1, 0, none⟩ (.int .i64 k)).setCell ⟨w.heap.size + 1, 1, none⟩ (.int .i64 n)).setCell ⟨w.heap.size + 1, 2, none⟩ (.string s)).setCell ⟨w.heap.size + 1, 3, none⟩ (.slice A ar.length c)) := by
    refine (((((Below.trans ?_ (hb.mono (by simp; omega))).setCell (by simp) _).setCell (by simp) _).setCell (by simp) _).setCell (by simp) _).setCell (by simp) _
    exact ((Below.refl _ _).alloc (Nat.le_refl _) _).alloc (by simp) _
  refine bodyPost_ret (v := .agg #[.int .i64 k, .int .i64 n, .string s, .slice A ar.length c]) (by simp [results, Try.results12, go_sem, b0, b1, b2, b3]) rfl ⟨_, rfl, ?_, hs⟩
  have h3 : Sl w1 (fun k => w.heap.size + 2 ≤ k) (.slice A ar.length c) ar := by
    refine Sl.imp ⟨A, c, rfl, h2⟩ fun k hk _ => ?_
    simp at hk; omega
  refine (h3.keep (w' := _) fun k hk _ => ?_).imp fun k hk _ => by omega
  simp only [World.setCell, Array.getElem?_modify]
  repeat rw [if_neg (by omega)]

def CopyRel (w : World) (T : Ts) (A : Option Addr) (g : Nat) (s3 s8 : Value) (wr : World) : Prop :=
  ∃ (D R : Ts) (xs : List Value), T = D.app R ∧ g = R.length ∧ s8 = .int .i64 D.length ∧ wr.ownsRow w.heap.size 24 4 s3 D.length xs ∧
    Cs wr (fun k => w.heap.size ≤ k ∧ s3.ownBlock ≠ some k) D xs ∧ Below w.heap.size w wr ∧ (0 < R.length → ∃ b o, A = some ⟨b, o, none⟩ ∧ Seg w (fun _ => True) R b (o + 4 * D.length))

theorem CopyRel.start (w : World) (T : Ts) (A : Option Addr) (hs : 0 < T.length → ∃ b o, A = some ⟨b, o, none⟩ ∧ Seg w (fun _ => True) T b o) :
    CopyRel w T A T.length (.slice none 0 0) (.int .i64 0) w :=
  ⟨.nil, T, [], rfl, rfl, rfl, World.ownsRow_nil _ _ _ _, rfl, Below.refl _ _, fun h => by simpa [Ts.length] using hs h⟩

/-- What a round's append does to the relation. W: the world at the append, grown out of the round's own by what CopyTerm made. -/
theorem CopyRel.step {w wr W w3 : World} {T D r : Ts} {A : Option Addr} {u3 v3 : Value} {xs : List Value} {k n : Int} {s : ByteArray} {v : Value} {ar : Ts}
    (hT : T = D.app (.cons k n s ar r)) (hown : wr.ownsRow w.heap.size 24 4 u3 D.length xs)
    (hcs : Cs wr (fun k => w.heap.size ≤ k ∧ u3.ownBlock ≠ some k) D xs) (hb : Below w.heap.size w wr) (hW : Below wr.heap.size wr W)
    (hv : Sl W (fun k => wr.heap.size ≤ k) v ar) (ho3 : w3.ownsRow w.heap.size 24 4 v3 (D.length + 1) (xs ++ [.int .i64 k, .int .i64 n, .string s, v]))
    (hg : W.grownBy w3 u3.ownBlock) (hat : v3.ownBlock = u3.ownBlock ∨ v3.ownBlock = some W.heap.size)
    (hA : ∃ b o, A = some ⟨b, o, none⟩ ∧ Seg w (fun _ => True) (.cons k n s ar r) b (o + 4 * D.length)) :
    CopyRel w T A r.length v3 (.int .i64 ((D.length : Int) + 1)) w3 := by
  have hlt := hown.lt
  have hn : (D.app (.cons k n s ar .nil)).length = D.length + 1 := by rw [Ts.length_app]; rfl
  refine ⟨D.app (.cons k n s ar .nil), r, _, by rw [hT, Ts.app_assoc]; rfl, rfl, by rw [hn]; rfl, by rw [hn]; exact ho3, ?_, ?_, fun _ => ?_⟩
  · have h1 : Cs W (fun k => (w.heap.size ≤ k ∧ v3.ownBlock ≠ some k) ∧ u3.ownBlock ≠ some k) (D.app (.cons k n s ar .nil)) (xs ++ [.int .i64 k, .int .i64 n, .string s, v]) := by
      refine Cs.app ?_ ⟨v, [], rfl, ?_, rfl⟩
      · refine (hcs.imp (q := fun k => (w.heap.size ≤ k ∧ v3.ownBlock ≠ some k) ∧ u3.ownBlock ≠ some k) fun k hk hl => ⟨⟨hk.1, ?_⟩, hk.2⟩).below hW
        rcases hat with e | e <;> rw [e]
        · exact hk.2
        · intro e2; have := hW.size; simp at e2; omega
      · refine hv.imp fun k hk hl => ⟨⟨?_, ?_⟩, ?_⟩
        · have := hb.size; omega
        · rcases hat with e | e <;> rw [e]
          · intro e2; have := (hlt k e2).2; omega
          · intro e2; simp at e2; omega
        · intro e2; have := (hlt k e2).2; omega
    exact (h1.keep fun k hk hl => hg.block k hl (fun e => hk.2 e.symm)).imp fun k hk _ => hk.1
  · exact (hb.trans (hW.mono hb.size)).grown hg (by have := hb.size; have := hW.size; omega) fun k hk => (hlt k hk).1
  · obtain ⟨b, o, e, hs⟩ := hA
    refine ⟨b, o, e, ?_⟩
    rw [hn, show o + 4 * (D.length + 1) = o + 4 * D.length + 4 by omega]
    exact (seg_cons.1 hs).2.2.2.2.2

set_option maxHeartbeats 400000 in
theorem copyTerms_of (m : Nat) (ih : ∀ T : Ts, T.nodes < m → CopySaid T) (T : Ts) (hm : T.nodes ≤ m) : CopySaid T := by
  intro w v hv hn
  obtain ⟨A, c, rfl, hc, hs⟩ := hv
  have hl := T.length_le
  have h0 := CopyRel.start w T A hs
  clear hs
  obtain ⟨i0, hi0, hz0, hz1, hz2⟩ := info_parts info_term
  go_enter Try.func16, Try.ntmps16
  go_wp2_with fail
  go_loopg [3, 8] T.length (CopyRel w T A)
  case atStart => exact h0
  case round =>
    clear h0
    obtain ⟨D, R, xs, hT, hg, rfl, hown, hcs, hb, hseg⟩ := hrel
    cases R with
    | nil =>
      have e : D.length = T.length := by rw [hT, Ts.app_nil]
      have hsl : Sl wr (fun k => w.heap.size ≤ k) u3 T := by
        have h1 : D = T := by rw [hT, Ts.app_nil]
        subst h1
        exact Sl.own hown (hcs.imp fun k hk _ => hk.1) fun g hg => (hown.lt g hg).1
      go_wp2_with fail
      go_ret
      exact ⟨_, rfl, hsl, hb⟩
    | cons k n s ar r =>
      have e : D.length < T.length := by rw [hT, Ts.length_app]; simp [Ts.length]
      have e2 : ar.nodes < m := by rw [hT, Ts.nodes_app] at hm; simp [Ts.nodes] at hm; omega
      have e3 : ar.nodes ≤ 1048576 := by rw [hT, Ts.nodes_app] at hn; simp [Ts.nodes] at hn; omega
      obtain ⟨b, o, rfl, hsg⟩ := hseg (by simp [Ts.length])
      have HT := Lib.hid hT
      have HG := Lib.hid hg
      clear hT hseg hg
      obtain ⟨_, c0, c1, c2, ⟨v, c3, hv⟩, hsr⟩ := seg_cons.1 ((hsg.imp (q := fun k => k < w.heap.size) fun _ _ h => h).keep (w' := wr) fun k hk _ => hb.block k hk)
      rw [Nat.mul_comm 4] at c0 c1 c2 c3
      obtain ⟨Av, cv, rfl, hv⟩ := hv.form
      go_wp2_with fail
      refine (copyTerm_of (ih ar e2) e3 k n s _ _ ?_).mono ?_
      · exact hv.any.below ((Below.refl _ _).alloc (Nat.le_refl _) _)
      rintro e w2 ⟨v', rfl, hv', hb2⟩
      obtain ⟨Aw, cw, rfl, hv'⟩ := hv'.form
      have hW : Below wr.heap.size wr (w2.alloc (.cells #[.int .i64 k, .int .i64 n, .string s, .slice Aw ar.length cw] 24)) :=
        (((Below.refl _ _).alloc (Nat.le_refl _) _).trans (hb2.mono (by simp))).alloc (by have := hb2.size; simp at this; omega) _
      have hbz : w.heap.size ≤ w2.heap.size := by have := hb.size; have := hb2.size; simp at this; omega
      have hvW := hv'.below (((Below.refl _ w2).alloc (Nat.le_refl _) (.cells #[.int .i64 k, .int .i64 n, .string s, .slice Aw ar.length cw] 24)))
      go_wp2_with (at_builtin; refine wpList_append_at _ rfl (.tmp 12) (.tmp 15) _ rfl w.heap.size 24 i0 _ 4 56 Try.underlying22 hi0 hz0 hz1 hz2 rfl (by omega) u3 D.length xs rfl (own_below hown hW) ⟨w2.heap.size, 0, none⟩ 1 1 [.int .i64 k, .int .i64 n, .string s, .slice Aw ar.length cw] rfl rfl ?cells (by simp [Value.oneCell']) (by simp only [maxLen]; omega) (by omega) (by simp; omega) ?next)
      case cells => exact cell_lit w2 [.int .i64 k, .int .i64 n, .string s, .slice Aw ar.length cw] 24
      case next =>
        intro v3 w3 ho3 hg3 hat3
        go_wp2_with fail
        go_roundg r.length
        case measure => rw [HG.out]; simp [Ts.length]
        case rel => exact CopyRel.step HT.out hown hcs hb hW (hvW.imp fun k hk _ => by simp at hk; omega) ho3 hg3 (by simpa using hat3) ⟨b, o, rfl, hsg⟩

theorem copy_said (T : Ts) : CopySaid T := by
  have : ∀ m, ∀ T : Ts, T.nodes < m → CopySaid T := by
    intro m
    induction m with
    | zero => intro T h; omega
    | succ m ih => intro T h; exact copyTerms_of m ih T (by omega)
  exact this _ T (Nat.lt_succ_self _)
end Go.Proofs.Ytjicoifjgokoiaa
