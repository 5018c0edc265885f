/-
  GoodProgram and the reference's IsProgram say of every list of clauses whether it is a program; program copies one.
-/
import Derived.Test.YtpbnfjlalgnmmaaDoorClause
namespace Go.Proofs.YtpbnfjlalgnmmaaDoor
open Go.RowKit

/-- Is it a program? -/
def pB (L : List Cl) : Bool := decide (L.length ≤ 24) && L.all cB
theorem nodesC_app (a b : List Cl) : nodesC (a ++ b) = nodesC a + nodesC b := by
  induction a with
  | nil => simp [nodesC]
  | cons c r ih => simp only [List.cons_append, nodesC, ih]; omega
theorem nodesC_le (L : List Cl) : L.length ≤ nodesC L := by
  induction L with
  | nil => exact Nat.le_refl _
  | cons c r ih => simp only [List.length_cons, nodesC, Cl.nodes]; omega

def GpLoop (w : World) (L : List Cl) (g : Nat) (sx : Value) (wr : World) : Prop := ∃ D R : List Cl, L = D ++ R ∧ g = R.length ∧ sx = .int .i64 D.length ∧ D.all cB = true ∧ Below w.heap.size w wr
def IpLoop (w : World) (L : List Cl) (b : Bool) (g : Nat) (so sx : Value) (wr : World) : Prop := ∃ D R : List Cl, L = D ++ R ∧ g = R.length ∧ sx = .int .i64 D.length ∧ so = .bool (b && D.all cB) ∧ Below w.heap.size w wr

set_option maxHeartbeats 1000000 in
theorem goodProgram_any (L : List Cl) (v : Value) (w : World) (hv : SlC w (fun _ => True) v L) (hn : nodesC L ≤ 1048576) :
    Calls Tryd.prog 22 #[v] w fun e w' => e = .returned (.bool (pB L)) ∧ Below w.heap.size w w' := by
  obtain ⟨A, d, rfl, hs⟩ := hv.form
  have hle := nodesC_le L
  generalize hr : pB L = rb
  have R := Lib.hid hr
  clear hr
  by_cases h3 : 24 < L.length
  · have hq : Hid (rb = false) := Lib.hid (by rw [← R.out, pB]; simp; omega)
    go_enter Tryd.func22, Tryd.ntmps22
    go_wp2_with fail
    go_ret
    exact ⟨by rw [hq.out]; rfl, Below.refl _ _⟩
  have hq : Hid (rb = L.all cB) := Lib.hid (by rw [← R.out, pB, decide_eq_true (by omega), Bool.true_and])
  have h0 : GpLoop w L L.length (.int .i64 0) w := ⟨[], L, rfl, rfl, rfl, rfl, Below.refl _ _⟩
  go_enter Tryd.func22, Tryd.ntmps22
  go_wp2_with fail
  go_loopg [10] L.length (GpLoop w L)
  case atStart => exact h0
  case round =>
    clear h0
    obtain ⟨D, R', hT, hg, rfl, hD, hb⟩ := hrel
    have HT := Lib.hid hT
    have HG := Lib.hid hg
    have HD := Lib.hid hD
    clear hT hg hD
    have hsr := hs.below hb
    cases R' with
    | nil =>
      have eD : D = L := by rw [HT.out, List.append_nil]
      subst eD
      go_wp2_with fail
      go_ret
      exact ⟨by rw [hq.out, HD.out]; rfl, hb⟩
    | cons c r =>
      have e1 : D.length < L.length := by rw [HT.out, List.length_append]; simp
      have hnod : c.nodes ≤ 1048576 := by have := hn; rw [HT.out, nodesC_app] at this; simp only [nodesC] at this; omega
      have hn1 : c.hd.nodes < 1048576 := by simp only [Cl.nodes] at hnod; omega
      have hn2 : c.bd.nodes ≤ 1048576 := by simp only [Cl.nodes] at hnod; omega
      rw [HT.out] at hsr
      rw [show (D ++ c :: r).length = L.length by rw [← HT.out]] at hsr
      obtain ⟨b1, o1, rfl, _, c10, c11, c12, ⟨v1, c13, hv1⟩, ⟨v2, c14, hv2⟩, c15, _⟩ := SlC.at_ hsr (by simp)
      obtain ⟨A1, d1, rfl, hv1⟩ := hv1.form
      obtain ⟨A2, d2, rfl, hv2⟩ := hv2.form
      clear hsr
      have hX : Below wr.heap.size wr (wr.alloc (.cells #[.int .i64 c.k, .int .i64 c.n, .string c.s, .slice A1 c.hd.length d1, .slice A2 c.bd.length d2, .int .i64 c.vars] 32)) := (Below.refl _ _).alloc (Nat.le_refl _) _
      have hX' := hb.trans (hX.mono hb.size)
      go_wp2_with fail
      refine (goodClause_any c _ _ _ (hv1.below hX) (hv2.below hX) hn1 hn2).mono ?_
      rintro e w2 ⟨rfl, hb2⟩
      have hb3 := hX'.trans (hb2.mono hX'.size)
      generalize hgb : cB c = gb
      have HGB := Lib.hid hgb
      clear hgb
      cases gb with
      | false =>
        go_wp2_with fail
        go_ret
        refine ⟨?_, hb3⟩
        rw [hq.out, HT.out, List.all_append, List.all_cons, HGB.out, Bool.false_and, Bool.and_false]; rfl
      | true =>
        go_wp2_with fail
        go_roundg r.length
        case measure => rw [HG.out]; simp
        case rel =>
          refine ⟨D ++ [c], r, ?_, rfl, ?_, ?_, hb3⟩
          · rw [HT.out, List.append_assoc]; rfl
          · rw [List.length_append]; rfl
          · rw [List.all_append, HD.out, List.all_cons, HGB.out]; rfl

set_option maxHeartbeats 1000000 in
theorem isProgram_any (L : List Cl) (v : Value) (w : World) (hv : SlC w (fun _ => True) v L) (hn : nodesC L ≤ 1048576) :
    Calls Tryd.prog 24 #[v] w fun e w' => e = .returned (.bool (pB L)) ∧ Below w.heap.size w w' := by
  obtain ⟨A, d, rfl, hs⟩ := hv.form
  have hle := nodesC_le L
  generalize hr : pB L = rb
  have R := Lib.hid hr
  clear hr
  go_enter Tryd.func24, Tryd.ntmps24
  go_wp2_with fail
  have hbd : decide ((L.length : Int) ≤ 24) = decide (L.length ≤ 24) := by simp; omega
  generalize hbb : decide ((L.length : Int) ≤ 24) = b
  have hq : Hid (rb = (b && L.all cB)) := Lib.hid (by rw [← R.out, pB, ← hbb, hbd])
  clear hbd hbb
  have h0 : IpLoop w L b L.length (.bool b) (.int .i64 0) w := ⟨[], L, rfl, rfl, rfl, by simp, Below.refl _ _⟩
  go_loopg [3, 11] L.length (IpLoop w L b)
  case atStart => exact h0
  case round =>
    clear h0
    obtain ⟨D, R', hT, hg, rfl, rfl, hb⟩ := hrel
    have HT := Lib.hid hT
    have HG := Lib.hid hg
    clear hT hg
    have hsr := hs.below hb
    generalize hgd : (b && D.all cB) = db
    have HD := Lib.hid hgd
    clear hgd
    cases R' with
    | nil =>
      have eD : D = L := by rw [HT.out, List.append_nil]
      subst eD
      go_wp2_with fail
      go_ret
      exact ⟨by rw [hq.out, HD.out]; rfl, hb⟩
    | cons c r =>
      have e1 : D.length < L.length := by rw [HT.out, List.length_append]; simp
      have hnod : c.nodes ≤ 1048576 := by have := hn; rw [HT.out, nodesC_app] at this; simp only [nodesC] at this; omega
      have hn1 : c.hd.nodes < 1048576 := by simp only [Cl.nodes] at hnod; omega
      have hn2 : c.bd.nodes ≤ 1048576 := by simp only [Cl.nodes] at hnod; omega
      rw [HT.out] at hsr
      rw [show (D ++ c :: r).length = L.length by rw [← HT.out]] at hsr
      obtain ⟨b1, o1, rfl, _, c10, c11, c12, ⟨v1, c13, hv1⟩, ⟨v2, c14, hv2⟩, c15, _⟩ := SlC.at_ hsr (by simp)
      obtain ⟨A1, d1, rfl, hv1⟩ := hv1.form
      obtain ⟨A2, d2, rfl, hv2⟩ := hv2.form
      clear hsr
      have hX : Below wr.heap.size wr (wr.alloc (.cells #[.int .i64 c.k, .int .i64 c.n, .string c.s, .slice A1 c.hd.length d1, .slice A2 c.bd.length d2, .int .i64 c.vars] 32)) := (Below.refl _ _).alloc (Nat.le_refl _) _
      have hX' := hb.trans (hX.mono hb.size)
      cases db with
      | false =>
        go_wp2_with fail
        go_roundg r.length
        case measure => rw [HG.out]; simp
        case rel =>
          refine ⟨D ++ [c], r, ?_, rfl, ?_, ?_, hX'⟩
          · rw [HT.out, List.append_assoc]; rfl
          · rw [List.length_append]; rfl
          · rw [List.all_append, ← Bool.and_assoc, HD.out]; rfl
      | true =>
        go_wp2_with fail
        refine (isClause_any c _ _ _ (hv1.below hX) (hv2.below hX) hn1 hn2).mono ?_
        rintro e w2 ⟨rfl, hb2⟩
        have hb3 := hX'.trans (hb2.mono hX'.size)
        generalize hgb : cB c = gb
        have HGB := Lib.hid hgb
        clear hgb
        go_wp2_with fail
        go_roundg r.length
        case measure => rw [HG.out]; simp
        case rel =>
          refine ⟨D ++ [c], r, ?_, rfl, ?_, ?_, hb3⟩
          · rw [HT.out, List.append_assoc]; rfl
          · rw [List.length_append]; rfl
          · rw [List.all_append, ← Bool.and_assoc, HD.out, List.all_cons, HGB.out]; simp

theorem info_clause : (Tryd.prog.info? 32).map (fun i => (i.zero, i.size, i.bytes)) = some (some (.agg #[.int .i64 0, .int .i64 0, .string .empty, .slice none 0 0, .slice none 0 0, .int .i64 0]), 6, 88) := by kernel_rfl

/-- The cells xs, six a clause, are the clauses L's; what they lean on is p's. -/
def CsC (w : World) (p : Nat → Prop) : List Cl → List Value → Prop
  | [], xs => xs = []
  | c :: r, xs => ∃ u v ys, xs = .int .i64 c.k :: .int .i64 c.n :: .string c.s :: u :: v :: .int .i64 c.vars :: ys ∧ Sl w p u c.hd ∧ Sl w p v c.bd ∧ CsC w p r ys
section
variable {w w' : World} {p q : Nat → Prop}
theorem CsC.imp : ∀ {L : List Cl} {xs : List Value}, CsC w p L xs → (∀ k, p k → k < w.heap.size → q k) → CsC w q L xs
  | [], _, h, _ => h
  | _ :: _, _, ⟨u, v, ys, e, h1, h2, h3⟩, hk => ⟨u, v, ys, e, h1.imp hk, h2.imp hk, h3.imp hk⟩
theorem CsC.keep : ∀ {L : List Cl} {xs : List Value}, CsC w p L xs → (∀ k, p k → k < w.heap.size → w'.heap[k]? = w.heap[k]?) → CsC w' p L xs
  | [], _, h, _ => h
  | _ :: _, _, ⟨u, v, ys, e, h1, h2, h3⟩, hk => ⟨u, v, ys, e, h1.keep hk, h2.keep hk, h3.keep hk⟩
theorem CsC.app : ∀ {L : List Cl} {xs ys : List Value} {M : List Cl}, CsC w p L xs → CsC w p M ys → CsC w p (L ++ M) (xs ++ ys)
  | [], _, _, _, h, h' => by cases h; exact h'
  | _ :: _, _, _, _, ⟨u, v, zs, e, h1, h2, h3⟩, h' => ⟨u, v, _, by rw [e]; rfl, h1, h2, h3.app h'⟩
theorem CsC.seg : ∀ {L : List Cl} {xs : List Value} {b o : Nat}, CsC w p L xs → (0 < L.length → p b) → (∀ j u, xs[j]? = some u → w.cell? ⟨b, o + j, none⟩ = some u) → SegC w p L b o
  | [], _, _, _, _, _, _ => trivial
  | c :: r, xs, b, o, ⟨u, v, ys, e, h1, h2, h3⟩, hp, hc => by
    subst e
    have hb := hp (by simp)
    refine ⟨hb, hc 0 _ rfl, hc 1 _ rfl, hc 2 _ rfl, ⟨u, hc 3 _ rfl, h1⟩, ⟨v, hc 4 _ rfl, h2⟩, hc 5 _ rfl, h3.seg (fun _ => hb) fun j x hx => ?_⟩
    rw [show o + 6 + j = o + (j + 6) by omega]
    exact hc (j + 6) x (by simpa using hx)
theorem SlC.own {L : List Cl} {base : Nat} {e : TypeId} {v : Value} {xs : List Value} (h : w.ownsRow base e 6 v L.length xs) (hc : CsC w p L xs) (hp : ∀ g, v.ownBlock = some g → p g) : SlC w p v L := by
  obtain ⟨A, cap, rfl⟩ := own_form h
  obtain ⟨hle, g, cur, hg⟩ := own_blk h
  refine ⟨A, cap, rfl, hle, fun h0 => ?_⟩
  obtain ⟨rfl, _, hpl, hcells⟩ := hg h0
  refine ⟨g, 0, rfl, hc.seg (fun _ => hp g rfl) fun j u hu => ?_⟩
  rw [Nat.zero_add, hpl.cell j]
  exact hcells j u hu
end
structure PrRel (w : World) (L D R : List Cl) (u : Value) (xs : List Value) (wr : World) : Prop where
  split : L = D ++ R
  own : wr.ownsRow w.heap.size 32 6 u D.length xs
  cs : CsC wr (fun k => w.heap.size ≤ k ∧ u.ownBlock ≠ some k) D xs
  chg : Below w.heap.size w wr
def PrLoop (w : World) (L : List Cl) (g : Nat) (s3 s8 : Value) (wr : World) : Prop := ∃ D R xs, PrRel w L D R s3 xs wr ∧ g = R.length ∧ s8 = .int .i64 D.length

theorem PrRel.step {w wr W w3 : World} {L D r : List Cl} {c : Cl} {u v3 y z : Value} {xs : List Value}
    (h : PrRel w L D (c :: r) u xs wr) (hC : Below wr.heap.size wr W) (hy : Sl W (fun k => wr.heap.size ≤ k) y c.hd) (hz' : Sl W (fun k => wr.heap.size ≤ k) z c.bd)
    (ho3 : w3.ownsRow w.heap.size 32 6 v3 (D.length + 1) (xs ++ [.int .i64 c.k, .int .i64 c.n, .string c.s, y, z, .int .i64 c.vars]))
    (hg : W.grownBy w3 u.ownBlock) (hat : v3.ownBlock = u.ownBlock ∨ v3.ownBlock = some W.heap.size) :
    PrRel w L (D ++ [c]) r v3 (xs ++ [.int .i64 c.k, .int .i64 c.n, .string c.s, y, z, .int .i64 c.vars]) w3 := by
  have hlt := h.own.lt
  have hz := h.chg.size
  have hWs := hC.size
  have hu : ∀ k, u.ownBlock = some k → w.heap.size ≤ k ∧ k < wr.heap.size := fun k hk => hlt k hk
  have hnew : ∀ k, wr.heap.size ≤ k → k < W.heap.size → (w.heap.size ≤ k ∧ v3.ownBlock ≠ some k) ∧ u.ownBlock ≠ some k := fun k hk hl => by
    refine ⟨⟨by omega, ?_⟩, ?_⟩
    · rcases hat with e | e <;> rw [e]
      · intro e2; have := hu k e2; omega
      · intro e2; simp at e2; omega
    · intro e2; have := hu k e2; omega
  refine ⟨by rw [h.split, List.append_assoc]; rfl, by rw [List.length_append]; exact ho3, ?_, ?_⟩
  · have h1 : CsC W (fun k => (w.heap.size ≤ k ∧ v3.ownBlock ≠ some k) ∧ u.ownBlock ≠ some k) (D ++ [c]) (xs ++ [.int .i64 c.k, .int .i64 c.n, .string c.s, y, z, .int .i64 c.vars]) := by
      refine CsC.app ?_ ⟨y, z, [], rfl, hy.imp hnew, hz'.imp hnew, rfl⟩
      refine (h.cs.imp (q := fun k => (w.heap.size ≤ k ∧ v3.ownBlock ≠ some k) ∧ u.ownBlock ≠ some k) fun k hk hl => ⟨⟨hk.1, ?_⟩, hk.2⟩).keep fun k hk hl => hC.block k hl
      rcases hat with e | e <;> rw [e]
      · exact hk.2
      · intro e2; simp at e2; omega
    exact (h1.keep (w' := w3) fun k hk hl => hg.block k hl (fun e => hk.2 e.symm)).imp fun k hk _ => hk.1
  · refine (h.chg.trans (hC.mono hz)).grown hg (by omega) fun k hk => by have := hu k hk; omega

set_option maxHeartbeats 1000000 in
theorem program_any (L : List Cl) (v : Value) (w : World) (hv : SlC w (fun _ => True) v L) (hn : nodesC L ≤ 1048576) :
    Calls Tryd.prog 23 #[v] w fun e w' => ∃ v', e = .returned v' ∧ SlC w' (fun k => w.heap.size ≤ k) v' L ∧ Below w.heap.size w w' := by
  obtain ⟨A, d, rfl, hs⟩ := hv.form
  have hle := nodesC_le L
  obtain ⟨i0, hi0, hz0, hz1, hz2⟩ := info_parts info_clause
  go_enter Tryd.func23, Tryd.ntmps23
  go_wp2_with fail
  have h0 : PrLoop w L L.length (.slice none 0 0) (.int .i64 0) w := ⟨[], L, [], ⟨rfl, World.ownsRow_nil _ _ _ _, rfl, Below.refl _ _⟩, rfl, rfl⟩
  go_loopg [3, 8] L.length (PrLoop w L)
  case atStart => exact h0
  case round =>
    clear h0
    obtain ⟨D, R', xs, hrel, hg, rfl⟩ := hrel
    have HG := Lib.hid hg
    clear hg
    have HT := Lib.hid hrel.split
    have hb := hrel.chg
    obtain ⟨Au, cu, hu⟩ := own_form hrel.own
    subst hu
    have hsr : SlC wr (fun k => k < w.heap.size) (.slice A L.length d) L := (hs.imp (q := fun k => k < w.heap.size) fun k _ h => h).keep fun k hk _ => hb.block k hk
    cases R' with
    | nil =>
      have eD : D = L := by rw [HT.out, List.append_nil]
      subst eD
      have hsl : SlC wr (fun k => w.heap.size ≤ k) (.slice Au D.length cu) D := SlC.own hrel.own (hrel.cs.imp fun k hk _ => hk.1) fun g hg => (hrel.own.lt g hg).1
      clear hrel
      go_wp2_with fail
      go_ret
      exact ⟨_, rfl, hsl, hb⟩
    | cons c r =>
      have e1 : D.length < L.length := by rw [HT.out, List.length_append]; simp
      have hnod : c.nodes ≤ 1048576 := by have := hn; rw [HT.out, nodesC_app] at this; simp only [nodesC] at this; omega
      have hn1 : c.hd.nodes < 1048576 := by simp only [Cl.nodes] at hnod; omega
      have hn2 : c.bd.nodes ≤ 1048576 := by simp only [Cl.nodes] at hnod; omega
      rw [HT.out] at hsr
      rw [show (D ++ c :: r).length = L.length by rw [← HT.out]] at hsr
      obtain ⟨b1, o1, rfl, _, c10, c11, c12, ⟨v1, c13, hv1⟩, ⟨v2, c14, hv2⟩, c15, _⟩ := SlC.at_ hsr (by simp)
      obtain ⟨A1, d1, rfl, hv1⟩ := hv1.form
      obtain ⟨A2, d2, rfl, hv2⟩ := hv2.form
      clear hsr
      have hX : Below wr.heap.size wr (wr.alloc (.cells #[.int .i64 c.k, .int .i64 c.n, .string c.s, .slice A1 c.hd.length d1, .slice A2 c.bd.length d2, .int .i64 c.vars] 32)) := (Below.refl _ _).alloc (Nat.le_refl _) _
      have hX' := hb.trans (hX.mono hb.size)
      have hz := hb.size
      go_wp2_with fail
      refine (clause_any c _ _ _ (hv1.any.below hX) (hv2.any.below hX) (by omega) hn2).mono ?_
      rintro e w2 ⟨u2, v2, rfl, hu2, hv2', hb2⟩
      obtain ⟨A3, d3, rfl, hu2⟩ := hu2.form
      obtain ⟨A4, d4, rfl, hv2'⟩ := hv2'.form
      have hzz : wr.heap.size < w2.heap.size := by have := hb2.size; simp at this; omega
      have hC3 : Below wr.heap.size wr (w2.alloc (.cells #[.int .i64 c.k, .int .i64 c.n, .string c.s, .slice A3 c.hd.length d3, .slice A4 c.bd.length d4, .int .i64 c.vars] 32)) := (hX.trans (hb2.mono hX.size)).alloc (by omega) _
      have hN : Below w2.heap.size w2 (w2.alloc (.cells #[.int .i64 c.k, .int .i64 c.n, .string c.s, .slice A3 c.hd.length d3, .slice A4 c.bd.length d4, .int .i64 c.vars] 32)) := (Below.refl _ _).alloc (Nat.le_refl _) _
      have hu3 := (hu2.below hN).imp (q := fun k => wr.heap.size ≤ k) fun k hk _ => by simp at hk; omega
      have hv3 := (hv2'.below hN).imp (q := fun k => wr.heap.size ≤ k) fun k hk _ => by simp at hk; omega
      have ho3 := own_below hrel.own hC3
      go_wp2_with (at_builtin; refine wpList_append_at _ rfl (.tmp 12) (.tmp 15) _ rfl w.heap.size 32 i0 _ 6 88 Tryd.underlying25 hi0 hz0 hz1 hz2 rfl (by omega) (.slice Au D.length cu) D.length xs rfl ho3 ⟨w2.heap.size, 0, none⟩ 1 1 [.int .i64 c.k, .int .i64 c.n, .string c.s, .slice A3 c.hd.length d3, .slice A4 c.bd.length d4, .int .i64 c.vars] rfl rfl (cell_lit w2 _ _) (by simp [Value.oneCell']) (by simp only [maxLen]; omega) (by omega) (by simp; omega) ?next)
      case next =>
        intro v3 w3 hov hg hat
        have hat' : v3.ownBlock = (Value.slice Au D.length cu).ownBlock ∨ v3.ownBlock = some (w2.alloc (.cells #[.int .i64 c.k, .int .i64 c.n, .string c.s, .slice A3 c.hd.length d3, .slice A4 c.bd.length d4, .int .i64 c.vars] 32)).heap.size := by simpa using hat
        have hstep := PrRel.step hrel hC3 hu3 hv3 hov hg hat'
        clear hat hat' hov
        go_wp2_with fail
        go_roundg r.length
        case measure => rw [HG.out]; simp
        case rel =>
          refine ⟨_, _, _, hstep, rfl, ?_⟩
          rw [List.length_append]; rfl
end Go.Proofs.YtpbnfjlalgnmmaaDoor
