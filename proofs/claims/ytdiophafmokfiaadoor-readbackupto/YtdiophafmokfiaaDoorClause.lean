/-
  Clauses in memory; clause copies one, GoodClause and the reference's IsClause say of every clause whether it is good.
-/
import Derived.Test.YtdiophafmokfiaaDoorQuery
namespace Go.Proofs.YtdiophafmokfiaaDoor
open Go.RowKit

/-- A clause. -/
structure Cl where
  k : Int
  n : Int
  s : ByteArray
  hd : Ts
  bd : Ts
  vars : Int
def Cl.nodes (c : Cl) : Nat := c.hd.nodes + c.bd.nodes + 1
def nodesC : List Cl → Nat
  | [] => 0
  | c :: r => c.nodes + nodesC r
/-- Is it a good clause? -/
def cB (c : Cl) : Bool := qB c.vars c.bd && gB c.vars c.k c.n c.s c.hd && !builtB c.s.toList c.hd.length
/-- From cell o of block b on lie the clauses, six cells each; what they lean on is p's. -/
def SegC (w : World) (p : Nat → Prop) : List Cl → Nat → Nat → Prop
  | [], _, _ => True
  | c :: r, b, o => p b ∧ w.cell? ⟨b, o, none⟩ = some (.int .i64 c.k) ∧ w.cell? ⟨b, o + 1, none⟩ = some (.int .i64 c.n) ∧ w.cell? ⟨b, o + 2, none⟩ = some (.string c.s) ∧
    (∃ v, w.cell? ⟨b, o + 3, none⟩ = some v ∧ Sl w p v c.hd) ∧ (∃ v, w.cell? ⟨b, o + 4, none⟩ = some v ∧ Sl w p v c.bd) ∧ w.cell? ⟨b, o + 5, none⟩ = some (.int .i64 c.vars) ∧ SegC w p r b (o + 6)
def SlC (w : World) (p : Nat → Prop) (v : Value) (L : List Cl) : Prop := ∃ A c, v = .slice A L.length c ∧ L.length ≤ c ∧ (0 < L.length → ∃ b o, A = some ⟨b, o, none⟩ ∧ SegC w p L b o)

section
variable {w w' : World} {p q : Nat → Prop}
theorem SegC.keep {L : List Cl} : ∀ {b o : Nat}, SegC w p L b o → (∀ k, p k → k < w.heap.size → w'.heap[k]? = w.heap[k]?) → SegC w' p L b o := by
  induction L with
  | nil => intro b o _ _; trivial
  | cons c r ih =>
    intro b o ⟨h0, h1, h2, h3, ⟨v, h4, h5⟩, ⟨u, h6, h7⟩, h8, h9⟩ hk
    have hc : ∀ j, w'.cell? ⟨b, j, none⟩ = w.cell? ⟨b, j, none⟩ := fun j => World.cell?_of_block (hk b h0 (lt_of_cell h1))
    exact ⟨h0, (hc _).trans h1, (hc _).trans h2, (hc _).trans h3, ⟨v, (hc _).trans h4, h5.keep hk⟩, ⟨u, (hc _).trans h6, h7.keep hk⟩, (hc _).trans h8, ih h9 hk⟩
theorem SegC.imp {L : List Cl} : ∀ {b o : Nat}, SegC w p L b o → (∀ k, p k → k < w.heap.size → q k) → SegC w q L b o := by
  induction L with
  | nil => intro b o _ _; trivial
  | cons c r ih =>
    intro b o ⟨h0, h1, h2, h3, ⟨v, h4, h5⟩, ⟨u, h6, h7⟩, h8, h9⟩ hk
    exact ⟨hk b h0 (lt_of_cell h1), h1, h2, h3, ⟨v, h4, h5.imp hk⟩, ⟨u, h6, h7.imp hk⟩, h8, ih h9 hk⟩
theorem SlC.keep {L : List Cl} {v : Value} (h : SlC w p v L) (hk : ∀ k, p k → k < w.heap.size → w'.heap[k]? = w.heap[k]?) : SlC w' p v L := by
  obtain ⟨A, c, e, hl, hs⟩ := h
  exact ⟨A, c, e, hl, fun h => by obtain ⟨b, o, e, h⟩ := hs h; exact ⟨b, o, e, h.keep hk⟩⟩
theorem SlC.imp {L : List Cl} {v : Value} (h : SlC w p v L) (hk : ∀ k, p k → k < w.heap.size → q k) : SlC w q v L := by
  obtain ⟨A, c, e, hl, hs⟩ := h
  exact ⟨A, c, e, hl, fun h => by obtain ⟨b, o, e, h⟩ := hs h; exact ⟨b, o, e, h.imp hk⟩⟩
theorem SlC.below {L : List Cl} {v : Value} (h : SlC w p v L) (hb : Below w.heap.size w w') : SlC w' p v L := h.keep fun k _ hk => hb.block k hk
theorem SlC.any {L : List Cl} {v : Value} (h : SlC w p v L) : SlC w (fun _ => True) v L := h.imp fun _ _ _ => trivial
theorem SlC.form {L : List Cl} {v : Value} (h : SlC w p v L) : ∃ A c, v = .slice A L.length c ∧ SlC w p (.slice A L.length c) L := by
  obtain ⟨A, c, rfl, h2⟩ := h
  exact ⟨A, c, rfl, A, c, rfl, h2⟩
theorem SegC.skip {R : List Cl} {b : Nat} : ∀ {D : List Cl} {o : Nat}, SegC w p (D ++ R) b o → SegC w p R b (o + D.length * 6)
  | [], o, h => by simpa using h
  | c :: D, o, ⟨_, _, _, _, _, _, _, h⟩ => by
    have := SegC.skip (R := R) (D := D) h
    rwa [show o + 6 + D.length * 6 = o + (c :: D).length * 6 by simp; omega] at this
theorem SlC.at_ {A : Option Addr} {len c : Nat} {D R : List Cl} (h : SlC w p (.slice A len c) (D ++ R)) (hR : 0 < R.length) : ∃ b o, A = some ⟨b, o, none⟩ ∧ SegC w p R b (o + D.length * 6) := by
  obtain ⟨A', c', e, hl, hs⟩ := h
  cases e
  obtain ⟨b, o, e, h⟩ := hs (by rw [List.length_append]; omega)
  exact ⟨b, o, e, h.skip⟩
end

set_option maxHeartbeats 1000000 in
theorem clause_any (c : Cl) (u v : Value) (w : World) (hu : Sl w (fun _ => True) u c.hd) (hv : Sl w (fun _ => True) v c.bd) (h1 : c.hd.nodes ≤ 1048576) (h2 : c.bd.nodes ≤ 1048576) :
    Calls Tryd.prog 18 #[.agg #[.int .i64 c.k, .int .i64 c.n, .string c.s, u, v, .int .i64 c.vars]] w fun e w' => ∃ u' v', e = .returned (.agg #[.int .i64 c.k, .int .i64 c.n, .string c.s, u', v', .int .i64 c.vars]) ∧
      Sl w' (fun k => w.heap.size ≤ k) u' c.hd ∧ Sl w' (fun k => w.heap.size ≤ k) v' c.bd ∧ Below w.heap.size w w' := by
  obtain ⟨A, d, rfl, hu⟩ := hu.form
  obtain ⟨A', d', rfl, hv⟩ := hv.form
  go_enter Tryd.func18, Tryd.ntmps18
  go_wp2_with fail
  have hW0 : Below w.heap.size w ((w.alloc (.cells #[.int .i64 c.k, .int .i64 c.n, .string c.s, .slice A c.hd.length d, .slice A' c.bd.length d', .int .i64 c.vars] 32)).alloc (.cells #[.int .i64 0, .int .i64 0, .string ⟨#[]⟩, .slice none 0 0, .slice none 0 0, .int .i64 0] 32)) := ((Below.refl _ _).alloc (Nat.le_refl _) _).alloc (by simp) _
  have bA := (Plot.new w 32 #[.int .i64 c.k, .int .i64 c.n, .string c.s, .slice A c.hd.length d, .slice A' c.bd.length d', .int .i64 c.vars]).alloc (.cells #[.int .i64 0, .int .i64 0, .string ⟨#[]⟩, .slice none 0 0, .slice none 0 0, .int .i64 0] 32)
  have bR := Plot.new (w.alloc (.cells #[.int .i64 c.k, .int .i64 c.n, .string c.s, .slice A c.hd.length d, .slice A' c.bd.length d', .int .i64 c.vars] 32)) 32 #[.int .i64 0, .int .i64 0, .string ⟨#[]⟩, .slice none 0 0, .slice none 0 0, .int .i64 0]
  simp only [World.size_alloc] at bR
  generalize ((w.alloc (.cells #[.int .i64 c.k, .int .i64 c.n, .string c.s, .slice A c.hd.length d, .slice A' c.bd.length d', .int .i64 c.vars] 32)).alloc (.cells #[.int .i64 0, .int .i64 0, .string ⟨#[]⟩, .slice none 0 0, .slice none 0 0, .int .i64 0] 32)) = W0 at *
  have hu0 := hu.below hW0
  have hv0 := hv.below hW0
  refine wp_region_ord (fun ws => Plot ws w.heap.size 32 #[.int .i64 c.k, .int .i64 c.n, .string c.s, .slice A c.hd.length d, .slice A' c.bd.length d', .int .i64 c.vars])
    7 [(0, true), (1, true), (3, true), (4, true), (2, false), (6, true), (5, false)] (by kernel_rfl) (by kernel_rfl) bA.drew ?_
  iterate 4
    refine wpOrd_read rfl rfl ⟨?_, fun w' hS => ?_, fun _ _ _ h => h, ?_⟩
    rotate_left
    · have p0 := hS.cell 0
      have p1 := hS.cell 1
      have p2 := hS.cell 2
      have p3 := hS.cell 3
      have p4 := hS.cell 4
      simp at p0 p1 p2 p3 p4
      clear hS
      go_simp
      exact rfl
  refine wpOrd_run rfl ?_
  go_wp2_with fail
  refine (copyTerm_of (copy_said c.hd) h1 c.k c.n c.s _ _ (hu0.below (below_drewN _ W0 1))).mono ?_
  rintro e w2 ⟨u2, rfl, hu2, hb2⟩
  obtain ⟨A2, d2, rfl, hu2⟩ := hu2.form
  have bA2 := bA.drew.below hb2
  have bR2 := bR.drew.below hb2
  have hv2 := (hv0.below (below_drewN _ W0 1)).below hb2
  go_wp2_with fail
  refine ⟨bA2, ?_⟩
  refine wpOrd_read rfl rfl ⟨?_, fun w' hS => ?_, fun _ _ _ h => h, ?_⟩
  rotate_left
  · clear hS
    go_simp
    exact rfl
  refine wpOrd_run rfl ?_
  go_wp2_with fail
  refine (copy_said c.bd _ _ hv2 h2).mono ?_
  rintro e w3 ⟨u3, rfl, hu3, hb3⟩
  obtain ⟨A3, d3, rfl, hu3⟩ := hu3.form
  have bA3 := bA2.below hb3
  have bR3 := bR2.below hb3
  have hu23 := hu2.below hb3
  go_wp2_with fail
  refine ⟨bA3, ?_⟩
  simp only [wpOrd, List.drop_succ_cons, List.drop_zero]
  have z0 := hW0.size
  have z2 := hb2.size
  have z3 := hb3.size
  simp at z2
  have zA := bA.lt
  have zR := bR.lt
  have p0 := bA3.cell 0
  have p1 := bA3.cell 1
  have p2 := bA3.cell 2
  have p3 := bA3.cell 3
  have p4 := bA3.cell 4
  have p5 := bA3.cell 5
  have f0 := bA3.frozen 0
  have f1 := bA3.frozen 1
  have f2 := bA3.frozen 2
  have f3 := bA3.frozen 3
  have f4 := bA3.frozen 4
  have r0 := bR3.cell 0
  have r1 := bR3.cell 1
  have r2 := bR3.cell 2
  have r3 := bR3.cell 3
  have r4 := bR3.cell 4
  have r5 := bR3.cell 5
  have g0 := bR3.frozen 0
  have g1 := bR3.frozen 1
  have g2 := bR3.frozen 2
  have g3 := bR3.frozen 3
  have g4 := bR3.frozen 4
  have g5 := bR3.frozen 5
  simp at p0 p1 p2 p3 p4 p5 r0 r1 r2 r3 r4 r5
  go_wp2_with fail
  have hz : w.heap.size + 1 < W0.heap.size := zR
  refine bodyPost_ret (v := .agg #[.int .i64 c.k, .int .i64 c.n, .string c.s, .slice A2 c.hd.length d2, .slice A3 c.bd.length d3, .int .i64 c.vars]) (by simp [results, Tryd.results18, go_sem, r0, r1, r2, r3, r4, r5]) rfl ⟨_, _, rfl, ?_, ?_, ?_⟩
  · refine (hu23.keep (w' := _) fun k hk _ => ?_).imp fun k hk _ => by simp at hk; omega
    simp at hk
    simp only [World.setCell, Array.getElem?_modify]
    repeat rw [if_neg (by omega)]
  · refine (hu3.keep (w' := _) fun k hk _ => ?_).imp fun k hk _ => by omega
    simp only [World.setCell, Array.getElem?_modify]
    repeat rw [if_neg (by omega)]
  · iterate 11 refine Below.setCell ?_ (by simp) _
    exact (hW0.trans ((below_drewN _ W0 1).mono z0)).trans ((hb2.mono (by simp; omega)).trans (hb3.mono (by omega)))

set_option maxHeartbeats 1000000 in
theorem goodClause_any (c : Cl) (u v : Value) (w : World) (hu : Sl w (fun _ => True) u c.hd) (hv : Sl w (fun _ => True) v c.bd) (h1 : c.hd.nodes < 1048576) (h2 : c.bd.nodes ≤ 1048576) :
    Calls Tryd.prog 17 #[.agg #[.int .i64 c.k, .int .i64 c.n, .string c.s, u, v, .int .i64 c.vars]] w fun e w' => e = .returned (.bool (cB c)) ∧ Below w.heap.size w w' := by
  obtain ⟨A, d, rfl, hu⟩ := hu.form
  obtain ⟨A', d', rfl, hv⟩ := hv.form
  generalize hr : cB c = rb
  have R := Lib.hid hr
  clear hr
  go_enter Tryd.func17, Tryd.ntmps17
  go_wp2_with fail
  have hW0 : Below w.heap.size w (w.alloc (.cells #[.int .i64 c.k, .int .i64 c.n, .string c.s, .slice A c.hd.length d, .slice A' c.bd.length d', .int .i64 c.vars] 32)) := (Below.refl _ _).alloc (Nat.le_refl _) _
  have bA := Plot.new w 32 #[.int .i64 c.k, .int .i64 c.n, .string c.s, .slice A c.hd.length d, .slice A' c.bd.length d', .int .i64 c.vars]
  generalize (w.alloc (.cells #[.int .i64 c.k, .int .i64 c.n, .string c.s, .slice A c.hd.length d, .slice A' c.bd.length d', .int .i64 c.vars] 32)) = W0 at *
  have hu0 := hu.below hW0
  refine (goodQuery_any c.vars c.bd _ W0 (hv.below hW0) h2).mono ?_
  rintro e w1 ⟨rfl, hb1⟩
  have hW1 := hW0.trans (hb1.mono hW0.size)
  have bA1 := bA.below hb1
  have hu1 := hu0.below hb1
  generalize hq : qB c.vars c.bd = qb
  have HQ := Lib.hid hq
  clear hq
  cases qb with
  | false =>
    go_wp2_with fail
    go_ret
    refine ⟨?_, hW1⟩
    rw [← R.out, cB, HQ.out]; rfl
  | true =>
    have p0 := bA1.cell 0
    have p1 := bA1.cell 1
    have p2 := bA1.cell 2
    have p3 := bA1.cell 3
    have p5 := bA1.cell 5
    simp at p0 p1 p2 p3 p5
    go_wp2_with fail
    refine (goodGoal_any c.vars c.k c.n c.s c.hd _ _ hu1 h1).mono ?_
    rintro e w2 ⟨rfl, hb2⟩
    have hW2 := hW1.trans (hb2.mono hW1.size)
    have bA2 := bA1.below hb2
    clear p0 p1 p2 p3 p5
    generalize hg : gB c.vars c.k c.n c.s c.hd = gb
    have HGB := Lib.hid hg
    clear hg
    cases gb with
    | false =>
      go_wp2_with fail
      go_ret
      refine ⟨?_, hW2⟩
      rw [← R.out, cB, HGB.out, Bool.and_false]; rfl
    | true =>
      have p0 := bA2.cell 0
      have p1 := bA2.cell 1
      have p2 := bA2.cell 2
      have p3 := bA2.cell 3
      simp at p0 p1 p2 p3
      go_wp2_with fail
      refine (builtin_any c.k c.n c.s A c.hd.length d _).mono ?_
      rintro e w3 ⟨rfl, hb3⟩
      generalize hbb : builtB c.s.toList c.hd.length = bb
      have HBT := Lib.hid hbb
      clear hbb
      go_wp2_with fail
      go_ret
      refine ⟨?_, hW2.trans (hb3.mono hW2.size)⟩
      rw [← R.out, cB, HQ.out, HGB.out, HBT.out, Bool.true_and]; rfl

set_option maxHeartbeats 1000000 in
theorem isClause_any (c : Cl) (u v : Value) (w : World) (hu : Sl w (fun _ => True) u c.hd) (hv : Sl w (fun _ => True) v c.bd) (h1 : c.hd.nodes < 1048576) (h2 : c.bd.nodes ≤ 1048576) :
    Calls Tryd.prog 19 #[.agg #[.int .i64 c.k, .int .i64 c.n, .string c.s, u, v, .int .i64 c.vars]] w fun e w' => e = .returned (.bool (cB c)) ∧ Below w.heap.size w w' := by
  obtain ⟨A, d, rfl, hu⟩ := hu.form
  obtain ⟨A', d', rfl, hv⟩ := hv.form
  generalize hr : cB c = rb
  have R := Lib.hid hr
  clear hr
  go_enter Tryd.func19, Tryd.ntmps19
  go_wp2_with fail
  have hW0 : Below w.heap.size w (w.alloc (.cells #[.int .i64 c.k, .int .i64 c.n, .string c.s, .slice A c.hd.length d, .slice A' c.bd.length d', .int .i64 c.vars] 32)) := (Below.refl _ _).alloc (Nat.le_refl _) _
  have bA := Plot.new w 32 #[.int .i64 c.k, .int .i64 c.n, .string c.s, .slice A c.hd.length d, .slice A' c.bd.length d', .int .i64 c.vars]
  generalize (w.alloc (.cells #[.int .i64 c.k, .int .i64 c.n, .string c.s, .slice A c.hd.length d, .slice A' c.bd.length d', .int .i64 c.vars] 32)) = W0 at *
  have hu0 := hu.below hW0
  refine (isQuery_any c.vars c.bd _ W0 (hv.below hW0) h2).mono ?_
  rintro e w1 ⟨rfl, hb1⟩
  have hW1 := hW0.trans (hb1.mono hW0.size)
  have bA1 := bA.below hb1
  have hu1 := hu0.below hb1
  generalize hq : qB c.vars c.bd = qb
  have HQ := Lib.hid hq
  clear hq
  cases qb with
  | false =>
    go_wp2_with fail
    go_ret
    refine ⟨?_, hW1⟩
    rw [← R.out, cB, HQ.out]; rfl
  | true =>
    have p0 := bA1.cell 0
    have p1 := bA1.cell 1
    have p2 := bA1.cell 2
    have p3 := bA1.cell 3
    have p5 := bA1.cell 5
    simp at p0 p1 p2 p3 p5
    go_wp2_with fail
    refine (small_any c.vars c.k c.n c.s c.hd _ _ hu1 h1).mono ?_
    rintro e w2 ⟨rfl, hb2⟩
    have hW2 := hW1.trans (hb2.mono hW1.size)
    have bA2 := bA1.below hb2
    clear p0 p1 p2 p3 p5
    generalize hg : gB c.vars c.k c.n c.s c.hd = gb
    have HGB := Lib.hid hg
    clear hg
    cases gb with
    | false =>
      go_wp2_with fail
      go_ret
      refine ⟨?_, hW2⟩
      rw [← R.out, cB, HGB.out, Bool.and_false]; rfl
    | true =>
      have p0 := bA2.cell 0
      have p1 := bA2.cell 1
      have p2 := bA2.cell 2
      have p3 := bA2.cell 3
      simp at p0 p1 p2 p3
      go_wp2_with fail
      refine (everybody_any c.k c.n c.s A c.hd.length d _).mono ?_
      rintro e w3 ⟨rfl, hb3⟩
      generalize hbb : builtB c.s.toList c.hd.length = bb
      have HBT := Lib.hid hbb
      clear hbb
      go_wp2_with fail
      go_ret
      refine ⟨?_, hW2.trans (hb3.mono hW2.size)⟩
      rw [← R.out, cB, HQ.out, HGB.out, HBT.out, Bool.true_and]; rfl
end Go.Proofs.YtdiophafmokfiaaDoor
