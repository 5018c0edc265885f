/- Steps of the proof. -/
import Derived.Test.YthliapbflkfdiacGreatDoorG3
import Derived.Shelf.Strconv.Itoa3
import Derived.Shelf.Strconv.ErrVarAll
namespace Go.Proofs.YthliapbflkfdiacGreatDoor
open Go.RowKit
structure Cl where
 k : Int
 n : Int
 s : ByteArray
 hd : Ts
 bd : Ts
 vars : Int
def cB (c : Cl) : Bool := qB c.vars c.bd && gB c.vars c.k c.n c.s c.hd && !QaG c.s.toList c.hd.length
def Qm5 (w : World) (p : Nat → Prop) : List Cl → Nat → Nat → Prop
 | [], _, _ => True
 | c :: r, b, o => p b ∧ w.cell? ⟨b, o, none⟩ = some (.int .i64 c.k) ∧ w.cell? ⟨b, o + 1, none⟩ = some (.int .i64 c.n) ∧ w.cell? ⟨b, o + 2, none⟩ = some (.string c.s) ∧
  (∃ v, w.cell? ⟨b, o + 3, none⟩ = some v ∧ Sl w p v c.hd) ∧ (∃ v, w.cell? ⟨b, o + 4, none⟩ = some v ∧ Sl w p v c.bd) ∧ w.cell? ⟨b, o + 5, none⟩ = some (.int .i64 c.vars) ∧ Qm5 w p r b (o + 6)
def SlC (w : World) (p : Nat → Prop) (v : Value) (L : List Cl) : Prop := ∃ A c, v = .slice A L.length c ∧ L.length ≤ c ∧ (0 < L.length → ∃ b o, A = some ⟨b, o, none⟩ ∧ Qm5 w p L b o)
section
variable {w w' : World} {p q : Nat → Prop}
theorem Qm5.keep {L : List Cl} : ∀ {b o : Nat}, Qm5 w p L b o → (∀ k, p k → k < w.heap.size → w'.heap[k]? = w.heap[k]?) → Qm5 w' p L b o := by
 induction L with
 | nil => intro b o _ _; trivial
 | cons c r ih =>
  intro b o ⟨h0, h1, h2, h3, ⟨v, h4, h5⟩, ⟨u, h6, h7⟩, h8, h9⟩ hk
  have hc : ∀ j, w'.cell? ⟨b, j, none⟩ = w.cell? ⟨b, j, none⟩ := fun j => World.cell?_of_block (hk b h0 (Qbe h1))
  exact ⟨h0, (hc _).trans h1, (hc _).trans h2, (hc _).trans h3, ⟨v, (hc _).trans h4, h5.keep hk⟩, ⟨u, (hc _).trans h6, h7.keep hk⟩, (hc _).trans h8, ih h9 hk⟩
theorem SlC.keep {L : List Cl} {v : Value} (h : SlC w p v L) (hk : ∀ k, p k → k < w.heap.size → w'.heap[k]? = w.heap[k]?) : SlC w' p v L := by
 obtain ⟨A, c, e, hl, hs⟩ := h
 exact ⟨A, c, e, hl, fun h => by obtain ⟨b, o, e, h⟩ := hs h; exact ⟨b, o, e, h.keep hk⟩⟩
theorem SlC.below {L : List Cl} {v : Value} (h : SlC w p v L) (hb : Below w.heap.size w w') : SlC w' p v L := h.keep fun k _ hk => hb.block k hk
theorem SlC.form {L : List Cl} {v : Value} (h : SlC w p v L) : ∃ A c, v = .slice A L.length c ∧ SlC w p (.slice A L.length c) L := by
 obtain ⟨A, c, rfl, h2⟩ := h
 exact ⟨A, c, rfl, A, c, rfl, h2⟩
theorem Qm5.skip {R : List Cl} {b : Nat} : ∀ {D : List Cl} {o : Nat}, Qm5 w p (D ++ R) b o → Qm5 w p R b (o + D.length * 6)
 | [], o, h => by simpa using h
 | c :: D, o, ⟨_, _, _, _, _, _, _, h⟩ => by
  have := Qm5.skip (R := R) (D := D) h
  rwa [show o + 6 + D.length * 6 = o + (c :: D).length * 6 by simp; omega] at this
theorem SlC.at_ {A : Option Addr} {len c : Nat} {D R : List Cl} (h : SlC w p (.slice A len c) (D ++ R)) (hR : 0 < R.length) : ∃ b o, A = some ⟨b, o, none⟩ ∧ Qm5 w p R b (o + D.length * 6) := by
 obtain ⟨A', c', e, hl, hs⟩ := h
 cases e
 obtain ⟨b, o, e, h⟩ := hs (by rw [List.length_append]; omega)
 exact ⟨b, o, e, h.skip⟩
end
set_option maxHeartbeats 1000000 in
theorem QiB (c : Cl) (u v : Value) (w : World) (hu : Sl w (fun _ => True) u c.hd) (hv : Sl w (fun _ => True) v c.bd) (h1 : c.hd.nodes < 1048576) (h2 : c.bd.nodes ≤ 1048576) :
  Calls Tryz.prog 49 #[.agg #[.int .i64 c.k, .int .i64 c.n, .string c.s, u, v, .int .i64 c.vars]] w fun e w' => e = .returned (.bool (cB c)) ∧ Below w.heap.size w w' := by
 obtain ⟨A, d, rfl, hu⟩ := hu.form
 obtain ⟨A', d', rfl, hv⟩ := hv.form
 generalize hr : cB c = rb
 have R := Lib.hid hr
 clear hr
 go_enter Tryz.func49, Tryz.ntmps49
 go_wp2_with fail
 have hW0 : Below w.heap.size w (w.alloc (.cells #[.int .i64 c.k, .int .i64 c.n, .string c.s, .slice A c.hd.length d, .slice A' c.bd.length d', .int .i64 c.vars] 65)) := (Below.refl _ _).alloc (Nat.le_refl _) _
 have bA := Qan.new w 65 #[.int .i64 c.k, .int .i64 c.n, .string c.s, .slice A c.hd.length d, .slice A' c.bd.length d', .int .i64 c.vars]
 generalize (w.alloc (.cells #[.int .i64 c.k, .int .i64 c.n, .string c.s, .slice A c.hd.length d, .slice A' c.bd.length d', .int .i64 c.vars] 65)) = W0 at *
 have hu0 := hu.below hW0
 refine (Qfr c.vars c.bd _ W0 (hv.below hW0) h2).mono ?_
 rintro e w1 ⟨rfl, hb1⟩
 have hW1 := hW0.trans (hb1.mono hW0.size)
 have bA1 := bA.below hb1
 have hu1 := hu0.below hb1
 generalize hq : qB c.vars c.bd = qb
 have HQ := Lib.hid hq
 clear hq
 cases qb with
 | false =>
  go_wp2_with fail
  go_ret
  refine ⟨?_, hW1⟩
  rw [← R.out, cB, HQ.out]; rfl
 | true =>
  have p0 := bA1.cell 0
  have p1 := bA1.cell 1
  have p2 := bA1.cell 2
  have p3 := bA1.cell 3
  have p5 := bA1.cell 5
  simp at p0 p1 p2 p3 p5
  go_wp2_with fail
  refine (Qgv c.vars c.k c.n c.s c.hd _ _ hu1 h1).mono ?_
  rintro e w2 ⟨rfl, hb2⟩
  have hW2 := hW1.trans (hb2.mono hW1.size)
  have bA2 := bA1.below hb2
  clear p0 p1 p2 p3 p5
  generalize hg : gB c.vars c.k c.n c.s c.hd = gb
  have HGB := Lib.hid hg
  clear hg
  cases gb with
  | false =>
   go_wp2_with fail
   go_ret
   refine ⟨?_, hW2⟩
   rw [← R.out, cB, HGB.out, Bool.and_false]; rfl
  | true =>
   have p0 := bA2.cell 0
   have p1 := bA2.cell 1
   have p2 := bA2.cell 2
   have p3 := bA2.cell 3
   simp at p0 p1 p2 p3
   go_wp2_with fail
   refine (QeV c.k c.n c.s A c.hd.length d _).mono ?_
   rintro e w3 ⟨rfl, hb3⟩
   generalize hbb : QaG c.s.toList c.hd.length = bb
   have HBT := Lib.hid hbb
   clear hbb
   go_wp2_with fail
   go_ret
   refine ⟨?_, hW2.trans (hb3.mono hW2.size)⟩
   rw [← R.out, cB, HQ.out, HGB.out, HBT.out, Bool.true_and]; rfl
set_option linter.unusedVariables false
set_option maxRecDepth 100000
set_option maxHeartbeats 1000000
def Few (f : RS → Nd × RS) : Prop := ∀ s, (f s).1.ar.nodes + (f s).2.left ≤ s.left
theorem QnJ {f : RS → Nd × RS} (hf : Few f) : ∀ (n : Nat) (s : RS), (Qbw (QaV f n s).1).nodes + (QaV f n s).2.left ≤ s.left
 | 0, s => by simp [QaV, Qbw, Ts.nodes]
 | n + 1, s => by
  unfold QaV
  split
  ·rename_i h
   have h1 := QcY s (by rw [h]; simp)
   have h2 := hf s.adv
   have h3 := QnJ hf n (f s.adv).2
   simp only [Qbw, Ts.nodes]
   omega
  ·simp [Qbw, Ts.nodes]
theorem Qhc {f : RS → Nd × RS} (hf : Few f) (s : RS) : (Qbw (QL f s).1).nodes + (QL f s).2.left ≤ s.left + 1 := by
 unfold QL
 have h2 := hf s
 have h3 := QnJ hf (f s).2.left (f s).2
 simp only [Qbw, Ts.nodes]
 omega
theorem QtY (s : RS) {t : Str} (h : s.token = t) (hn : t ≠ []) : (s.take t).left < s.left := by
 unfold RS.take
 rw [if_pos h]
 exact QcY s (by rw [h]; exact hn)
theorem Qe4 (num : Str → Option Int) : ∀ d, Few (Qw num d)
 | 0, s => by simp [Qw, Nd.zero, Ts.nodes, RS.fail, RS.left]
 | d + 1, s => by
  cases ht : s.token with
  | nil => simp [Qw, ht, Nd.zero, Ts.nodes, RS.fail, RS.left]
  | cons c r =>
   have h1 := QcY s (by rw [ht]; simp)
   rw [QaJ num d ht]
   split
   ·have := (QgE s.adv (c :: r)).1
    simp only [Ts.nodes]; omega
   split
   ·rename_i hp
    have htk : s.adv.token = [40] := by simp at hp; exact hp.2
    have h4 := QtY s.adv htk Yd
    have h6 := Qhc (Qe4 num d) (s.adv.take [40])
    have h7 := take_left (QL (Qw num d) (s.adv.take [40])).2 [41]
    simp only
    omega
   split
   ·simp only [Ts.nodes]; omega
   split
   ·have := (Qcj num s.adv (c :: r)).1
    simp only [Ts.nodes]; omega
   ·simp [Nd.zero, Ts.nodes, RS.fail, RS.left]
section
variable (num : Str → Option Int)
def QaW (s : RS) : List Nd × RS := if s.token = [58, 45] then QL (Qw num 24) s.adv else ([], s)
def QS (s : RS) : Cl × RS :=
 let p := Qw num 24 { s with vars := [] }
 let q := QaW num p.2
 let s3 := q.2.take [46]
 let c : Cl := ⟨p.1.k, p.1.n, ⟨p.1.s.toArray⟩, p.1.ar, Qbw q.1, (s3.vars.length : Nat)⟩
 (c, if cB c then s3 else s3.fail 1)
end
theorem Qmx (s : RS) : s.rest.length ≤ s.left := Nat.le_add_left _ _
theorem St.dropMid {M : List Nat} {w0 w : World} {H L : List (Nat × Obj)} {F : List (World → Prop)} {p : Nat × Obj} (h : St M w0 (p :: (L ++ H)) F w) : St M w0 (p :: H) F w :=
 St.dropL (L := L) (h.perm (List.perm_middle (l₁ := L)).symm)
theorem Qkm (num : Str → Option Int) (s : RS) : (Qbw (QaW num s).1).nodes + (QaW num s).2.left ≤ s.left ∧ (QaW num s).2.left ≤ s.left ∧ (QaW num s).2.vars.length + (QaW num s).2.left ≤ s.vars.length + s.left := by
 unfold QaW
 split
 ·rename_i h
  have h1 := QcY s (by rw [h]; simp)
  have h2 := Qhc (Qe4 num 24) s.adv
  have h3 := QcI (QaY num 24) s.adv
  rw [QbH] at h3
  omega
 ·simp [Qbw, Ts.nodes]
theorem QsU (num : Str → Option Int) (G : World → Prop) (L1 : Qpp) (L2 : Qpv) (L3 : Quz num G) (s : RS) (V : Value) (VH : List (Nat × Obj)) (M : List Nat) (w0 w : World) (H : List (Nat × Obj)) (F : List (World → Prop)) (b : Nat) (hG : ∀ w', Ext M w0 w' → G w')
  (hl : s.left < 1048576) (hV : Qol s.vars V VH) (hS : St M w0 ((b, rdr s V) :: (VH ++ H)) F w) :
  Calls Tryz.prog 41 #[ptr b] w fun e w' => ∃ u v V' VH', e = .returned (.agg #[.int .i64 (QS num s).1.k, .int .i64 (QS num s).1.n, .string (QS num s).1.s, u, v, .int .i64 (QS num s).1.vars]) ∧
   Qol (QS num s).2.vars V' VH' ∧ St M w0 ((b, rdr (QS num s).2 V') :: (VH' ++ H)) ((fun w => Sl w (fun _ => True) v (QS num s).1.bd) :: (fun w => Sl w (fun _ => True) u (QS num s).1.hd) :: F) w' := by
 obtain ⟨A, vc, rfl⟩ := hV.form
 have hnil : ∀ w : World, Sl w (fun _ => True) (.slice none 0 0) .nil := fun w => ⟨none, 0, rfl, Nat.le_refl _, fun h => by cases h⟩
 have hl0 : (RS.mk s.token s.rest [] s.err).left ≤ 1048576 := by unfold RS.left at *; simp only; omega
 have hless := QaY num 24 ⟨s.token, s.rest, [], s.err⟩
 have hfew := Qe4 num 24 ⟨s.token, s.rest, [], s.err⟩
 have hl1 : (RS.mk s.token s.rest [] s.err).left = s.left := rfl
 refine Qh Tryz.func41 rfl Tryz.ntmps41 rfl ?_
 refine Zg ?_
 refine ZeS ?_
 clear hS
 intro b1 wx1 hS
 refine Zb ?_
 refine ZZ ?_
 refine Zaw ?_
 refine Zt ?_
 clear hS
 intro wx2 hS
 refine Zbn ?_
 replace hS := hS.sink1
 replace hS := St.dropMid (L := VH) hS
 refine Zf ?_
 refine Calls.mono (Qhd num G L1 L2 L3 24 Ya ⟨s.token, s.rest, [], s.err⟩ _ [] M w0 _ _ F b hG hl0 Yh Row.nil_ hS) ?_
 rintro _ w1 ⟨u, V1, VH1, rfl, hV1, hS'⟩
 refine Za ?_
 replace hS := hS'
 clear hS'
 obtain ⟨A1, c1, rfl, _⟩ := (hS.fact (.head _)).form
 refine Qa (QN (cells := [_, _, _, _, _, _]) (.cons Yb .nil) rfl) rfl ?_
 refine ZeS ?_
 clear hS
 intro b2 wx3 hS
 refine Zd ?_
 clear hS
 intro wx4 hS
 refine ZaZ ?_
 refine Zal ?_
 refine Zo ?_
 refine ZaP ?_
 refine Zb ?_
 generalize hp : Qw num 24 ⟨s.token, s.rest, [], s.err⟩ = p at *
 obtain ⟨nd, s1⟩ := p
 simp only at *
 have hb1 := Qkm num s1
 simp only [List.length_nil, Nat.zero_add] at hless
 have e1 : QS num s = (⟨nd.k, nd.n, ⟨nd.s.toArray⟩, nd.ar, Qbw (QaW num s1).1, (((QaW num s1).2.take [46]).vars.length : Nat)⟩,
   if cB ⟨nd.k, nd.n, ⟨nd.s.toArray⟩, nd.ar, Qbw (QaW num s1).1, (((QaW num s1).2.take [46]).vars.length : Nat)⟩ then (QaW num s1).2.take [46] else ((QaW num s1).2.take [46]).fail 1) := by
  simp only [QS]; rw [hp]
 simp only [QbJ] at e1
 obtain ⟨Av, cv, rfl⟩ := hV1.form
 refine QeR (15 :: 16 :: 17 :: 18 :: 19 :: []) (fun w' => ∃ V VH v, Qol (QaW num s1).2.vars V VH ∧ St M w0 ((b2, .cells [.int .i64 nd.k, .int .i64 nd.n, sv nd.s, .slice A1 nd.ar.length c1, v, .int .i64 0].toArray 65) :: (b, rdr (QaW num s1).2 V) :: (VH ++ (b1, .cells [.int .i64 0, .int .i64 0, sv [], .slice none 0 0, .slice none 0 0, .int .i64 0].toArray 65) :: H)) ((fun w => Sl w (fun _ => True) v (Qbw (QaW num s1).1)) :: (fun w => Sl w (fun _ => True) (.slice A1 nd.ar.length c1) nd.ar) :: F) w') ?_ ?_
 ·intro hk
  refine Qcn rfl (fun h => ?_) (fun h => ?_)
  ·have h' : s1.token = [58, 45] := by simpa using h
   have eb : QaW num s1 = QL (Qw num 24) s1.adv := by unfold QaW; rw [if_pos h']
   have hlt := QcY s1 (by rw [h']; simp)
   have hv := QbH s1
   have hrest : s1.rest.length ≤ 1048576 := by have := Qmx s1; omega
   replace hS := hS.sink1
   refine ZG ?_
   refine Calls.mono (QeX L1 L2 s1 _ hrest hS) ?_
   rintro _ w2 ⟨rfl, hS'⟩
   refine Za ?_
   replace hS := hS'
   clear hS'
   refine Zcp ?_
   refine Zf ?_
   refine Calls.mono (QiM num G L1 L2 L3 24 Ya s1.adv _ VH1 M w0 _ _ _ b hG Ya (by rw [hv]; omega) (by rw [hv]; exact hV1) hS) ?_
   rintro _ w3 ⟨v, V2, VH2, rfl, hV2, hS'⟩
   refine Za ?_
   replace hS := hS'.raise1
   clear hS'
   obtain ⟨A2, c2, rfl, _⟩ := (hS.fact (.head _)).form
   refine Qa (Qi (off := 4) rfl rfl) rfl ?_
   refine Zt ?_
   clear hS
   intro wx5 hS
   refine Zb ?_
   rw [← eb] at hS hV2
   exact hk _ _ ⟨V2, VH2, _, hV2, hS⟩ Yc
  ·have h' : ¬ s1.token = [58, 45] := by simpa using h
   have eb : QaW num s1 = ([], s1) := by unfold QaW; rw [if_neg h']
   refine Zag ?_
   refine hk _ _ ?_ Yc
   rw [eb]
   exact ⟨_, VH1, _, hV1, hS.learn fun w _ => hnil w⟩
 ·clear hS hV1
  rintro jv w2 ⟨V, VH2, v, hV2, hS⟩
  generalize QaW num s1 = q at *
  obtain ⟨B, s2⟩ := q
  simp only at *
  have hrest2 : s2.rest.length ≤ 1048576 := by have := Qmx s2; omega
  obtain ⟨A2, c2, rfl, _⟩ := (hS.fact (.head _)).form
  obtain ⟨Av2, cv2, rfl⟩ := hV2.form
  replace hS := hS.sink1
  refine Zbq ?_
  refine Calls.mono (QgG L1 L2 s2 [46] _ hrest2 hS) ?_
  rintro _ w3 ⟨rfl, hS'⟩
  refine Za ?_
  replace hS := hS'
  clear hS'
  replace hS := hS.raise1.raise2
  refine Zb ?_
  refine ZaE ?_
  refine Zs ?_
  refine ZdB ?_
  refine Zt ?_
  clear hS
  intro wx5 hS
  refine ZK ?_
  refine Zg ?_
  refine ZdC ?_
  have hg := QiB ⟨nd.k, nd.n, ⟨nd.s.toArray⟩, nd.ar, Qbw B, (s2.vars.length : Nat)⟩ _ _ _ (hS.fact (.tail _ (.head _))) (hS.fact (.head _)) (by simp only; omega) (by simp only; omega)
  refine Zk ?_
  refine Calls.mono hg ?_
  rintro _ w4 ⟨rfl, hb4⟩
  refine Za ?_
  replace hS := hS.grow hb4
  generalize cB ⟨nd.k, nd.n, ⟨nd.s.toArray⟩, nd.ar, Qbw B, (s2.vars.length : Nat)⟩ = ok at *
  cases ok with
  | true =>
   refine ZV ?_
   refine Zg ?_
   refine ZdC ?_
   refine Zd ?_
   clear hS
   intro wx6 hS
   refine Zb ?_
   refine Zfz ?_
   rw [e1]
   exact ⟨_, _, _, VH2, rfl, by simp only [if_true, QbJ]; exact hV2, hS.drop.drop⟩
  | false =>
   refine Zbl ?_
   refine ZU ?_
   replace hS := hS.up3
   refine Zf ?_
   refine Calls.mono (Qcw (s2.take [46]) 1 _ hS) ?_
   rintro _ w5 ⟨rfl, hS'⟩
   refine Za ?_
   replace hS := hS'
   clear hS'
   replace hS := hS.down3
   refine Za0 ?_
   refine ZdC ?_
   refine Zd ?_
   clear hS
   intro wx6 hS
   refine Zb ?_
   refine Zfz ?_
   rw [e1]
   exact ⟨_, _, _, VH2, rfl, by simp only [Bool.false_eq_true, if_false, RS.fail, QbJ]; exact hV2, hS.drop.drop⟩
theorem QtX (num : Str → Option Int) (d : Nat) (s : RS) (h : s.token ≠ []) : (Qw num (d + 1) s).2.left < s.left := by
 cases ht : s.token with
 | nil => exact absurd ht h
 | cons c r =>
  have h1 := QcY s h
  rw [QaJ num d ht]
  split
  ·have := (QgE s.adv (c :: r)).1
   simp only; omega
  split
  ·have h4 := take_left s.adv [40]
   have h6 := (QcI (QaY num d) (s.adv.take [40])).1
   have h7 := take_left (QL (Qw num d) (s.adv.take [40])).2 [41]
   simp only; omega
  split
  ·simp only; omega
  split
  ·have := (Qcj num s.adv (c :: r)).1
   simp only; omega
  ·simp only [QlK]; omega
theorem Qd2 (num : Str → Option Int) (s : RS) (h : s.token ≠ []) : (QS num s).2.left < s.left := by
 have h1 : (Qw num 24 ⟨s.token, s.rest, [], s.err⟩).2.left < _ := QtX num 23 ⟨s.token, s.rest, [], s.err⟩ h
 have h2 : (RS.mk s.token s.rest [] s.err).left = s.left := rfl
 simp only [QS]
 have h3 := (Qkm num (Qw num 24 ⟨s.token, s.rest, [], s.err⟩).2).2.1
 have h4 := take_left (QaW num (Qw num 24 ⟨s.token, s.rest, [], s.err⟩).2).2 [46]
 split
 ·omega
 ·simp only [QlK]; omega
section
variable (num : Str → Option Int)
def QE : Nat → RS → List Cl × RS
 | 0, s => ([], s)
 | n + 1, s => if s.token = [] then ([], s) else ((QS num s).1 :: (QE n (QS num s).2).1, (QE n (QS num s).2).2)
theorem Qqe : ∀ (n : Nat) (s : RS), s.left ≤ n → QE num n s = QE num s.left s := by
 intro n
 induction n using Nat.strongRecOn with
 | _ n ih =>
  intro s hn
  by_cases ht : s.token = []
  ·have h0 : ∀ k, QE num k s = ([], s) := fun k => by cases k <;> simp [QE, ht]
   rw [h0, h0]
  ·have h1 := Qd2 num s ht
   obtain ⟨m, rfl⟩ : ∃ m, n = m + 1 := ⟨n - 1, by omega⟩
   obtain ⟨l, hl⟩ : ∃ l, s.left = l + 1 := ⟨s.left - 1, by omega⟩
   rw [hl]
   simp only [QE, if_neg ht]
   rw [ih m Ya _ Ya, ih l Ya _ Ya]
theorem Qk6 {s : RS} (ht : ¬ s.token = []) : QE num s.left s = ((QS num s).1 :: (QE num (QS num s).2.left (QS num s).2).1, (QE num (QS num s).2.left (QS num s).2).2) := by
 have h1 := Qd2 num s ht
 obtain ⟨l, hl⟩ : ∃ l, s.left = l + 1 := ⟨s.left - 1, by omega⟩
 rw [hl]
 simp only [QE, if_neg ht]
 rw [Qqe num l _ Ya]
theorem Qk5 {s : RS} (ht : s.token = []) : QE num s.left s = ([], s) := by
 cases s.left <;> simp [QE, ht]
def Qq (l : Str) : List Cl × Int :=
 let p := QE num (RS.start l).left (RS.start l)
 let s := if 24 < p.1.length then p.2.fail 3 else p.2
 if s.err = 0 then (p.1, 0) else ([], s.err)
end
theorem QfU (l : Str) : (RS.start l).left ≤ l.length ∧ (RS.start l).vars = [] := by
 unfold RS.start
 split
 ·have := QfH (RS.fail ⟨[], l, [], 0⟩ 3)
  rw [QbH]
  exact ⟨by simp [RS.fail] at this ⊢; omega, rfl⟩
 ·have := QfH ⟨[], l, [], 0⟩
  rw [QbH]
  exact ⟨this, rfl⟩
theorem QeF (l : Str) : (RS.start l).left ≤ 2000 := by
 have h1 := (QfU l).1
 by_cases h : 2000 < l.length
 ·have h2 : (RS.start l).left = 0 := by unfold RS.start; rw [if_pos h]; rfl
  omega
 ·omega
def Qb0 (w : World) : List Cl → List Value → Prop
 | [], xs => xs = []
 | c :: r, xs => ∃ u v ys, xs = .int .i64 c.k :: .int .i64 c.n :: .string c.s :: u :: v :: .int .i64 c.vars :: ys ∧ Sl w (fun _ => True) u c.hd ∧ Sl w (fun _ => True) v c.bd ∧ Qb0 w r ys
theorem Qb0.app {w : World} : ∀ {a b : List Cl} {xs ys : List Value}, Qb0 w a xs → Qb0 w b ys → Qb0 w (a ++ b) (xs ++ ys)
 | [], b, xs, ys, h, h2 => by rw [show xs = [] from h]; exact h2
 | c :: a, b, xs, ys, ⟨u, v, zs, e, h3, h4, h5⟩, h2 => ⟨u, v, zs ++ ys, by rw [e]; rfl, h3, h4, h5.app h2⟩
theorem Qb0.seg {w : World} : ∀ {L : List Cl} {xs : List Value} {b o : Nat}, Qb0 w L xs → (∀ j u, xs[j]? = some u → w.cell? ⟨b, o + j, none⟩ = some u) → Qm5 w (fun _ => True) L b o
 | [], _, _, _, _, _ => trivial
 | c :: r, xs, b, o, ⟨u, v, ys, e, h3, h4, h5⟩, hc => by
  subst e
  refine ⟨trivial, hc 0 _ rfl, hc 1 _ rfl, hc 2 _ rfl, ⟨u, hc 3 _ rfl, h3⟩, ⟨v, hc 4 _ rfl, h4⟩, hc 5 _ rfl, Qb0.seg h5 fun j x hj => ?_⟩
  have := hc (j + 6) x (by simpa using hj)
  rwa [show o + (j + 6) = o + 6 + j by omega] at this
section
variable {M : List Nat} {w0 : World} {H : List (Nat × Obj)} {F : List (World → Prop)}
theorem St.shutC {v : Value} {xs : List Value} {O : List (Nat × Obj)} {L : List Cl} {w : World} {el : Nat} (hr : Row el 6 v L.length xs O) (hS : St M w0 (O ++ H) ((fun w => Qb0 w L xs) :: F) w) :
  St M w0 H ((fun w => SlC w (fun _ => True) v L) :: F) w := by
 have hC := hS.facts _ (List.mem_cons_self ..)
 have hb := (hS.unlearn.dropL).learn (φ := fun w => SlC w (fun _ => True) v L) fun w' hx => ?_
 ·exact hb
 generalize hl : L.length = tl at hr
 cases hr with
 | nil_ => exact ⟨none, 0, by rw [hl], by omega, fun h => by omega⟩
 | own_ h1 h2 h3 hcp =>
  rename_i bl cap sp
  have hbl : w.heap[bl]? = some (.cells (xs ++ sp).toArray el) := hS.own (bl, _) Yd
  have hnk : bl ∉ H.map (·.1) := fun hk => by
   obtain ⟨q, hq, e⟩ := List.mem_map.1 hk
   exact (List.pairwise_cons.1 hS.apart).1 q hq e.symm
  have hbl' : w'.heap[bl]? = some (.cells (xs ++ sp).toArray el) := by rw [hx.block bl (QcL hbl) hnk]; exact hbl
  have hcs := hC w' (hx.mono fun k _ hk => by simp at hk ⊢; exact .inr hk)
  refine ⟨_, cap, by rw [hl], by omega, fun _ => ⟨bl, 0, rfl, Qb0.seg hcs fun j u hj => ?_⟩⟩
  have hjl : j < xs.length := by
   rcases Nat.lt_or_ge j xs.length with h | h
   ·exact h
   ·rw [List.getElem?_eq_none h] at hj; cases hj
  rw [Qu hbl', Nat.zero_add, List.getElem?_append_left hjl]; exact hj
theorem Qqd (num : Str → Option Int) (G : World → Prop) (L1 : Qpp) (L2 : Qpv) (L3 : Quz num G) (l : Str) (w : World) (hG : ∀ w', Ext M w0 w' → G w') (hl : l.length ≤ 1125899906842624) (hS : St M w0 H F w) :
  Calls Tryz.prog 24 #[sv l] w fun e w' => ∃ v, e = .returned (.tuple #[v, .int .i64 (Qq num l).2]) ∧ St M w0 H ((fun w => SlC w (fun _ => True) v (Qq num l).1) :: F) w' := by
 have hst := QfU l
 have hsh := QeF l
 refine Qh Tryz.func24 rfl Tryz.ntmps24 rfl ?_
 refine ZcZ ?_
 refine ZG ?_
 refine Calls.mono (Qfl L1 L2 l _ Ya hS) ?_
 rintro _ w1 ⟨b, rfl, hS'⟩
 refine Za ?_
 replace hS := hS'
 clear hS'
 refine Zc ?_
 refine Zj ?_
 refine Zap ?_
 refine Qo 5 (8 :: 9 :: 10 :: 11 :: 12 :: 13 :: 14 :: 15 :: 16 :: 17 :: []) (fun (x : List Cl × RS) v w' => ∃ V VH O xs, Qol x.2.vars V VH ∧ Row 65 6 v x.1.length xs O ∧ St M w0 ((b, rdr x.2 V) :: (VH ++ (O ++ H))) ((fun w => Qb0 w x.1 xs) :: F) w' ∧ x.1.length + x.2.left < 1048576 ∧ QE num (RS.start l).left (RS.start l) = (x.1 ++ (QE num x.2.left x.2).1, (QE num x.2.left x.2).2)) (fun x => x.2.left) (([], RS.start l)) ?_ Yb ?_
 ·exact ⟨_, [], [], [], by rw [hst.2]; exact Row.nil_, Row.nil_, hS.learn (fun _ _ => rfl), by simp; omega, rfl⟩
 clear hS
 rintro ⟨D, s2⟩ v2 w2 jv ⟨V2, VH2, O2, xs2, hV2, hR2, hS, hD1, hi⟩ ih
 simp only at hV2 hR2 hS hD1 hi
 obtain ⟨A2, c2, rfl⟩ := hV2.form
 obtain ⟨Ao, co, rfl⟩ := hR2.form
 refine Zw ?_
 refine Zal ?_
 refine Zo ?_
 refine Za6 ?_
 refine Zb ?_
 refine Qcn rfl (fun h => ?_) (fun h => ?_)
 ·have h' : ¬ s2.token = [] := by simpa using h
  have hlt := Qd2 num s2 h'
  have hst2 := Qk6 num h'
  refine Zb2 ?_
  refine Z1 ?_
  refine Zk ?_
  refine Calls.mono (QsU num G L1 L2 L3 s2 _ VH2 M w0 _ (O2 ++ H) _ b hG Ya hV2 hS) ?_
  rintro _ w4 ⟨u, v, V3, VH3, rfl, hV3, hS'⟩
  refine Za ?_
  replace hS := hS'
  clear hS'
  obtain ⟨A3, c3, rfl, _⟩ := (hS.fact (.head _)).form
  obtain ⟨A4, c4, rfl, _⟩ := (hS.fact (.tail _ (.head _))).form
  generalize QS num s2 = r3 at *
  obtain ⟨cl3, s3⟩ := r3
  simp only at *
  refine QaK (cells := [_, _, _, _, _, _]) hS (.cons Yb .nil) rfl rfl ?_
  clear hS
  intro b1 wx1 hS
  refine Qa8 (sz := 6) (bts := 88) hS Yb rfl rfl rfl rfl (hR2) rfl rfl (.cons _ (List.perm_append_comm_assoc (_ :: VH3) O2 H)) Ya Ya rfl ?_
  clear hS
  intro v4 O4 w5 hR4 hS
  replace hS := (hS.perm (List.perm_append_comm_assoc O4 ((b, rdr s3 V3) :: VH3) H)).conv2 (ψ := fun w => Sl w (fun _ => True) (.slice A4 cl3.hd.length c4) cl3.hd ∧ Sl w (fun _ => True) (.slice A3 cl3.bd.length c3) cl3.bd) fun w h1 h2 => ⟨h2, h1⟩
  replace hS := hS.conv2 (ψ := fun w => Qb0 w (D ++ [cl3]) (xs2 ++ [.int .i64 cl3.k, .int .i64 cl3.n, .string cl3.s, .slice A4 cl3.hd.length c4, .slice A3 cl3.bd.length c3, .int .i64 cl3.vars])) fun w h1 h2 => h2.app ⟨_, _, [], rfl, h1.1, h1.2, rfl⟩
  obtain ⟨A5, c5, rfl⟩ := hR4.form
  refine Zc ?_
  refine ZaH ?_
  refine ih ((D ++ [cl3], s3)) _ _ _ ?_ ?_ Yb Yc
  ·simp only; omega
  ·refine ⟨V3, VH3, O4, _, hV3, ?_, hS, ?_, ?_⟩
   ·simp only [List.length_append, List.length_cons, List.length_nil]; exact hR4
   ·simp only [List.length_append, List.length_cons, List.length_nil]; omega
   ·simp only; rw [hi, hst2]; simp
 ·have h' : s2.token = [] := by simpa using h
  rw [Qk5 num h', List.append_nil] at hi
  simp only at hi
  have hno : ∀ w, SlC w (fun _ => True) (.slice none 0 0) [] := fun w => ⟨none, 0, rfl, Nat.le_refl _, fun h => by cases h⟩
  by_cases h24 : 24 < D.length
  ·have herr : (s2.fail 3).err ≠ 0 := by simp only [RS.fail]; split <;> omega
   have e : Qq num l = ([], (s2.fail 3).err) := by
    simp only [Qq]; rw [hi]; simp only [if_pos h24]; rw [if_neg herr]
   refine Zbf ?_
   refine Zw ?_
   refine ZaF ?_
   refine ZbF ?_
   refine Zf ?_
   refine Calls.mono (Qcw s2 3 _ hS) ?_
   rintro _ w3 ⟨rfl, hS'⟩
   refine Za ?_
   replace hS := hS'
   clear hS'
   refine ZaZ ?_
   refine ZaD ?_
   refine Zy ?_
   refine ZC ?_
   refine Zu ?_
   refine ZfA ?_
   replace hS := hS.drew
   refine Zc9 ?_
   refine ZB ?_
   refine Zct ?_
   refine ZeT ?_
   rw [e]
   exact ⟨_, rfl, (St.dropL (L := O2) (St.dropL (L := VH2) hS.drop)).unlearn.learn fun w _ => hno w⟩
  ·by_cases herr : s2.err = 0
   ·have e : Qq num l = (D, 0) := by
     simp only [Qq]; rw [hi]; simp only [if_neg h24]; rw [if_pos herr]
    refine Zbf ?_
    refine Zw ?_
    refine ZaF ?_
    refine Zab ?_
    refine ZaD ?_
    refine Zy ?_
    refine Zq ?_
    refine Zm ?_
    refine Zl ?_
    refine ZeT ?_
    rw [e]
    refine Za ?_
    exact St.shutC hR2 (St.dropL (L := VH2) hS.drop)
   ·have e : Qq num l = ([], s2.err) := by
     simp only [Qq]; rw [hi]; simp only [if_neg h24]; rw [if_neg herr]
    refine Zbf ?_
    refine Zw ?_
    refine ZaF ?_
    refine Zab ?_
    refine ZaD ?_
    refine Zy ?_
    refine ZC ?_
    refine Zu ?_
    refine ZfA ?_
    replace hS := hS.drew
    refine Zc9 ?_
    refine ZB ?_
    refine Zct ?_
    refine ZeT ?_
    rw [e]
    exact ⟨_, rfl, (St.dropL (L := O2) (St.dropL (L := VH2) hS.drop)).unlearn.learn fun w _ => hno w⟩
def QA (num : Str → Option Int) (l : Str) : Ts × Nat × Int :=
 let p := QL (Qw num 24) (RS.start l)
 let s := p.2.take [46]
 let s' := if s.token = [] ∧ qB (s.vars.length : Nat) (Qbw p.1) = true then s else s.fail 1
 if s'.err = 0 then (Qbw p.1, s'.vars.length, 0) else (.nil, 0, s'.err)
theorem Qt4 (num : Str → Option Int) (G : World → Prop) (L1 : Qpp) (L2 : Qpv) (L3 : Quz num G) (l : Str) (w : World) (hG : ∀ w', Ext M w0 w' → G w') (hl : l.length ≤ 1125899906842624) (hS : St M w0 H F w) :
  Calls Tryz.prog 25 #[sv l] w fun e w' => ∃ v, e = .returned (.tuple #[v, .int .i64 ((QA num l).2.1 : Nat), .int .i64 (QA num l).2.2]) ∧ St M w0 H ((fun w => Sl w (fun _ => True) v (QA num l).1) :: F) w' := by
 have hst := QfU l
 have hsh := QeF l
 have hless := QcI (QaY num 24) (RS.start l)
 have hfew := Qhc (Qe4 num 24) (RS.start l)
 rw [hst.2, List.length_nil, Nat.zero_add] at hless
 have hnil : ∀ w : World, Sl w (fun _ => True) (.slice none 0 0) .nil := fun w => ⟨none, 0, rfl, Nat.le_refl _, fun h => by cases h⟩
 refine Qh Tryz.func25 rfl Tryz.ntmps25 rfl ?_
 refine Zg ?_
 refine Zba ?_
 refine ZG ?_
 refine Calls.mono (Qfl L1 L2 l _ Ya hS) ?_
 rintro _ w1 ⟨b, rfl, hS'⟩
 refine Za ?_
 replace hS := hS'
 clear hS'
 refine Z2 ?_
 refine Zf ?_
 refine Calls.mono (QiM num G L1 L2 L3 24 Ya (RS.start l) _ [] M w0 _ H F b hG Ya (by rw [hst.2]; simp; omega) (by rw [hst.2]; exact Row.nil_) hS) ?_
 rintro _ w2 ⟨v, V1, VH1, rfl, hV1, hS'⟩
 refine Za ?_
 replace hS := hS'
 clear hS'
 obtain ⟨A1, c1, rfl, _⟩ := (hS.fact (.head _)).form
 obtain ⟨Av, cv, rfl⟩ := hV1.form
 have e0 : QA num l = QA num l := rfl
 conv at e0 => rhs; unfold QA
 generalize hp : QL (Qw num 24) (RS.start l) = p at *
 obtain ⟨B, s1⟩ := p
 simp only at *
 rw [e0]
 clear e0
 have hrest : s1.rest.length ≤ 1048576 := by have := Qmx s1; omega
 refine Z2 ?_
 refine Zf ?_
 refine Calls.mono (QgG L1 L2 s1 [46] _ hrest hS) ?_
 rintro _ w3 ⟨rfl, hS'⟩
 refine Za ?_
 replace hS := hS'
 clear hS'
 refine ZK ?_
 have hv2 := QbJ s1 [46]
 generalize s1.take [46] = s2 at *
 rw [← hv2] at hV1
 generalize hs3 : (if s2.token = [] ∧ qB (s2.vars.length : Nat) (Qbw B) = true then s2 else s2.fail 1) = s3 at *
 have hv3 : s3.vars = s2.vars := by rw [← hs3]; split <;> rfl
 have hlv : s1.vars.length = s2.vars.length := by rw [hv2]
 rw [hlv] at hS
 refine QeR (13 :: 14 :: 15 :: 16 :: 17 :: 18 :: 19 :: 20 :: 21 :: 22 :: 23 :: 24 :: 25 :: 26 :: 27 :: 28 :: 29 :: []) (fun w' => St M w0 ((b, rdr s3 (.slice Av s2.vars.length cv)) :: (VH1 ++ H)) ((fun w => Sl w (fun _ => True) (.slice A1 (Qbw B).length c1) (Qbw B)) :: F) w') ?_ ?_
 ·intro hk
  refine ZcY ?_
  refine Za6 ?_
  refine Ze ?_
  generalize htb : (s2.token != []) = tb
  cases tb with
  | false =>
   have ht : s2.token = [] := by simpa using htb
   have hgq := Qfr (s2.vars.length : Nat) (Qbw B) _ w3 (hS.fact (.head _)) Ya
   generalize hq : qB (s2.vars.length : Nat) (Qbw B) = q at *
   refine Zv ?_
   refine Zaj ?_
   refine Zb3 ?_
   refine Zgk ?_
   refine ZbA ?_
   refine Zf ?_
   refine Calls.mono (hgq) ?_
   rintro _ w4 ⟨rfl, hb4⟩
   refine Za ?_
   replace hS := hS.grow hb4
   refine Zbm ?_
   refine ZS ?_
   refine Zb ?_
   cases q with
   | true =>
    have e3 : s3 = s2 := by rw [← hs3, if_pos ⟨ht, rfl⟩]
    refine ZR ?_
    refine Zag ?_
    exact hk _ _ (by rw [e3]; exact hS) Yc
   | false =>
    have e3 : s3 = s2.fail 1 := by rw [← hs3, if_neg Yd]
    refine ZI ?_
    refine ZU ?_
    refine Zf ?_
    refine Calls.mono (Qcw s2 1 _ hS) ?_
    rintro _ w5 ⟨rfl, hS'⟩
    refine Za ?_
    replace hS := hS'
    clear hS'
    refine Zb ?_
    exact hk _ _ (by rw [e3]; exact hS) Yc
  | true =>
   have ht : ¬ s2.token = [] := by simpa using htb
   have e3 : s3 = s2.fail 1 := by rw [← hs3, if_neg (fun h => ht h.1)]
   refine ZY ?_
   refine ZY ?_
   refine ZY ?_
   refine ZY ?_
   refine ZaK ?_
   refine ZU ?_
   refine Zf ?_
   refine Calls.mono (Qcw s2 1 _ hS) ?_
   rintro _ w5 ⟨rfl, hS'⟩
   refine Za ?_
   replace hS := hS'
   clear hS'
   refine Zb ?_
   exact hk _ _ (by rw [e3]; exact hS) Yc
 ·intro jv w4 hS
  clear hs3
  by_cases herr : s3.err = 0
  ·refine Zw ?_
   refine ZaD ?_
   refine Zy ?_
   refine Zcu ?_
   refine QB (St M w0 _ _) 9 ((0, true) :: (1, true) :: (2, true) :: (3, true) :: (4, true) :: (5, true) :: (6, true) :: (7, true) :: (8, true) :: []) Yc Yc (hS.drew) ?_
   replace hS := hS.drew
   refine Zcv ?_
   refine ZbR ?_
   refine ZB ?_
   refine ZaJ ?_
   refine Zcc ?_
   refine Zct ?_
   refine Qh0 Tryz.func25 rfl Yb Yb Yb ?_
   rw [if_pos herr]
   exact ⟨_, by rw [hv3], St.dropL (L := VH1) hS.drop⟩
  ·refine Zw ?_
   refine ZaD ?_
   refine Zy ?_
   refine ZC ?_
   refine Zu ?_
   refine QB (St M w0 _ _) 7 ((0, true) :: (1, true) :: (2, true) :: (3, true) :: (4, true) :: (5, true) :: (6, true) :: []) Yc Yc (hS.drew) ?_
   replace hS := hS.drew
   refine Zc9 ?_
   refine ZB ?_
   refine Zcc ?_
   refine Zct ?_
   refine Qh0 Tryz.func25 rfl Yb Yb Yb ?_
   rw [if_neg herr]
   exact ⟨_, rfl, (St.dropL (L := VH1) hS.drop).unlearn.learn fun w _ => hnil w⟩
end
end Go.Proofs.YthliapbflkfdiacGreatDoor
namespace Go.Proofs
open Go.Shelf
def Tryz.lays161_ren : Go.Shelf.Ren := ⟨fun | 161 => 112 | 231 => 168 | 227 => 169 | 233 => 170 | 235 => 171 | 228 => 204 | 197 => 205 | 151 => 206 | 260 => 231 | 152 => 232 | 137 => 129 | 119 => 246 | 224 => 247 | 225 => 248 | 217 => 182 | 266 => 213 | n => n, fun | 9 => 9 | 4 => 4 | 3 => 3 | 5 => 5 | 117 => 233 | 116 => 232 | 0 => 0 | 124 => 236 | 105 => 262 | 21 => 21 | 119 => 286 | 46 => 276 | 139 => 289 | 138 => 288 | n => n, fun | 3 => 3 | 4 => 4 | n => n⟩
theorem Tryz.lays161 : Go.Proofs.Lays.n161 Tryz.prog Tryz.lays161_ren := {
 mixed := by kernel_rfl
 f119 := Tryz.func246.trans (congrArg some (by kernel_rfl))
 f137 := Tryz.func129.trans (congrArg some (by kernel_rfl))
 f151 := Tryz.func206.trans (congrArg some (by kernel_rfl))
 f152 := Tryz.func232.trans (congrArg some (by kernel_rfl))
 f161 := Tryz.func112.trans (congrArg some (by kernel_rfl))
 f197 := Tryz.func205.trans (congrArg some (by kernel_rfl))
 f217 := Tryz.func182.trans (congrArg some (by kernel_rfl))
 f224 := Tryz.func247.trans (congrArg some (by kernel_rfl))
 f225 := Tryz.func248.trans (congrArg some (by kernel_rfl))
 f227 := Tryz.func169.trans (congrArg some (by kernel_rfl))
 f228 := Tryz.func204.trans (congrArg some (by kernel_rfl))
 f231 := Tryz.func168.trans (congrArg some (by kernel_rfl))
 f233 := Tryz.func170.trans (congrArg some (by kernel_rfl))
 f235 := Tryz.func171.trans (congrArg some (by kernel_rfl))
 f260 := Tryz.func231.trans (congrArg some (by kernel_rfl))
 f266 := Tryz.func213.trans (congrArg some (by kernel_rfl))
 t0 := Tryz.underlying0
 a0 := Tryz.isAgg0
 z0 := Tryz.sizeOf0
 v0 := Tryz.zeroValue0
 t3 := Tryz.underlying3
 a3 := Tryz.isAgg3
 z3 := Tryz.sizeOf3
 v3 := Tryz.zeroValue3
 t4 := Tryz.underlying4
 a4 := Tryz.isAgg4
 z4 := Tryz.sizeOf4
 v4 := Tryz.zeroValue4
 t5 := Tryz.underlying5
 a5 := Tryz.isAgg5
 z5 := Tryz.sizeOf5
 v5 := Tryz.zeroValue5
 t9 := Tryz.underlying9
 a9 := Tryz.isAgg9
 z9 := Tryz.sizeOf9
 v9 := Tryz.zeroValue9
 t21 := Tryz.underlying21
 a21 := Tryz.isAgg21
 z21 := Tryz.sizeOf21
 v21 := Tryz.zeroValue21
 t46 := Tryz.underlying276
 a46 := Tryz.isAgg276
 z46 := Tryz.sizeOf276
 v46 := Tryz.zeroValue276
 t105 := Tryz.underlying262
 a105 := Tryz.isAgg262
 z105 := Tryz.sizeOf262
 v105 := Tryz.zeroValue262
 t116 := Tryz.underlying232
 a116 := Tryz.isAgg232
 z116 := Tryz.sizeOf232
 t117 := Tryz.underlying233
 a117 := Tryz.isAgg233
 z117 := Tryz.sizeOf233
 v117 := Tryz.zeroValue233
 t119 := Tryz.underlying286
 a119 := Tryz.isAgg286
 z119 := Tryz.sizeOf286
 t124 := Tryz.underlying236
 a124 := Tryz.isAgg236
 z124 := Tryz.sizeOf236
 v124 := Tryz.zeroValue236
 t138 := Tryz.underlying288
 a138 := Tryz.isAgg288
 z138 := Tryz.sizeOf288
 v138 := Tryz.zeroValue288
 t139 := Tryz.underlying289
 a139 := Tryz.isAgg289
 z139 := Tryz.sizeOf289
 v139 := Tryz.zeroValue289
 g3 := by kernel_rfl
 g4 := by kernel_rfl }
def Tryz.lays137_ren : Go.Shelf.Ren := ⟨fun | 137 => 129 | 217 => 182 | 266 => 213 | n => n, fun | 9 => 9 | 5 => 5 | 3 => 3 | n => n, fun | n => n⟩
theorem Tryz.lays137 : Go.Proofs.Lays.n137 Tryz.prog Tryz.lays137_ren := {
 mixed := by kernel_rfl
 f137 := Tryz.func129.trans (congrArg some (by kernel_rfl))
 f217 := Tryz.func182.trans (congrArg some (by kernel_rfl))
 f266 := Tryz.func213.trans (congrArg some (by kernel_rfl))
 t3 := Tryz.underlying3
 a3 := Tryz.isAgg3
 z3 := Tryz.sizeOf3
 v3 := Tryz.zeroValue3
 t5 := Tryz.underlying5
 a5 := Tryz.isAgg5
 z5 := Tryz.sizeOf5
 v5 := Tryz.zeroValue5
 t9 := Tryz.underlying9
 a9 := Tryz.isAgg9
 z9 := Tryz.sizeOf9
 v9 := Tryz.zeroValue9 }
def Tryz.laysM171_ren : Go.Shelf.Ren := ⟨fun | 171 => 67 | 243 => 108 | 246 => 165 | 283 => 199 | 284 => 200 | 285 => 201 | 286 => 202 | 129 => 227 | 317 => 226 | 318 => 228 | 319 => 229 | 320 => 230 | 337 => 244 | 338 => 245 | n => n, fun | 3 => 3 | 9 => 9 | 2 => 2 | 4 => 4 | 171 => 256 | 0 => 0 | 53 => 257 | 37 => 116 | 5 => 5 | 173 => 260 | 212 => 273 | 51 => 274 | 20 => 20 | 213 => 275 | 46 => 276 | 232 => 298 | 233 => 299 | n => n, fun | 17 => 2 | 18 => 7 | 19 => 8 | n => n⟩
theorem Tryz.laysM171 : Go.Proofs.LaysM.n171 Tryz.prog Tryz.laysM171_ren := {
 mixed := by kernel_rfl
 f129 := Tryz.func227.trans (congrArg some (by kernel_rfl))
 f171 := Tryz.func67.trans (congrArg some (by kernel_rfl))
 f243 := Tryz.func108.trans (congrArg some (by kernel_rfl))
 f246 := Tryz.func165.trans (congrArg some (by kernel_rfl))
 f283 := Tryz.func199.trans (congrArg some (by kernel_rfl))
 f284 := Tryz.func200.trans (congrArg some (by kernel_rfl))
 f285 := Tryz.func201.trans (congrArg some (by kernel_rfl))
 f286 := Tryz.func202.trans (congrArg some (by kernel_rfl))
 f317 := Tryz.func226.trans (congrArg some (by kernel_rfl))
 f318 := Tryz.func228.trans (congrArg some (by kernel_rfl))
 f319 := Tryz.func229.trans (congrArg some (by kernel_rfl))
 f320 := Tryz.func230.trans (congrArg some (by kernel_rfl))
 f337 := Tryz.func244.trans (congrArg some (by kernel_rfl))
 f338 := Tryz.func245.trans (congrArg some (by kernel_rfl))
 t0 := Tryz.underlying0
 a0 := Tryz.isAgg0
 z0 := Tryz.sizeOf0
 v0 := Tryz.zeroValue0
 t2 := Tryz.underlying2
 a2 := Tryz.isAgg2
 z2 := Tryz.sizeOf2
 v2 := Tryz.zeroValue2
 t3 := Tryz.underlying3
 a3 := Tryz.isAgg3
 z3 := Tryz.sizeOf3
 v3 := Tryz.zeroValue3
 t4 := Tryz.underlying4
 a4 := Tryz.isAgg4
 z4 := Tryz.sizeOf4
 v4 := Tryz.zeroValue4
 t5 := Tryz.underlying5
 a5 := Tryz.isAgg5
 z5 := Tryz.sizeOf5
 v5 := Tryz.zeroValue5
 t9 := Tryz.underlying9
 a9 := Tryz.isAgg9
 z9 := Tryz.sizeOf9
 v9 := Tryz.zeroValue9
 t20 := Tryz.underlying20
 a20 := Tryz.isAgg20
 z20 := Tryz.sizeOf20
 v20 := Tryz.zeroValue20
 t37 := Tryz.underlying116
 a37 := Tryz.isAgg116
 z37 := Tryz.sizeOf116
 v37 := Tryz.zeroValue116
 t46 := Tryz.underlying276
 a46 := Tryz.isAgg276
 z46 := Tryz.sizeOf276
 v46 := Tryz.zeroValue276
 t51 := Tryz.underlying274
 a51 := Tryz.isAgg274
 z51 := Tryz.sizeOf274
 v51 := Tryz.zeroValue274
 t53 := Tryz.underlying257
 a53 := Tryz.isAgg257
 z53 := Tryz.sizeOf257
 v53 := Tryz.zeroValue257
 t171 := Tryz.underlying256
 a171 := Tryz.isAgg256
 z171 := Tryz.sizeOf256
 v171 := Tryz.zeroValue256
 t173 := Tryz.underlying260
 a173 := Tryz.isAgg260
 z173 := Tryz.sizeOf260
 v173 := Tryz.zeroValue260
 t212 := Tryz.underlying273
 a212 := Tryz.isAgg273
 z212 := Tryz.sizeOf273
 v212 := Tryz.zeroValue273
 t213 := Tryz.underlying275
 a213 := Tryz.isAgg275
 z213 := Tryz.sizeOf275
 t232 := Tryz.underlying298
 a232 := Tryz.isAgg298
 z232 := Tryz.sizeOf298
 v232 := Tryz.zeroValue298
 t233 := Tryz.underlying299
 a233 := Tryz.isAgg299
 z233 := Tryz.sizeOf299
 v233 := Tryz.zeroValue299
 g17 := by kernel_rfl
 g18 := by kernel_rfl
 g19 := by kernel_rfl
 i0 := by kernel_rfl
 i2 := by kernel_rfl
 i3 := by kernel_rfl
 i4 := by kernel_rfl
 i5 := by kernel_rfl
 i9 := by kernel_rfl
 i20 := by kernel_rfl
 i37 := by kernel_rfl
 i46 := by kernel_rfl
 i51 := by kernel_rfl
 i53 := by kernel_rfl
 i171 := by kernel_rfl
 i173 := by kernel_rfl
 i212 := by kernel_rfl
 i232 := by kernel_rfl
 i233 := by kernel_rfl
 m17 := by kernel_rfl
 m18 := by kernel_rfl
 m19 := by kernel_rfl }
def Tryz.laysC172_ren : Go.Shelf.Ren := ⟨fun | 172 => 175 | 244 => 208 | 245 => 209 | 247 => 233 | 279 => 234 | 280 => 235 | 281 => 236 | 282 => 237 | 287 => 249 | 316 => 250 | 171 => 67 | 205 => 251 | 321 => 253 | 322 => 254 | 243 => 108 | 246 => 165 | 283 => 199 | 284 => 200 | 285 => 201 | 286 => 202 | 129 => 227 | 317 => 226 | 318 => 228 | 319 => 229 | 320 => 230 | 337 => 244 | 338 => 245 | n => n, fun | 9 => 9 | 3 => 3 | 75 => 120 | 76 => 122 | 4 => 4 | 5 => 5 | 167 => 279 | 37 => 116 | 0 => 0 | 85 => 280 | 2 => 2 | 168 => 282 | 53 => 257 | 175 => 292 | 46 => 276 | 210 => 296 | 127 => 167 | 145 => 303 | 143 => 301 | 21 => 21 | 171 => 256 | 173 => 260 | 212 => 273 | 51 => 274 | 20 => 20 | 213 => 275 | 232 => 298 | 233 => 299 | 80 => 124 | n => n, fun | 15 => 5 | 16 => 6 | 17 => 2 | 18 => 7 | 19 => 8 | n => n⟩
theorem Tryz.laysC172 : Go.Proofs.LaysC.n172 Tryz.prog Tryz.laysC172_ren := {
 mixed := by kernel_rfl
 f129 := Tryz.func227.trans (congrArg some (by kernel_rfl))
 f171 := Tryz.func67.trans (congrArg some (by kernel_rfl))
 f172 := Tryz.func175.trans (congrArg some (by kernel_rfl))
 f205 := Tryz.func251.trans (congrArg some (by kernel_rfl))
 f243 := Tryz.func108.trans (congrArg some (by kernel_rfl))
 f244 := Tryz.func208.trans (congrArg some (by kernel_rfl))
 f245 := Tryz.func209.trans (congrArg some (by kernel_rfl))
 f246 := Tryz.func165.trans (congrArg some (by kernel_rfl))
 f247 := Tryz.func233.trans (congrArg some (by kernel_rfl))
 f279 := Tryz.func234.trans (congrArg some (by kernel_rfl))
 f280 := Tryz.func235.trans (congrArg some (by kernel_rfl))
 f281 := Tryz.func236.trans (congrArg some (by kernel_rfl))
 f282 := Tryz.func237.trans (congrArg some (by kernel_rfl))
 f283 := Tryz.func199.trans (congrArg some (by kernel_rfl))
 f284 := Tryz.func200.trans (congrArg some (by kernel_rfl))
 f285 := Tryz.func201.trans (congrArg some (by kernel_rfl))
 f286 := Tryz.func202.trans (congrArg some (by kernel_rfl))
 f287 := Tryz.func249.trans (congrArg some (by kernel_rfl))
 f316 := Tryz.func250.trans (congrArg some (by kernel_rfl))
 f317 := Tryz.func226.trans (congrArg some (by kernel_rfl))
 f318 := Tryz.func228.trans (congrArg some (by kernel_rfl))
 f319 := Tryz.func229.trans (congrArg some (by kernel_rfl))
 f320 := Tryz.func230.trans (congrArg some (by kernel_rfl))
 f321 := Tryz.func253.trans (congrArg some (by kernel_rfl))
 f322 := Tryz.func254.trans (congrArg some (by kernel_rfl))
 f337 := Tryz.func244.trans (congrArg some (by kernel_rfl))
 f338 := Tryz.func245.trans (congrArg some (by kernel_rfl))
 t0 := Tryz.underlying0
 a0 := Tryz.isAgg0
 z0 := Tryz.sizeOf0
 v0 := Tryz.zeroValue0
 t2 := Tryz.underlying2
 a2 := Tryz.isAgg2
 z2 := Tryz.sizeOf2
 v2 := Tryz.zeroValue2
 t3 := Tryz.underlying3
 a3 := Tryz.isAgg3
 z3 := Tryz.sizeOf3
 v3 := Tryz.zeroValue3
 t4 := Tryz.underlying4
 a4 := Tryz.isAgg4
 z4 := Tryz.sizeOf4
 v4 := Tryz.zeroValue4
 t5 := Tryz.underlying5
 a5 := Tryz.isAgg5
 z5 := Tryz.sizeOf5
 v5 := Tryz.zeroValue5
 t9 := Tryz.underlying9
 a9 := Tryz.isAgg9
 z9 := Tryz.sizeOf9
 v9 := Tryz.zeroValue9
 t20 := Tryz.underlying20
 a20 := Tryz.isAgg20
 z20 := Tryz.sizeOf20
 v20 := Tryz.zeroValue20
 t21 := Tryz.underlying21
 a21 := Tryz.isAgg21
 z21 := Tryz.sizeOf21
 v21 := Tryz.zeroValue21
 t37 := Tryz.underlying116
 a37 := Tryz.isAgg116
 z37 := Tryz.sizeOf116
 v37 := Tryz.zeroValue116
 t46 := Tryz.underlying276
 a46 := Tryz.isAgg276
 z46 := Tryz.sizeOf276
 v46 := Tryz.zeroValue276
 t51 := Tryz.underlying274
 a51 := Tryz.isAgg274
 z51 := Tryz.sizeOf274
 v51 := Tryz.zeroValue274
 t53 := Tryz.underlying257
 a53 := Tryz.isAgg257
 z53 := Tryz.sizeOf257
 v53 := Tryz.zeroValue257
 t75 := Tryz.underlying120
 a75 := Tryz.isAgg120
 z75 := Tryz.sizeOf120
 v75 := Tryz.zeroValue120
 t76 := Tryz.underlying122
 a76 := Tryz.isAgg122
 z76 := Tryz.sizeOf122
 v76 := Tryz.zeroValue122
 t85 := Tryz.underlying280
 a85 := Tryz.isAgg280
 z85 := Tryz.sizeOf280
 v85 := Tryz.zeroValue280
 t127 := Tryz.underlying167
 a127 := Tryz.isAgg167
 z127 := Tryz.sizeOf167
 v127 := Tryz.zeroValue167
 t143 := Tryz.underlying301
 a143 := Tryz.isAgg301
 z143 := Tryz.sizeOf301
 v143 := Tryz.zeroValue301
 t145 := Tryz.underlying303
 a145 := Tryz.isAgg303
 z145 := Tryz.sizeOf303
 v145 := Tryz.zeroValue303
 t167 := Tryz.underlying279
 a167 := Tryz.isAgg279
 z167 := Tryz.sizeOf279
 v167 := Tryz.zeroValue279
 t168 := Tryz.underlying282
 a168 := Tryz.isAgg282
 z168 := Tryz.sizeOf282
 v168 := Tryz.zeroValue282
 t171 := Tryz.underlying256
 a171 := Tryz.isAgg256
 z171 := Tryz.sizeOf256
 v171 := Tryz.zeroValue256
 t173 := Tryz.underlying260
 a173 := Tryz.isAgg260
 z173 := Tryz.sizeOf260
 v173 := Tryz.zeroValue260
 t175 := Tryz.underlying292
 a175 := Tryz.isAgg292
 z175 := Tryz.sizeOf292
 v175 := Tryz.zeroValue292
 t210 := Tryz.underlying296
 a210 := Tryz.isAgg296
 z210 := Tryz.sizeOf296
 v210 := Tryz.zeroValue296
 t212 := Tryz.underlying273
 a212 := Tryz.isAgg273
 z212 := Tryz.sizeOf273
 v212 := Tryz.zeroValue273
 t213 := Tryz.underlying275
 a213 := Tryz.isAgg275
 z213 := Tryz.sizeOf275
 t232 := Tryz.underlying298
 a232 := Tryz.isAgg298
 z232 := Tryz.sizeOf298
 v232 := Tryz.zeroValue298
 t233 := Tryz.underlying299
 a233 := Tryz.isAgg299
 z233 := Tryz.sizeOf299
 v233 := Tryz.zeroValue299
 g15 := by kernel_rfl
 g16 := by kernel_rfl
 g17 := by kernel_rfl
 g18 := by kernel_rfl
 g19 := by kernel_rfl
 t80 := Tryz.underlying124
 a80 := Tryz.isAgg124
 z80 := Tryz.sizeOf124
 v80 := Tryz.zeroValue124
 i0 := by kernel_rfl
 i2 := by kernel_rfl
 i3 := by kernel_rfl
 i4 := by kernel_rfl
 i5 := by kernel_rfl
 i9 := by kernel_rfl
 i20 := by kernel_rfl
 i21 := by kernel_rfl
 i37 := by kernel_rfl
 i46 := by kernel_rfl
 i51 := by kernel_rfl
 i53 := by kernel_rfl
 i75 := by kernel_rfl
 i76 := by kernel_rfl
 i80 := by kernel_rfl
 i85 := by kernel_rfl
 i127 := by kernel_rfl
 i143 := by kernel_rfl
 i145 := by kernel_rfl
 i167 := by kernel_rfl
 i168 := by kernel_rfl
 i171 := by kernel_rfl
 i173 := by kernel_rfl
 i175 := by kernel_rfl
 i210 := by kernel_rfl
 i212 := by kernel_rfl
 i232 := by kernel_rfl
 i233 := by kernel_rfl
 m15 := by kernel_rfl
 m16 := by kernel_rfl
 m17 := by kernel_rfl
 m18 := by kernel_rfl
 m19 := by kernel_rfl
 c0 := by kernel_rfl
 c2 := by kernel_rfl
 c3 := by kernel_rfl
 c4 := by kernel_rfl
 c5 := by kernel_rfl
 c9 := by kernel_rfl
 c20 := by kernel_rfl
 c21 := by kernel_rfl
 c37 := by kernel_rfl
 c46 := by kernel_rfl
 c51 := by kernel_rfl
 c53 := by kernel_rfl
 c75 := by kernel_rfl
 c76 := by kernel_rfl
 c80 := by kernel_rfl
 c85 := by kernel_rfl
 c127 := by kernel_rfl
 c143 := by kernel_rfl
 c145 := by kernel_rfl
 c167 := by kernel_rfl
 c168 := by kernel_rfl
 c171 := by kernel_rfl
 c173 := by kernel_rfl
 c175 := by kernel_rfl
 c210 := by kernel_rfl
 c212 := by kernel_rfl
 c213 := by kernel_rfl
 c232 := by kernel_rfl
 c233 := by kernel_rfl }
end Go.Proofs
namespace Go.Proofs.YthliapbflkfdiacGreatDoor
open Go.RowKit Go.Shelf
set_option linter.unusedVariables false
set_option maxRecDepth 100000
set_option maxHeartbeats 1000000
theorem Qh7 (l : Str) : (⟨l.toArray⟩ : ByteArray).data.toList = l := by simp
theorem Qvu : Qpv := by
 intro l w hl
 have h := Any.strings_TrimLeft_laid Tryz.lays161 Yc ⟨l.toArray⟩ ⟨#[32, 10, 13, 9]⟩ w Yg (ascii_of_all Yg)
 refine Calls.mono h ?_
 rintro e w' ⟨rfl, hb⟩
 refine ⟨?_, hb⟩
 rw [Qh7]
 rfl
theorem Qt0 (c : UInt8) : decide ((Lib.indexByte Qeo c) ≥ 0) = Qeo.contains c := by
 have h : ∀ n : Fin 256, decide ((Lib.indexByte Qeo (UInt8.ofNat n.val)) ≥ 0) = Qeo.contains (UInt8.ofNat n.val) := by decide +kernel
 have := h ⟨c.toNat, c.toNat_lt⟩
 simpa using this
theorem Qvv : Qpp := by
 refine ⟨Qkc, fun c w => ?_⟩
 have h := Any.strings_IndexByte Tryz.lays137 ⟨Qeo.toArray⟩ (c.toNat : Int) w
 refine Calls.mono h ?_
 rintro e w' ⟨rfl, hw⟩
 refine ⟨⟨_, rfl, ?_⟩, hw⟩
 rw [Qh7]
 have : ((c.toNat : Nat) : Int).toNat.toUInt8 = c := by simp
 rw [this]
 exact Qt0 c
def QG (tok : Str) : Option Int := match Lib.atoiAll tok with
 | .ok v => if Lib.itoa v = tok ∧ -1099511627776 ≤ v ∧ v ≤ 1099511627776 then some v else none
 | _ => none
structure QcZ (w : World) : Prop where
 es : ∃ tp p, w.var? Tryz.prog "strconv.ErrSyntax" = some #[.iface tp p]
 er : ∃ tp p, w.var? Tryz.prog "strconv.ErrRange" = some #[.iface tp p]
 tab : Lib.TabIs Tryz.prog w "internal/strconv.uint64pow10" .u64 Lib.pow10Tab
theorem Qjh (w : World) (k : Nat) (os : Array Obj) : Below w.heap.size w (Go.Sort.grow (w.drewN k) os) := by
 refine ⟨rfl, rfl, rfl, ?_, fun j hj => ?_⟩
 ·simp [Go.Sort.grow, World.drewN]
 ·show (w.heap ++ os)[j]? = w.heap[j]?
  rw [Array.getElem?_append_left hj]
theorem Qpi {l : Str} {v : Int} (h : Lib.atoiAll l = .ok v) : -9223372036854775808 ≤ v ∧ v ≤ 9223372036854775807 := by
 unfold Lib.atoiAll at h
 split at h
 ·cases h
 ·simp only at h
  split at h
  ·cases h
  ·cases h
  ·split at h
   ·cases h
   ·split at h
    ·cases h
    ·rename_i h1 h2
     simp only [Lib.NumEnd.ok.injEq] at h
     subst h
     split <;> omega
theorem Qvt : Quz QG QcZ := by
 intro tok s A vl vc M w0 w H F b hG hl hS
 have g := hG w hS.ext
 obtain ⟨tp, pp, hes⟩ := g.es
 obtain ⟨tp2, pp2, her⟩ := g.er
 have hsz : (⟨tok.toArray⟩ : ByteArray).size = tok.length := Qbk tok
 have bad : ∀ x : Int, (Calls Tryz.prog 175 #[sv tok] w fun e w' => ∃ N, e = .returned (.tuple #[.int .i64 x, .iface 282 (.pointer (some ⟨N, 0, none⟩))]) ∧ Below w.heap.size w w') → QG tok = none →
   Calls Tryz.prog 119 #[ptr b, sv tok] w fun e w' => e = .returned (.int .i64 (s.number QG tok).1) ∧ St M w0 ((b, rdr (s.number QG tok).2 (.slice A vl vc)) :: H) F w' := by
  intro x hc hn
  have e1 : s.number QG tok = (0, s.fail 1) := by simp only [RS.number, hn]
  rw [e1]
  refine Qg Tryz.func119 rfl Tryz.ntmps119 rfl ?_
  refine Zc1 ?_
  refine Calls.mono hc ?_
  rintro _ w1 ⟨N, rfl, hb1⟩
  refine Za ?_
  replace hS := hS.grow hb1
  refine Zaz ?_
  refine ZaA ?_
  refine Zah ?_
  refine ZaX ?_
  refine Zat ?_
  refine Zat ?_
  refine ZaK ?_
  refine Zbq ?_
  refine Zcd ?_
  rintro _ w2 ⟨rfl, hS'⟩
  refine Za ?_
  replace hS := hS'
  clear hS'
  refine Zbo ?_
  refine ZdD ?_
  exact ⟨rfl, hS⟩
 cases ha : Lib.atoiAll tok
 case ok v =>
  have hr := Qpi ha
  have h1 := Any.strconv_Atoi_ok Tryz.laysC172 ⟨tok.toArray⟩ (by rw [hsz]; omega) v (by rw [Qh7]; exact ha) w
  have h1' : Calls Tryz.prog 175 #[sv tok] w fun e w' => e = .returned (.tuple #[.int .i64 v, .nilIface]) ∧ Below w.heap.size w w' := by
   refine Calls.mono h1 ?_
   rintro e w' ⟨rfl, rfl | ⟨t, rfl⟩⟩
   ·exact ⟨rfl, Below.refl _ _⟩
   ·exact ⟨rfl, Lib.bytesWorld_below _ _ _⟩
  clear h1
  have hit : ∀ w', QcZ w' → Calls Tryz.prog 67 #[.int .i64 v] w' fun e w'' => e = .returned (sv (Lib.itoa v)) ∧ Below w'.heap.size w' w'' := by
   intro w' g'
   refine Calls.mono (Any.strconv_Itoa Tryz.laysM171 v hr.1 hr.2 w' g'.tab) ?_
   rintro e w'' ⟨rfl, k, os, rfl⟩
   exact ⟨rfl, Qjh _ _ _⟩
  have hn : QG tok = if Lib.itoa v = tok ∧ -1099511627776 ≤ v ∧ v ≤ 1099511627776 then some v else none := by simp only [QG, ha]
  refine Qg Tryz.func119 rfl Tryz.ntmps119 rfl ?_
  refine Zc1 ?_
  refine Calls.mono (h1') ?_
  rintro _ w1 ⟨rfl, hb1⟩
  refine Za ?_
  replace hS := hS.grow hb1
  refine Zaz ?_
  refine ZaA ?_
  refine Zda ?_
  refine Zk ?_
  refine Calls.mono (hit _ (hG _ hS.ext)) ?_
  rintro _ w2 ⟨rfl, hb2⟩
  refine Za ?_
  replace hS := hS.grow hb2
  refine ZO ?_
  refine Za6 ?_
  refine ZS ?_
  refine Ze ?_
  generalize hq : (Lib.itoa v != tok) = q
  cases q with
  | true =>
   have hne : ¬ Lib.itoa v = tok := by simpa using hq
   rw [if_neg (fun h => hne h.1)] at hn
   have e1 : s.number QG tok = (0, s.fail 1) := by simp only [RS.number, hn]
   rw [e1]
   refine ZY ?_
   refine Zat ?_
   refine ZaK ?_
   refine Zbq ?_
   refine Zcd ?_
   rintro _ w3 ⟨rfl, hS'⟩
   refine Za ?_
   replace hS := hS'
   clear hS'
   refine Zbo ?_
   refine ZdD ?_
   exact ⟨rfl, hS⟩
  | false =>
   have heq : Lib.itoa v = tok := by simpa using hq
   by_cases hlo : v < -1099511627776
   ·rw [if_neg (fun h => by omega)] at hn
    have e1 : s.number QG tok = (0, s.fail 1) := by simp only [RS.number, hn]
    rw [e1]
    refine ZO ?_
    refine Zr ?_
    refine Zat ?_
    refine ZaK ?_
    refine Zbq ?_
    refine Zcd ?_
    rintro _ w3 ⟨rfl, hS'⟩
    refine Za ?_
    replace hS := hS'
    clear hS'
    refine Zbo ?_
    refine ZdD ?_
    exact ⟨rfl, hS⟩
   ·by_cases hhi : v > 1099511627776
    ·rw [if_neg (fun h => by omega)] at hn
     have e1 : s.number QG tok = (0, s.fail 1) := by simp only [RS.number, hn]
     rw [e1]
     refine ZO ?_
     refine Zr ?_
     refine Zbb ?_
     refine ZP ?_
     refine ZaK ?_
     refine Zbq ?_
     refine Zcd ?_
     rintro _ w3 ⟨rfl, hS'⟩
     refine Za ?_
     replace hS := hS'
     clear hS'
     refine Zbo ?_
     refine ZdD ?_
     exact ⟨rfl, hS⟩
    ·rw [if_pos ⟨heq, by omega, by omega⟩] at hn
     have e1 : s.number QG tok = (v, s) := by simp only [RS.number, hn]
     rw [e1]
     refine ZO ?_
     refine Zr ?_
     refine Zbb ?_
     refine ZP ?_
     refine Z8 ?_
     refine ZQ ?_
     refine ZdD ?_
     exact ⟨rfl, hS⟩
 case range =>
  refine bad (Lib.atoiSat (⟨tok.toArray⟩ : ByteArray).data.toList) (Calls.mono (Any.strconv_Atoi_range_var Tryz.laysC172 ⟨tok.toArray⟩ (by rw [hsz]; omega) (by rw [Qh7]; exact ha) tp2 pp2 w her) ?_) (by simp only [QG, ha])
  rintro e w' ⟨N, rfl, _, _, hb⟩
  exact ⟨N, rfl, hb⟩
 all_goals
  refine bad 0 (Calls.mono (Any.strconv_Atoi_syntax_var Tryz.laysC172 ⟨tok.toArray⟩ (by rw [hsz]; omega) (by rw [Qh7]; exact ha) tp pp w hes) ?_) (by simp only [QG, ha])
  rintro e w' ⟨N, rfl, _, _, hb⟩
  exact ⟨N, rfl, hb⟩
end Go.Proofs.YthliapbflkfdiacGreatDoor
