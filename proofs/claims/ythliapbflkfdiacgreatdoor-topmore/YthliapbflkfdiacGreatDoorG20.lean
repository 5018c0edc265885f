/- Steps of the proof. -/
import Derived.Test.YthliapbflkfdiacGreatDoorG19
import Derived.Lib.SliceRun
namespace Go.Proofs.YthliapbflkfdiacGreatDoor
open Go.RowKit
set_option linter.unusedVariables false
set_option linter.unusedSimpArgs false
set_option maxRecDepth 100000
set_option maxHeartbeats 1000000
theorem QlT (L : List HC) (A B : Option Addr) (c m d : Nat) (a : Int) (x : HC) (w : World) (hL : Qz 3 (Q6 L) A L.length c w) (hx : hat L a = some x) :
  Calls Tryz.prog 215 #[Qj9 A L.length c B m d, .int .i64 a] w fun e w' => e = .returned (.bool (decide (x.k = 0 ∧ x.n ≠ a))) ∧ Below w.heap.size w w' := by
 have hS := (St.start w).flat (M := []) hL
 obtain ⟨h0, h1, hg⟩ := QcD hx
 obtain ⟨b, o, rfl⟩ := hL.some_ Ya
 have hcc : ∀ {H'} w', St [] w H' [Qz 3 (Q6 L) (some ⟨b, o, none⟩) L.length c] w' → _ := fun w' hS => (hS.fact (.head _)).cell hg
 refine Qg Tryz.func215 rfl Tryz.ntmps215 rfl ?_
 by_cases hk : x.k = 0
 ·by_cases hn : x.n = a
  ·rw [decide_eq_false (by simp [hn])]
   refine Zi ?_
   clear hS
   intro b1 wx1 hS
   refine Zd1 ?_
   refine ZeM ?_
   refine Zb8 ?_
   clear hS
   intro b2 wx2 hS
   refine Zd ?_
   clear hS
   intro wx3 hS
   refine Zb ?_
   refine ZbK ?_
   refine Zn ?_
   refine Zfk ?_
   refine Zdh ?_
   refine ZO ?_
   refine Zy ?_
   refine ZN ?_
   refine ZeZ ?_
   exact ⟨rfl, hS.ext.below⟩
  ·rw [decide_eq_true ⟨hk, hn⟩]
   refine Zi ?_
   clear hS
   intro b1 wx1 hS
   refine Zd1 ?_
   refine ZeM ?_
   refine Zb8 ?_
   clear hS
   intro b2 wx2 hS
   refine Zd ?_
   clear hS
   intro wx3 hS
   refine Zb ?_
   refine ZbK ?_
   refine Zn ?_
   refine Zfk ?_
   refine Zdh ?_
   refine ZO ?_
   refine Zy ?_
   refine ZN ?_
   refine ZeZ ?_
   exact ⟨rfl, hS.ext.below⟩
 ·rw [decide_eq_false (by simp [hk])]
  refine Zi ?_
  clear hS
  intro b1 wx1 hS
  refine Zd1 ?_
  refine ZeM ?_
  refine Zb8 ?_
  clear hS
  intro b2 wx2 hS
  refine Zd ?_
  clear hS
  intro wx3 hS
  refine Zb ?_
  refine ZbK ?_
  refine Zn ?_
  refine ZaX ?_
  refine ZN ?_
  refine ZeZ ?_
  exact ⟨rfl, hS.ext.below⟩
abbrev hob (A : Option Addr) (n c : Nat) (B : Option Addr) (m d : Nat) : Obj := .cells [.slice A n c, .slice B m d].toArray 56
theorem QjY (L : List HC) (A B : Option Addr) (c m d : Nat) (a : Int) (w : World) (hL : Qz 3 (Q6 L) A L.length c w) (hl63 : L.length ≤ 9223372036854775807) :
  Calls Tryz.prog 218 #[Qj9 A L.length c B m d, .int .i64 a] w fun e w' => e = .returned (.int .i64 (Qr L a)) ∧ Below w.heap.size w w' := by
 have hS := (St.start w).flat (M := []) hL
 refine Qg Tryz.func218 rfl Tryz.ntmps218 rfl ?_
 refine Zi ?_
 clear hS
 intro b1 wx1 hS
 refine Z0 ?_
 refine ZbK ?_
 refine Z6 ?_
 refine QaB 8 1 (9 :: 10 :: 11 :: 12 :: 13 :: 4 :: 14 :: 15 :: 16 :: 17 :: 18 :: 19 :: 20 :: 21 :: 22 :: 23 :: 24 :: 25 :: []) (fun (f : Nat) v u w' => ∃ a' i : Nat, ∃ x : Int, i + f = L.length ∧ v = .int .i64 (i : Nat) ∧ u = .int .i64 x ∧ Qr L a = QaN L f x ∧ St [] w [(b1, hob A L.length c B m d)] [Qz 3 (Q6 L) A L.length c] w') (fun f => f) (L.length) ?_ Yb Yb ?_
 ·exact ⟨0, 0, a, by omega, rfl, rfl, rfl, hS⟩
 clear hS
 rintro f _ _ w2 jv ⟨_, i, x, hi, rfl, rfl, hl, hS⟩ ih
 cases f with
 | zero =>
  refine Zcr ?_
  refine Ze0 ?_
  rw [hl]
  exact ⟨rfl, hS.ext.below⟩
 | succ f =>
  refine ZeH ?_
  refine Zbd ?_
  refine Zbv ?_
  refine Z3 ?_
  refine Calls.mono (Qbb L.length c A B m d x _) ?_
  rintro _ w3 ⟨rfl, hb3⟩
  refine Za ?_
  replace hS := hS.grow hb3
  by_cases hx : 0 ≤ x ∧ x < L.length
  case neg =>
   rw [show (decide (0 ≤ x) && decide (x < (L.length : Nat))) = false by rw [Bool.and_eq_false_iff]; simp only [decide_eq_false_iff_not]; omega]
   refine Zbl ?_
   refine Zj ?_
   refine Ze0 ?_
   rw [hl, QmL (QnY hx)]
   exact ⟨rfl, hS.ext.below⟩
  rw [show (decide (0 ≤ x) && decide (x < (L.length : Nat))) = true by rw [Bool.and_eq_true]; simp only [decide_eq_true_eq]; exact hx]
  obtain ⟨y, hy, hg⟩ := QgU hx.1 hx.2
  obtain ⟨b, o, rfl⟩ := hL.some_ Ya
  have hcc : ∀ {H'} w', St [] w H' [Qz 3 (Q6 L) (some ⟨b, o, none⟩) L.length c] w' → _ := fun w' hS => (hS.fact (.head _)).cell hg
  have e1 : QaN L (f + 1) x = if y.k = 0 ∧ y.n ≠ x then QaN L f y.n else x := by simp only [QaN, hy]
  refine ZV ?_
  refine Zbd ?_
  refine Zbv ?_
  refine Z3 ?_
  refine Calls.mono (QlT L _ B c m d x y _ (hS.fact (.head _)) hy) ?_
  rintro _ w4 ⟨rfl, hb4⟩
  refine Za ?_
  replace hS := hS.grow hb4
  by_cases hb : y.k = 0 ∧ y.n ≠ x
  ·rw [decide_eq_true hb]
   rw [if_pos hb] at e1
   refine ZV ?_
   refine Zbe ?_
   refine ZeO ?_
   refine ZE ?_
   refine ZF ?_
   refine ZaN ?_
   refine ih (f) _ _ _ _ ?_ ?_ Yb Yb Yc
   ·omega
   ·exact ⟨0, i + 1, y.n, by omega, by simp, rfl, by rw [hl, e1], hS⟩
  ·rw [decide_eq_false hb]
   rw [if_neg hb] at e1
   refine Zbl ?_
   refine ZQ ?_
   refine Ze0 ?_
   rw [hl, e1]
   exact ⟨rfl, hS.ext.below⟩
theorem Qke (L : List HC) (T : List Int) (A B : Option Addr) (c d : Nat) (w : World) (hL : Qz 3 (Q6 L) A L.length c w) (hT : Qz 1 (Qm T) B T.length d w) :
  Calls Tryz.prog 185 #[Qj9 A L.length c B T.length d] w fun e w' => e = .returned (.bool (QbQ L T)) ∧ Below w.heap.size w w' := by
 have hS := ((St.start w).flat (M := []) hL).flat (M := []) hT
 refine Qh Tryz.func185 rfl Tryz.ntmps185 rfl ?_
 by_cases hl : 65536 < T.length
 ·rw [show QbQ L T = false by unfold QbQ; rw [decide_eq_false Ya]; rfl]
  refine Zi ?_
  clear hS
  intro b1 wx1 hS
  refine Z0 ?_
  refine ZaB ?_
  refine ZF ?_
  refine ZaF ?_
  refine Zae ?_
  refine Zei ?_
  exact ⟨rfl, hS.ext.below⟩
 rw [show QbQ L T = T.all (Qax L) by unfold QbQ; rw [decide_eq_true Ya]; rfl]
 refine Zi ?_
 clear hS
 intro b1 wx1 hS
 refine Z0 ?_
 refine ZaB ?_
 refine ZF ?_
 refine ZaF ?_
 refine Zcu ?_
 refine ZaB ?_
 refine ZF ?_
 refine Z6 ?_
 refine Qo 12 (13 :: 14 :: 15 :: 4 :: 16 :: 17 :: 18 :: 19 :: 20 :: 21 :: 22 :: 23 :: 24 :: 25 :: 26 :: 27 :: 28 :: 2 :: 29 :: []) (fun (R : List Int) v w' => ∃ D, T = D ++ R ∧ v = .int .i64 (D.length : Nat) ∧ T.all (Qax L) = R.all (Qax L) ∧ St [] w [(b1, hob A L.length c B T.length d)] [Qz 1 (Qm T) B T.length d, Qz 3 (Q6 L) A L.length c] w') (fun R => R.length) (T) ?_ Yb ?_
 ·exact ⟨[], rfl, rfl, rfl, hS⟩
 clear hS
 rintro R _ w2 jv ⟨D, hD, rfl, hg, hS⟩ ih
 have hlen : T.length = D.length + R.length := by rw [hD]; simp
 cases R with
 | nil =>
  simp only [List.length_nil] at hlen
  refine Zcr ?_
  refine Zei ?_
  rw [hg]
  exact ⟨rfl, hS.ext.below⟩
 | cons x R =>
  simp only [List.length_cons] at hlen
  obtain ⟨b, o, rfl⟩ := hT.some_ Ya
  have hx : T[D.length]? = some x := by rw [hD]; simp
  have hct : ∀ {H'} w', St [] w H' [Qz 1 (Qm T) (some ⟨b, o, none⟩) T.length d, Qz 3 (Q6 L) A L.length c] w' → _ := fun w' hS => (hS.fact (.head _)).int hx
  refine ZbL ?_
  refine Zbg ?_
  refine Zcw ?_
  refine ZcF ?_
  refine Z3 ?_
  refine Calls.mono (Qbb L.length c A _ T.length d x _) ?_
  rintro _ w3 ⟨rfl, hb3⟩
  refine Za ?_
  replace hS := hS.grow hb3
  by_cases hx : 0 ≤ x ∧ x < L.length
  case neg =>
   rw [show (decide (0 ≤ x) && decide (x < (L.length : Nat))) = false by rw [Bool.and_eq_false_iff]; simp only [decide_eq_false_iff_not]; omega]
   refine Zah ?_
   refine ZaX ?_
   refine ZY ?_
   refine Zan ?_
   refine Zbc ?_
   refine Zei ?_
   rw [hg]
   refine ⟨?_, hS.ext.below⟩
   simp [Qax, QnY hx]
  rw [show (decide (0 ≤ x) && decide (x < (L.length : Nat))) = true by rw [Bool.and_eq_true]; simp only [decide_eq_true_eq]; exact hx]
  obtain ⟨y, hy, hgy⟩ := QgU hx.1 hx.2
  obtain ⟨b2, o2, rfl⟩ := hL.some_ Ya
  have hcc : ∀ {H'} w', St [] w H' [Qz 1 (Qm T) (some ⟨b, o, none⟩) T.length d, Qz 3 (Q6 L) (some ⟨b2, o2, none⟩) L.length c] w' → _ := fun w' hS => (hS.fact (.tail _ (.head _))).cell hgy
  by_cases hk : y.k = 0
  ·refine Zah ?_
   refine Zx ?_
   refine Zbr ?_
   refine ZF ?_
   refine ZO ?_
   refine ZaI ?_
   refine Zv ?_
   refine Zbr ?_
   refine ZF ?_
   refine Zv ?_
   refine Zy ?_
   refine Z8 ?_
   refine ZbZ ?_
   refine ih (R) _ _ _ ?_ ?_ Yb Yc
   ·simp
   ·refine ⟨D ++ [x], by rw [hD]; simp, by simp, ?_, hS⟩
    rw [hg]; simp [Qax, hy, hk]
  ·refine Zah ?_
   refine Zx ?_
   refine Zbr ?_
   refine ZF ?_
   refine ZO ?_
   refine ZaI ?_
   refine Zv ?_
   refine Zbr ?_
   refine ZF ?_
   refine Zv ?_
   refine Zy ?_
   refine Zbc ?_
   refine Zei ?_
   rw [hg]
   refine ⟨?_, hS.ext.below⟩
   simp [Qax, hy, hk]
theorem QnZ (h : HH) (A B : Option Addr) (c d : Nat) (w : World) (hH : HFl h A c B d w) :
  Calls Tryz.prog 139 #[hv h A c B d] w fun e w' => e = .returned (.bool (QF h)) ∧ Below w.heap.size w w' := by
 have hS := (St.start w).base (φ := HFl h A c B d) fun w' hx => hH.ext hx
 refine Qh Tryz.func139 rfl Tryz.ntmps139 rfl ?_
 refine Zi ?_
 clear hS
 intro b1 wx1 hS
 refine Zd1 ?_
 refine ZF ?_
 refine Zk ?_
 refine Calls.mono (Qft h.cs A c _ (hS.fact (.head _)).1) ?_
 rintro _ w3 ⟨rfl, hb3⟩
 refine Za ?_
 replace hS := hS.grow hb3
 cases hg : Q4 h.cs with
 | false =>
  rw [show QF h = false by unfold QF; rw [hg]; rfl]
  refine Zaq ?_
  refine ZN ?_
  refine Qc Tryz.func139 rfl Yb ?_
  exact ⟨rfl, hS.ext.below⟩
 | true =>
  rw [show QF h = QbQ h.cs h.tr by unfold QF; rw [hg]; rfl]
  refine Zx ?_
  refine Zbv ?_
  refine Zv ?_
  refine Zk ?_
  refine Calls.mono (Qke h.cs h.tr A B c d _ (hS.fact (.head _)).1 (hS.fact (.head _)).2) ?_
  rintro _ w4 ⟨rfl, hb4⟩
  refine Za ?_
  replace hS := hS.grow hb4
  refine ZN ?_
  refine Qc Tryz.func139 rfl Yb ?_
  exact ⟨rfl, hS.ext.below⟩
theorem Qdd {h : HH} (hg : QF h = true) : h.cs.length ≤ 65536 ∧ h.tr.length ≤ 65536 := by
 unfold QF Q4 QbQ at hg
 simp only [Bool.and_eq_true, decide_eq_true_eq] at hg
 exact ⟨hg.1.1, hg.2.1⟩
section
variable {P : Program} {Q : Exit → Act → World → Prop} {ops : Array Oper} {rest : List Oper} {n d : Nat} {e : Env} {w : World} {ty : TypeId} {pos : String} {after : Array Edge}
theorem QjC {j : Nat} (h : yd ops n e j = some undef) : yielded ops (arr n e) j = none := by
 unfold yd at h
 unfold yielded
 cases ho : ops[j]? with
 | none => rfl
 | some o =>
  rw [ho] at h
  simp only [Option.bind_some] at h ⊢
  cases hd : o.dst with
  | none => rfl
  | some t =>
   rw [hd] at h
   simp only [Option.bind_some] at h ⊢
   by_cases ht : t < n
   ·have h' : Nat.blt t n = true := by simpa [Nat.blt_eq] using ht
    rw [h', cond_true] at h
    have hl : (arr n e)[t]? = some (lk e t) := by simp [arr, ht]
    rw [hl, Option.some.inj h]
    rfl
   ·have h' : Nat.blt t n = false := Qrk ht
    rw [h', cond_false] at h; cases h
theorem Qck {op : Op} {j : Nat} {g : Bool} (hy : yd ops n e j = some undef) (hd : Nat.blt d n = true)
  (h : Lst P Q ops rest n ((d, undef) :: e) w) : Lst P Q ops (⟨some d, op, ty, pos, after, some (j, g)⟩ :: rest) n e w := by
 unfold Lst at h ⊢
 unfold wpList
 rw [if_neg (by simp [Region.wanted, act, QjC hy]), Qd4 hd]
 exact h
end
inductive Rw (el sz : Nat) : Value → Nat → List Value → List (Nat × Obj) → Prop
 | zero_ {A : Option Addr} : Rw el sz (.slice A 0 0) 0 [] []
 | own_ {b len cap : Nat} {xs sp : List Value} (hx : xs.length = len * sz) (hc : (xs ++ sp).length = cap * sz) (hle : len ≤ cap) (hcp : 0 < cap) : Rw el sz (.slice (some ⟨b, 0, none⟩) len cap) len xs [(b, .cells (xs ++ sp).toArray el)]
theorem Rw.len_ {el sz len : Nat} {v : Value} {xs : List Value} {O : List (Nat × Obj)} (h : Rw el sz v len xs O) : xs.length = len * sz := by
 cases h with
 | zero_ => simp
 | own_ hx _ _ _ => exact hx
theorem Rw.form {el sz len : Nat} {v : Value} {xs : List Value} {O : List (Nat × Obj)} (h : Rw el sz v len xs O) : ∃ A c, v = .slice A len c ∧ len ≤ c := by
 cases h with
 | zero_ => exact ⟨_, _, rfl, Nat.le_refl _⟩
 | own_ _ _ hle _ => exact ⟨_, _, rfl, hle⟩
theorem Rw.some_ {el sz len cap l2 : Nat} {A : Option Addr} {xs : List Value} {O : List (Nat × Obj)} (h : Rw el sz (.slice A l2 cap) len xs O) (hl : 0 < len) : ∃ g sp, A = some ⟨g, 0, none⟩ ∧ O = [(g, .cells (xs ++ sp).toArray el)] ∧ (xs ++ sp).length = cap * sz ∧ len ≤ cap ∧ l2 = len := by
 cases h with
 | zero_ => omega
 | own_ hx hc hle hcp => exact ⟨_, _, rfl, rfl, hc, hle, rfl⟩
theorem Rw.flat {el sz len cap : Nat} {A : Option Addr} {xs : List Value} {O H : List (Nat × Obj)} {M : List Nat} {w0 w : World} {F : List (World → Prop)} (h : Rw el sz (.slice A len cap) len xs O) (hS : St M w0 (O ++ H) F w) : Qz sz xs A len cap w := by
 cases h with
 | zero_ => exact Qz.nil_ _ _ _
 | own_ hx hc hle hcp => exact Qz.own (hS.own (_, _) (.head _)) hx hle
theorem Qz.src {P : Program} {sz len cap : Nat} {xs : List Value} {A : Option Addr} {w : World} {t el : TypeId} (h : Qz sz xs A len cap w) (hT : QC P t = some el) (h1 : xs.all (·.oneCell') = true) : Src P sz t (.slice A len cap) len xs w := by
 by_cases hl : 0 < len
 ·obtain ⟨b, o, rfl, hs⟩ := h.2.2 hl
  exact Src.ofSlice w (Qar hT) ⟨b, o, none⟩ _ _ _ h.1 (fun j u hj => by rw [Qaa]; exact hs j u hj) (fun u hu => List.all_eq_true.1 h1 u hu)
 ·have hl0 : len = 0 := by omega
  subst hl0
  obtain rfl : xs = [] := List.eq_nil_of_length_eq_zero (by rw [h.1]; simp)
  cases A with
  | none => exact Src.ofNil w (Qar hT) _
  | some a => exact Src.ofSlice w (Qar hT) a _ _ _ Yd (fun j u hj => by simp at hj) (fun u hu => by cases hu)
section
variable {P : Program} {n : Nat} {e : Env} {w : World} {Q : Exit → Act → World → Prop} {ops : Array Oper} {rest : List Oper} {ty : TypeId} {pos : String} {after : Array Edge} {d : Nat}
variable {M : List Nat} {w0 : World} {H H' : List (Nat × Obj)} {F : List (World → Prop)} {b : Nat} {x y : Operand} {v : Value} {t tx : TypeId} {dst : Option Nat}
theorem QjN {A : Option Addr} {l c el : Nat} {t2 : TypeId} (hx : ev n e x = .slice A l c) (hy : ev n e y = .slice none 0 0) (hT : QC P t = some el) :
  (execOp (ev n e) ⟨dst, .binOp .eql t x y t2, ty, pos, after, none⟩).run P w = .ok (.value (.bool A.isNone)) w := by
 have h := Lib.run_eql_slice_nil w t el A l c 0 0 (Qar hT)
 simp only [execOp, hx, hy, bind, pure]
 rw [Sem.run_bind', Sem.run_bind']
 rw [show (eqGuard .eql t x y (.slice A l c) (.slice none 0 0)).run P w = .ok () w from by cases A <;> simp [eqGuard, Sem.run, pure]]
 simp only [Result.andThen_ok]
 rw [h]; rfl
theorem Qex {A : Option Addr} {len cap el sz : Nat} {i : Int} {j : Int} {z : Operand} (hx : ev n e x = .slice A len cap) (hy : ev n e y = .int .i64 i) (hz : ev n e z = .int .i64 j) (hT : QC P t = some el) (hs : QaD P el = some sz) (hi : i = (len : Nat)) (hj : j = (len : Nat)) (hl : len ≤ cap) :
  (execOp (ev n e) ⟨dst, .slice t x none (some y) (some z), ty, pos, after, none⟩).run P w = .ok (.value (.slice A len len)) w := by
 subst hi hj
 have h2 := run_underlying (Qar hT) w
 have h3 := Qac (w := w) hs
 simp only [execOp, Instr.sliceAt, Instr.slice, hx, hy, hz, Option.map_some, Option.map_none, bind, pure, Sem.bind]
 rw [Sem.run_bind', Sem.run_bind', h2]
 simp only [Result.andThen_ok]
 rw [Sem.run_bind', h2]
 simp only [Result.andThen_ok, Instr.sliceBounds, Option.isSome_some, if_true, bind, pure, Sem.bind]
 rw [Sem.run_bind', Sem.run_bind', QcJ rfl Ya Ya]
 simp only [Result.andThen_ok]
 rw [Sem.run_bind', QcJ rfl Ya Ya]
 simp only [Result.andThen_ok]
 rw [show ∀ (l : Nat), Sem.run P (Sem.pure (0, l, l)) w = .ok (0, l, l) w from fun _ => rfl]
 simp only [Result.andThen_ok]
 rw [Sem.run_bind', h3]
 simp [Sem.run, Addr.add]
theorem Qix {el sz bts k : Nat} {A : Option Addr} {ki : IntKind} (hS : St M w0 H F w) (hx : ev n e x = .slice A 0 0) (hy : ev n e y = .int .i64 (k : Nat)) (hT : QC P t = some el) (hTx : P.underlying tx = some (.int ki)) (hi : Qsk P el = some (sz, bts)) (hsz : 0 < sz) (hk : 0 < k)
  (hfit : 2 * k * bts ≤ 281474976710656) (hbig : k ≤ 4611686018427387904) (hd : Nat.blt d n = true)
  (h : ∀ (b cap : Nat) (zs : List Value) w', k ≤ cap → zs.length = cap * sz → St M w0 ((b, .cells zs.toArray el) :: H) F w' → Lst P Q ops rest n ((d, .slice (some ⟨b, 0, none⟩) k cap) :: e) w') :
  Lst P Q ops (⟨some d, .call ⟨.builtin .append, #[x, y], #[t, tx]⟩, ty, pos, after, none⟩ :: rest) n e w := by
 obtain ⟨i, z, h2, h3, h4, rfl, rfl⟩ := Qa0 hi
 have hn := Go.Room.nextslicecap_le' (show 0 < 0 + k by omega)
 have hcapn : 0 + k ≤ grownCap w (0 + k) 0 el := by unfold grownCap Question.cut; exact Nat.le_add_right _ _
 have h48 : ¬ (281474976710656 < Builtin.nextslicecap k 0 * i.bytes) := by
  have := Nat.le_trans (Nat.mul_le_mul_right i.bytes hn) (by rw [Nat.zero_add]; exact hfit)
  rw [Nat.zero_add] at this; omega
 have h49 : ¬ ((281474976710656 : Int) < (k : Int) * (i.bytes : Int)) := by
  have : k * i.bytes ≤ 2 * k * i.bytes := Nat.mul_le_mul_right _ Ya
  have h5 : ((k * i.bytes : Nat) : Int) ≤ 281474976710656 := by omega
  rw [Int.natCast_mul] at h5; omega
 have hw : IntKind.i64.wrap (k : Int) = k := Qg3 Ya Ya
 have h63 : ¬ (9223372036854775807 < (k : Int)) := by omega
 have hk0 : ¬ k = 0 := by omega
 have hr : ∃ zs : List Value, zs.length = grownCap w (0 + k) 0 el * i.size ∧ (Builtin.append_ #[t, tx] ty #[.slice A 0 0, .int .i64 (k : Nat)]).run P w = .ok (.slice (some ⟨w.heap.size, 0, none⟩) k (grownCap w (0 + k) 0 el)) (w.drew.alloc (.cells zs.toArray el)) := by
  have hf : ∀ w, (Builtin.firstCells i.size 0 (.slice A 0 0)).run P w = .ok #[] w := fun w => by cases A <;> simp [Builtin.firstCells, Sem.run, pure, loadCells, loadCellsFrom]
  have hz0 : ¬ ((k : Int) < 0) := by omega
  have hz1 : ¬ (k ≤ 0) := by omega
  rw [Nat.zero_add] at hcapn ⊢
  have hai : ∀ w, (asInt (.int .i64 (k : Nat))).run P w = .ok (k : Int) w := fun w => rfl
  have hs1 : ¬ i.size = 0 := by omega
  refine ⟨(Builtin.zeroCells z.cells k ++ Builtin.zeroCells z.cells (grownCap w k 0 el - k)).toList, ?_, ?_⟩
  ·simp only [Array.length_toList, Array.size_append, Builtin.zeroCells, Array.size_map, Array.size_range, h4]
   rw [← Nat.add_mul]; congr 1; omega
  ·simp [Builtin.append_, run_underlying (Qar hT), run_underlying hTx, sizeOf, typeInfo, zeroValue, h2, h3, hw, hai, hz0, h49, hz1, h63, h48, Question.forced, hf, newRow, grownCap, hk0, hs1]
   rw [if_neg (by intro h0; rcases Nat.mul_eq_zero.1 h0 with h | h <;> omega)]
   congr 3
   apply Array.ext'
   simp
 obtain ⟨zs, hzs, hr⟩ := hr
 refine Qa (v := .slice (some ⟨w.heap.size, 0, none⟩) k (grownCap w (0 + k) 0 el)) (w' := w.drew.alloc (.cells zs.toArray el)) ?_ hd (h _ _ zs _ Ya hzs (hS.drew.alloc _))
 simp only [execOp, resolve, List.map_toArray, List.map_cons, List.map_nil, hx, hy, bind, pure, Sem.bind, invoke, builtin]
 rw [Sem.run_bind', hr]
 rfl
theorem Qcu {el len k : Nat} {q : Value} {ys xs : List Value} {O : List (Nat × Obj)} {i : TypeInfo} {z : Value} (hS : St M w0 H F w) (hx : ev n e x = v) (hy : ev n e y = q)
  (hT : QC P t = some el) (hTx : QC P tx = some el) (hi : P.info? el = some i) (hz : i.zero = some z) (hzs : z.cells.size = i.size) (hys : ys.length = k * i.size) (hsrc : Src P i.size tx q k ys w) (hrow : Rw el i.size v len xs O) (hP : H.Perm (O ++ H')) (hfit : 2 * (len + k) * i.bytes ≤ 281474976710656) (hbig : len + k ≤ 4611686018427387904) (hd : Nat.blt d n = true)
  (h : ∀ v' O' w', Rw el i.size v' (len + k) (xs ++ ys) O' → St M w0 (O' ++ H') F w' → Lst P Q ops rest n ((d, v') :: e) w') :
  Lst P Q ops (⟨some d, .call ⟨.builtin .append, #[x, y], #[t, tx]⟩, ty, pos, after, none⟩ :: rest) n e w := by
 have hS := hS.perm hP
 have hlen := hrow.len_
 have hop : ∀ r w2, (Builtin.append_ #[t, tx] ty #[v, q]).run P w = .ok r w2 → (execOp (ev n e) ⟨some d, .call ⟨.builtin .append, #[x, y], #[t, tx]⟩, ty, pos, after, none⟩).run P w = .ok (.value r) w2 := by
  intro r w2 hr
  simp only [execOp, resolve, List.map_toArray, List.map_cons, List.map_nil, hx, hy, bind, pure, Sem.bind, invoke, builtin]
  rw [Sem.run_bind', hr]
  rfl
 have grow : ∀ (A : Option Addr) (cap : Nat), v = .slice A len cap → cap < len + k → (Builtin.firstCells i.size len (.slice A len cap)).run P w.drew = .ok xs.toArray w.drew → Lst P Q ops (⟨some d, .call ⟨.builtin .append, #[x, y], #[t, tx]⟩, ty, pos, after, none⟩ :: rest) n e w := by
  intro A cap hv hcap hold
  have hn := Go.Room.nextslicecap_le' hcap
  have hr := run_append_grow_src (P := P) w t tx ty el i z (Qar hT) hi hz A len cap xs hold (q) k ys hsrc hcap Ya (Nat.le_trans (Nat.mul_le_mul_right _ hn) hfit)
  rw [← hv] at hr
  refine ZbS ?_
  have hcapn : len + k ≤ grownCap w (len + k) cap el := by unfold grownCap Question.cut; exact Nat.le_add_right _ _
  generalize grownCap w (len + k) cap el = nc at hcapn
  have hzc : (Builtin.zeroCells z.cells (nc - (len + k))) = (Builtin.zeroCells z.cells (nc - (len + k))).toList.toArray := by simp
  have hzl : (Builtin.zeroCells z.cells (nc - (len + k))).toList.length = (nc - (len + k)) * i.size := by simp [Builtin.zeroCells, hzs]
  generalize (Builtin.zeroCells z.cells (nc - (len + k))).toList = zl at hzc hzl
  rw [hzc]
  have hS2 := (hS.drew.alloc (.cells ((xs ++ ys) ++ zl).toArray el))
  rw [show (xs ++ ys).toArray ++ zl.toArray = ((xs ++ ys) ++ zl).toArray by simp]
  refine h _ [(w.heap.size, .cells ((xs ++ ys) ++ zl).toArray el)] _ (Rw.own_ ?_ ?_ hcapn Ya) ?_
  ·rw [List.length_append, hlen, hys, Nat.add_mul]
  ·rw [List.length_append, List.length_append, hlen, hys, hzl, ← Nat.add_mul, ← Nat.add_mul]; congr 1; omega
  ·have h5 : St M w0 ((w.heap.size, .cells ((xs ++ ys) ++ zl).toArray el) :: (O ++ H')) F _ := hS2
   exact St.dropL (L := O) h5.sink
 cases hrow with
 | zero_ =>
  rename_i A0
  by_cases hk0 : k = 0
  ·subst hk0
   have hye : ys = [] := List.eq_nil_of_length_eq_zero (by simpa using hys)
   subst hye
   have hr : (Builtin.append_ #[t, tx] ty #[.slice A0 0 0, q]).run P w = .ok (.slice A0 0 0) w := by
    have hu := run_underlying (Qar hT) w
    have hu2 := run_underlying (Qar hTx) w
    have hs1 := hsrc.len
    have hs2 := hsrc.cells
    have hs0 : (Builtin.lenOf (.slice A0 0 0)).run P w = .ok 0 w := rfl
    cases A0 <;> simp [Builtin.append_, hu, hu2, sizeOf, typeInfo, hi, hs0, hs1, hs2, storeCells]
   refine Qa (hop _ _ hr) hd (h _ [] _ Rw.zero_ hS)
  ·exact grow A0 0 rfl Ya (by cases A0 <;> simp [Builtin.firstCells, Sem.run, pure, loadCells, loadCellsFrom])
 | own_ hx2 hc2 hle hcp =>
  rename_i bl cap sp
  have hbl : w.heap[bl]? = some (.cells (xs ++ sp).toArray el) := hS.own (bl, _) Yd
  by_cases hroom : len + k ≤ cap
  ·have hcc : (xs ++ sp).length = cap * i.size := hc2
   have hfitc : len * i.size + ys.length ≤ (xs ++ sp).length := by rw [hcc, hys, ← Nat.add_mul]; exact Nat.mul_le_mul_right _ hroom
   have hr := run_append_room_src (P := P) w t tx ty el i (Qar hT) hi bl 0 len cap (q) k ys hsrc hroom
    (fun j hj => by rw [Qu hbl, Nat.zero_add]; simp only [Option.isSome_iff_exists]; exact ⟨_, List.getElem?_eq_getElem Ya⟩) (fun j hj => by simp [World.frozen?, hbl])
   obtain ⟨hs1, hs2⟩ := QbK ys (0 + len * i.size) (xs ++ sp) w hbl Ya
   refine ZbS ?_
   have hu : Upd ([(bl, Obj.cells (xs ++ sp).toArray el)] ++ H') bl (.cells (xs ++ sp).toArray el) (.cells ((xs ++ sp).take (0 + len * i.size) ++ ys ++ (xs ++ sp).drop (0 + len * i.size + ys.length)).toArray el)
     ((bl, .cells ((xs ++ sp).take (0 + len * i.size) ++ ys ++ (xs ++ sp).drop (0 + len * i.size + ys.length)).toArray el) :: H') := .head
   have h3 := hS.turn hu hs2 hs1
   have e1 : (xs ++ sp).take (0 + len * i.size) = xs := by rw [Nat.zero_add, ← hx2]; simp
   have e2 : (xs ++ sp).drop (0 + len * i.size + ys.length) = sp.drop ys.length := by
    rw [Nat.zero_add, ← hx2]; simp [List.drop_append]
   rw [e1, e2] at h3
   refine h _ _ _ (Rw.own_ (b := bl) (sp := sp.drop ys.length) ?_ ?_ hroom hcp) h3
   ·rw [List.length_append, hx2, hys, Nat.add_mul]
   ·simp only [List.length_append, List.length_drop] at hcc hfitc ⊢
    omega
  ·refine grow _ cap rfl Ya ?_
   have := run_firstCells_some (P := P) w.drew i.size len ⟨bl, 0, none⟩ len cap xs hx2 (fun j u hj => ?_)
   ·exact this
   ·have hjl : j < xs.length := by
     rcases Nat.lt_or_ge j xs.length with hl | hl
     ·exact hl
     ·rw [List.getElem?_eq_none hl] at hj; cases hj
    rw [Qaa, Qu (w := w.drew) hbl, Nat.zero_add, List.getElem?_append_left hjl]; exact hj
theorem QdN {el sz : Nat} (hS : St M w0 H F w) (hT : QC P t = some el) (hs : QaD P el = some sz) (hd : Nat.blt d n = true)
  (hk : ∀ b w', St M w0 ((b, .cells [].toArray el) :: H) F w' → Lst P Q ops rest n ((d, .slice (some ⟨b, 0, none⟩) 0 0) :: e) w') :
  Lst P Q ops (⟨some d, .buildSlice t 0 #[], ty, pos, after, none⟩ :: rest) n e w := by
 refine Qa (v := .slice (some ⟨w.heap.size, 0, none⟩) 0 0) (w' := w.alloc (.cells [].toArray el)) ?_ hd (hk _ _ (hS.alloc _))
 have h1 := run_underlying (Qar hT) w
 have h2 := Qac (w := w) hs
 simp only [execOp, Instr.buildSlice, bind, pure, Array.map_empty]
 rw [Sem.run_bind', Sem.run_bind', h1]
 simp only [Result.andThen_ok]
 rw [Sem.run_bind', h2]
 have hr0 : ∀ g : Nat → Value, Array.map g (Array.range 0) = #[] := fun g => by simp
 simp only [Result.andThen_ok, Nat.zero_mul, if_neg (show ¬ (0 : Nat) > 2 ^ 24 by omega), if_true, hr0]
 rfl
theorem Qc7 {el : TypeId} {A : Option Addr} {l c : Nat} {ts : Array TypeId} (hx : ev n e x = .slice A l c) (ht : ts[0]? = some t) (hT : QC P t = some el) :
  (execOp (ev n e) ⟨dst, .call ⟨.builtin .cap, #[x], ts⟩, ty, pos, after, none⟩).run P w = .ok (.value (.int .i64 c)) w := by
 have h1 := run_underlying (Qar hT) w
 simp only [execOp, resolve, List.map_toArray, List.map_cons, List.map_nil, hx, bind, pure, Sem.bind, invoke, builtin, Builtin.cap_, ht, List.getElem?_toArray, List.getElem?_cons_zero]
 first
  | rfl
  | (rw [Sem.run_bind', Sem.run_bind', h1]; rfl)
end
theorem QcT {P : Program} {n : Nat} {e : Env} {w : World} {M : List Nat} {w0 : World} {H : List (Nat × Obj)} {F : List (World → Prop)} {b : Nat} {t : TypeId} {f : FuncId} {R : Ending → World → Prop} {k : List Item} {fn : Func} {a u sz : Nat} {o : Nat} {cs vs : List Value} {ct : TypeId} {v2 : Value} (hS : St M w0 H F w) (hf : P.funcs[f]? = some fn) (hr : fn.results = #[.cell a t, .tmp u]) (hv : ev n e (.tmp a) = .pointer (some ⟨b, o, none⟩))
  (h2 : ev n e (.tmp u) = v2) (hA : QeW P t = some true) (hs : QaD P t = some sz) (hb : At H b (.cells cs.toArray ct)) (hc : Cut cs o sz vs) (hR : R (.returned (.tuple #[.agg vs.toArray, v2])) w) : Qau P f R (.code .ret :: k) (act n e) w := by
 unfold Qau
 intro fr cs' hb' hk
 refine ⟨.returned (.tuple #[.agg vs.toArray, v2]), w, { fr.at (act n e) (.code .ret :: k) with mode := .returning }, hR, Steps.one step_ret, hb', rfl, rfl, hk, fn, ?_, ?_⟩
 ·show P.funcs[fr.fn]? = some fn
  rw [hb']; exact hf
 ·show (results fn (arr n e)).run P w = _
  have h1 := Qci (w := w) hA
  have h4 := Qac (w := w) hs
  have h5 := run_loadCells_list (P := P) (w := w) ⟨b, o, none⟩ vs (fun j v hj => by
   rw [Qaa, Qu (hS.at_ hb)]
   have hjk : j < sz := by
    rcases Nat.lt_or_ge j sz with h | h
    ·exact h
    ·rw [List.getElem?_eq_none (by rw [hc.length]; exact h)] at hj; cases hj
   rw [hc.get j hjk]; exact hj)
  rw [hc.length] at h5
  have hv' : (arr n e).getD a undef = .pointer (some ⟨b, o, none⟩) := by rw [QaA]; exact hv
  have hu' : (arr n e).getD u undef = v2 := by rw [QaA]; exact h2
  simp only [Array.getD_eq_getD_getElem?] at hv' hu'
  simp only [results, hr]
  simp [hv', hu', asAddr, loadVar, h1, h4, h5]
theorem Qo2 {P : Program} {n : Nat} {e : Env} {w : World} {M : List Nat} {w0 : World} {H : List (Nat × Obj)} {F : List (World → Prop)} {b : Nat} {t : TypeId} {f : FuncId} {R : Ending → World → Prop} {k : List Item} {fn : Func} {a u x y z sz : Nat} {o : Nat} {cs vs : List Value} {ct : TypeId} {v2 v3 v4 v5 : Value} (hS : St M w0 H F w) (hf : P.funcs[f]? = some fn) (hr : fn.results = #[.cell a t, .tmp u, .tmp x, .tmp y, .tmp z]) (hv : ev n e (.tmp a) = .pointer (some ⟨b, o, none⟩))
  (h2 : ev n e (.tmp u) = v2) (h3 : ev n e (.tmp x) = v3) (hy4 : ev n e (.tmp y) = v4) (hz5 : ev n e (.tmp z) = v5) (hA : QeW P t = some true) (hs : QaD P t = some sz) (hb : At H b (.cells cs.toArray ct)) (hc : Cut cs o sz vs) (hR : R (.returned (.tuple #[.agg vs.toArray, v2, v3, v4, v5])) w) : Qau P f R (.code .ret :: k) (act n e) w := by
 unfold Qau
 intro fr cs' hb' hk
 refine ⟨.returned (.tuple #[.agg vs.toArray, v2, v3, v4, v5]), w, { fr.at (act n e) (.code .ret :: k) with mode := .returning }, hR, Steps.one step_ret, hb', rfl, rfl, hk, fn, ?_, ?_⟩
 ·show P.funcs[fr.fn]? = some fn
  rw [hb']; exact hf
 ·show (results fn (arr n e)).run P w = _
  have h1 := Qci (w := w) hA
  have h4 := Qac (w := w) hs
  have h5 := run_loadCells_list (P := P) (w := w) ⟨b, o, none⟩ vs (fun j v hj => by
   rw [Qaa, Qu (hS.at_ hb)]
   have hjk : j < sz := by
    rcases Nat.lt_or_ge j sz with h | h
    ·exact h
    ·rw [List.getElem?_eq_none (by rw [hc.length]; exact h)] at hj; cases hj
   rw [hc.get j hjk]; exact hj)
  rw [hc.length] at h5
  have hv' : (arr n e).getD a undef = .pointer (some ⟨b, o, none⟩) := by rw [QaA]; exact hv
  have hu' : (arr n e).getD u undef = v2 := by rw [QaA]; exact h2
  have hx' : (arr n e).getD x undef = v3 := by rw [QaA]; exact h3
  have hy' : (arr n e).getD y undef = v4 := by rw [QaA]; exact hy4
  have hz' : (arr n e).getD z undef = v5 := by rw [QaA]; exact hz5
  simp only [Array.getD_eq_getD_getElem?] at hv' hu' hx' hy' hz'
  simp only [results, hr]
  simp [hv', hu', hx', hy', hz', asAddr, loadVar, h1, h4, h5]
theorem St.freezeR {M : List Nat} {w0 w : World} {H O : List (Nat × Obj)} {F : List (World → Prop)} {el sz len cap : Nat} {A : Option Addr} {xs : List Value} (hr : Rw el sz (.slice A len cap) len xs O) (hS : St M w0 (O ++ H) F w) : St M w0 H (Qz sz xs A len cap :: F) w := by
 cases hr with
 | zero_ => exact hS.learn fun w' _ => Qz.nil_ _ _ _
 | own_ hx hc hle hcp =>
  rename_i b sp
  have hS' : St M w0 ((b, Obj.cells (xs ++ sp).toArray el) :: H) F w := hS
  have ho := hS'.own (b, _) (.head _)
  refine hS'.drop.learn fun w' hw => Qz.own (sp := sp) (el := el) ?_ hx hle
  rw [hw.block b (QcL ho) fun hm => ?_]
  ·exact ho
  ·obtain ⟨p, hp, e⟩ := List.mem_map.1 hm
   exact (List.pairwise_cons.1 hS'.apart).1 p hp e.symm
section
variable {M : List Nat} {w0 : World} {H : List (Nat × Obj)} {F : List (World → Prop)}
theorem Qee {P : Program} {n : Nat} {e : Env} {w : World} {Q : Exit → Act → World → Prop} {ops : Array Oper} {rest : List Oper} {ty : TypeId} {pos : String} {after : Array Edge} {d : Nat} {H' : List (Nat × Obj)} {x y : Operand} {v : Value} {t tx : TypeId} {el len c : Nat} {A : Option Addr} {L : List HC} {xs : List Value} {O : List (Nat × Obj)} (hS : St M w0 H F w) (hx : ev n e x = v) (hy : ev n e y = .slice A L.length c)
  (hT : QC P t = some el) (hTx : QC P tx = some el) (hi : Qsk P el = some (3, 32)) (hL : Qz 3 (Q6 L) A L.length c w) (hrow : Rw el 3 v len xs O)
  (hP : H.Perm (O ++ H')) (hbig : len + L.length ≤ 4398046511104) (hd : Nat.blt d n = true)
  (h : ∀ v' O' w', Rw el 3 v' (len + L.length) (xs ++ Q6 L) O' → St M w0 (O' ++ H') F w' → Lst P Q ops rest n ((d, v') :: e) w') :
  Lst P Q ops (⟨some d, .call ⟨.builtin .append, #[x, y], #[t, tx]⟩, ty, pos, after, none⟩ :: rest) n e w := by
 obtain ⟨i, z, h2, h3, h4, h5, h6⟩ := Qa0 hi
 refine Qcu hS hx hy hT hTx h2 h3 h4 (by rw [h5]; exact Q9 L) (by rw [h5]; exact hL.src hTx (QgT L)) (by rw [h5]; exact hrow) hP (by rw [h6]; omega) Ya hd ?_
 rw [h5]; exact h
theorem QgQ {P : Program} {n : Nat} {e : Env} {w : World} {Q : Exit → Act → World → Prop} {ops : Array Oper} {rest : List Oper} {ty : TypeId} {pos : String} {after : Array Edge} {d : Nat} {H' : List (Nat × Obj)} {x y : Operand} {v : Value} {t tx : TypeId} {el len c : Nat} {A : Option Addr} {L : List Int} {xs : List Value} {O : List (Nat × Obj)} (hS : St M w0 H F w) (hx : ev n e x = v) (hy : ev n e y = .slice A L.length c)
  (hT : QC P t = some el) (hTx : QC P tx = some el) (hi : Qsk P el = some (1, 8)) (hL : Qz 1 (Qm L) A L.length c w) (hrow : Rw el 1 v len xs O)
  (hP : H.Perm (O ++ H')) (hbig : len + L.length ≤ 17592186044416) (hd : Nat.blt d n = true)
  (h : ∀ v' O' w', Rw el 1 v' (len + L.length) (xs ++ Qm L) O' → St M w0 (O' ++ H') F w' → Lst P Q ops rest n ((d, v') :: e) w') :
  Lst P Q ops (⟨some d, .call ⟨.builtin .append, #[x, y], #[t, tx]⟩, ty, pos, after, none⟩ :: rest) n e w := by
 obtain ⟨i, z, h2, h3, h4, h5, h6⟩ := Qa0 hi
 refine Qcu hS hx hy hT hTx h2 h3 h4 (by rw [h5]; exact QhR L) (by rw [h5]; exact hL.src hTx (Qlv L)) (by rw [h5]; exact hrow) hP (by rw [h6]; omega) Ya hd ?_
 rw [h5]; exact h
end
section
variable {M : List Nat} {w0 : World} {H : List (Nat × Obj)} {F : List (World → Prop)}
theorem Qjv (L : List HC) (A : Option Addr) (c : Nat) (w : World) (hL : Und F (Qz 3 (Q6 L) A L.length c)) (hl : L.length ≤ 4398046511104) (hS : St M w0 H F w) :
  Calls Tryz.prog 194 #[.slice A L.length c] w fun e w' => ∃ (A' : Option Addr) (c' : Nat) (O : List (Nat × Obj)), e = .returned (.slice A' L.length c') ∧ Rw 104 3 (.slice A' L.length c') L.length (Q6 L) O ∧ St M w0 (O ++ H) F w' := by
 refine Qh Tryz.func194 rfl Tryz.ntmps194 rfl ?_
 cases A with
 | none =>
  have h0 : L.length = 0 := by
   rcases Nat.eq_zero_or_pos L.length with h | h
   ·exact h
   ·obtain ⟨b, o, e⟩ := (hS.und hL).some_ h; cases e
  obtain rfl : L = [] := List.eq_nil_of_length_eq_zero h0
  refine ZD ?_
  refine Zej ?_
  refine Zae ?_
  refine Qc Tryz.func194 rfl Yb ?_
  exact ⟨none, 0, [], rfl, Rw.zero_, hS⟩
 | some a =>
  refine ZD ?_
  refine Zej ?_
  refine Zq ?_
  refine Zg ?_
  refine QdN (sz := 3) hS rfl rfl rfl ?_
  clear hS
  intro b1 wx1 hS
  refine Ze ?_
  obtain ⟨i, z, h2, h3, h4, h5, h6⟩ := Qa0 (P := Tryz.prog) (el := 104) (sz := 3) (bts := 32) rfl
  refine Qcu (xs := []) (O := []) hS Yb Yb rfl rfl h2 h3 h4 (by rw [h5]; exact Q9 L) (by rw [h5]; exact (hS.und hL).src rfl (QgT L)) Rw.zero_ (.refl _) (by rw [h6]; omega) Ya rfl ?_
  rw [h5]
  clear hS
  intro v' O' w' hrow hS
  rw [Nat.zero_add, List.nil_append] at hrow
  obtain ⟨A', c', rfl, _⟩ := hrow.form
  refine Zc ?_
  refine Qc Tryz.func194 rfl Yb ?_
  exact ⟨A', c', O', rfl, hrow, (hS.perm (List.perm_append_comm_assoc O' [_] _)).drop⟩
theorem Qrd (len c : Nat) (A : Option Addr) (w : World) (hl : len ≤ c) :
  Calls Tryz.prog 217 #[.slice A len c] w fun e w' => e = .returned (.slice A len len) ∧ Below w.heap.size w w' := by
 have hS := St.start w
 refine Qh Tryz.func217 rfl Tryz.ntmps217 rfl ?_
 refine Zj ?_
 refine Z5 ?_
 refine Zs ?_
 refine ZaG ?_
 refine Qa (Qex (sz := 3) rfl rfl rfl rfl rfl rfl rfl Ya) rfl ?_
 refine Zc ?_
 refine Qc Tryz.func217 rfl Yb ?_
 exact ⟨rfl, hS.ext.below⟩
theorem Qpa (L : List Int) (A : Option Addr) (c : Nat) (w : World) (hL : Und F (Qz 1 (Qm L) A L.length c)) (hl : L.length ≤ 4398046511104) (hS : St M w0 H F w) :
  Calls Tryz.prog 195 #[.slice A L.length c] w fun e w' => ∃ (A' : Option Addr) (c' : Nat) (O : List (Nat × Obj)), e = .returned (.slice A' L.length c') ∧ Rw 3 1 (.slice A' L.length c') L.length (Qm L) O ∧ St M w0 (O ++ H) F w' := by
 refine Qh Tryz.func195 rfl Tryz.ntmps195 rfl ?_
 cases A with
 | none =>
  have h0 : L.length = 0 := by
   rcases Nat.eq_zero_or_pos L.length with h | h
   ·exact h
   ·obtain ⟨b, o, e⟩ := (hS.und hL).some_ h; cases e
  obtain rfl : L = [] := List.eq_nil_of_length_eq_zero h0
  refine ZD ?_
  refine Zej ?_
  refine Zae ?_
  refine Qc Tryz.func195 rfl Yb ?_
  exact ⟨none, 0, [], rfl, Rw.zero_, hS⟩
 | some a =>
  refine ZD ?_
  refine Zej ?_
  refine Zq ?_
  refine Zg ?_
  refine QdN (sz := 1) hS rfl rfl rfl ?_
  clear hS
  intro b1 wx1 hS
  refine Ze ?_
  obtain ⟨i, z, h2, h3, h4, h5, h6⟩ := Qa0 (P := Tryz.prog) (el := 3) (sz := 1) (bts := 8) rfl
  refine Qcu (xs := []) (O := []) hS Yb Yb rfl rfl h2 h3 h4 (by rw [h5]; exact QhR L) (by rw [h5]; exact (hS.und hL).src rfl (Qlv L)) Rw.zero_ (.refl _) (by rw [h6]; omega) Ya rfl ?_
  rw [h5]
  clear hS
  intro v' O' w' hrow hS
  rw [Nat.zero_add, List.nil_append] at hrow
  obtain ⟨A', c', rfl, _⟩ := hrow.form
  refine Zc ?_
  refine Qc Tryz.func195 rfl Yb ?_
  exact ⟨A', c', O', rfl, hrow, (hS.perm (List.perm_append_comm_assoc O' [_] _)).drop⟩
theorem Qrc (len c : Nat) (A : Option Addr) (w : World) (hl : len ≤ c) :
  Calls Tryz.prog 216 #[.slice A len c] w fun e w' => e = .returned (.slice A len len) ∧ Below w.heap.size w w' := by
 have hS := St.start w
 refine Qh Tryz.func216 rfl Tryz.ntmps216 rfl ?_
 refine Zj ?_
 refine Z5 ?_
 refine Zs ?_
 refine ZaG ?_
 refine Qa (Qex (sz := 1) rfl rfl rfl rfl rfl rfl rfl Ya) rfl ?_
 refine Zc ?_
 refine Qc Tryz.func216 rfl Yb ?_
 exact ⟨rfl, hS.ext.below⟩
theorem Qn6 (len c : Nat) (A : Option Addr) (w : World) (hl : len ≤ c) (hS : St M w0 H F w) :
  Calls Tryz.prog 217 #[.slice A len c] w fun e w' => e = .returned (.slice A len len) ∧ St M w0 H F w' :=
 (Qrd len c A w hl).mono fun e w' h => ⟨h.1, hS.grow h.2⟩
theorem QsN (k : Nat) (w : World) (hk : k ≤ 65536) (hS : St M w0 H F w) :
  Calls Tryz.prog 187 #[.slice none 0 0, .int .i64 (k : Nat)] w fun e w' => ∃ (v : Value) (O : List (Nat × Obj)), e = .returned v ∧ Rw 104 3 v 0 [] O ∧ St M w0 (O ++ H) F w' := by
 refine Qg Tryz.func187 rfl Tryz.ntmps187 rfl ?_
 by_cases h0 : 0 < k
 ·refine ZD ?_
  refine Zr ?_
  refine Zab ?_
  refine Ze ?_
  refine Qa (Qc7 rfl rfl rfl) rfl ?_
  refine ZaG ?_
  refine Zay ?_
  refine Zay ?_
  refine Z2 ?_
  refine ZP ?_
  refine Zcm ?_
  refine Qa (Qc7 rfl rfl rfl) rfl ?_
  refine Qa (QM (sz := 3) rfl rfl rfl rfl Ya Ya) rfl ?_
  refine Ze ?_
  refine Qix (sz := 3) (bts := 32) (k := k) (ki := .i64) hS rfl (by show Value.int .i64 ((k : Int) - (((0 : Nat) : Int) - ((0 : Nat) : Int))) = _; congr 1) rfl rfl rfl Ya h0 Ya Ya rfl ?_
  clear hS
  intro b cap zs w2 hc hz hS
  refine ZaG ?_
  refine Qa (QM (sz := 3) rfl rfl rfl rfl Ya Ya) rfl ?_
  refine Zc ?_
  refine ZQ ?_
  refine Qc Tryz.func187 rfl Yb ?_
  exact ⟨_, [(b, .cells zs.toArray _)], rfl, Rw.own_ (xs := []) (sp := zs) rfl (by simpa using hz) (Nat.zero_le _) Ya, hS⟩
 ·refine ZD ?_
  refine Zr ?_
  refine Zab ?_
  refine Ze ?_
  refine Qa (Qc7 rfl rfl rfl) rfl ?_
  refine ZaG ?_
  refine Zay ?_
  refine Zay ?_
  refine Z2 ?_
  refine ZP ?_
  refine Zq ?_
  refine ZQ ?_
  refine Qc Tryz.func187 rfl Yb ?_
  exact ⟨_, [], rfl, Rw.zero_, hS⟩
theorem Qo7 (L K : List HC) (A B : Option Addr) (c d sb : Nat) (w : World) (hL : Und F (Qz 3 (Q6 L) A L.length c)) (hK : Und F (Qz 3 (Q6 K) B K.length d)) (hl : L.length + K.length ≤ 65536)
  (hS : St M w0 ((sb, .cells [.slice A L.length c, .slice B K.length d].toArray 53) :: H) F w) :
  Calls Tryz.prog 141 #[.slice (some ⟨sb, 0, none⟩) 2 2] w fun e w' => ∃ (A' : Option Addr) (c' : Nat) (O : List (Nat × Obj)), e = .returned (.slice A' (L ++ K).length c') ∧ Rw 104 3 (.slice A' (L ++ K).length c') (L ++ K).length (Q6 (L ++ K)) O ∧ St M w0 (O ++ H) F w' := by
 refine Qh Tryz.func141 rfl Tryz.ntmps141 rfl ?_
 refine Zj ?_
 refine Zc6 ?_
 refine QaB 11 3 (12 :: 13 :: 14 :: 5 :: 15 :: 16 :: 17 :: 18 :: 19 :: 20 :: 21 :: 22 :: []) (fun (i : Nat) v u w' => ∃ j : Nat, j + i = 2 ∧ v = .int .i64 (j : Nat) ∧ u = .int .i64 ((if j = 0 then 0 else if j = 1 then L.length else L.length + K.length : Nat) : Int) ∧ St M w0 ((sb, .cells [.slice A L.length c, .slice B K.length d].toArray 53) :: H) F w') (fun i => i) (2) ?_ Yb Yb ?_
 ·exact ⟨0, rfl, rfl, rfl, hS⟩
 clear hS
 rintro i _ _ w2 jv ⟨j, hj, rfl, rfl, hS⟩ ih
 match i, hj with
 | 2, hj =>
  obtain rfl : j = 0 := by omega
  rw [if_pos rfl]
  refine ZbL ?_
  refine Zdc ?_
  refine Z5 ?_
  refine Zs ?_
  refine Zz ?_
  refine Z2 ?_
  refine Zr ?_
  refine ZbM ?_
  refine ih (1) _ _ _ _ ?_ ?_ Yb Yb Yc
  ·omega
  ·exact ⟨1, rfl, rfl, by simp, hS⟩
 | 1, hj =>
  obtain rfl : j = 1 := by omega
  rw [if_neg (show ¬ (1 : Nat) = 0 by omega), if_pos rfl]
  refine ZbL ?_
  refine Zdc ?_
  refine Z5 ?_
  refine Zs ?_
  refine Zz ?_
  refine Z2 ?_
  refine Zr ?_
  refine ZbM ?_
  refine ih (0) _ _ _ _ ?_ ?_ Yb Yb Yc
  ·omega
  ·exact ⟨2, rfl, rfl, by simp, hS⟩
 | 0, hj =>
  obtain rfl : j = 2 := by omega
  rw [if_neg (show ¬ (2 : Nat) = 0 by omega), if_neg (show ¬ (2 : Nat) = 1 by omega)]
  refine ZL ?_
  refine Zbq ?_
  refine Calls.mono (QsN (L.length + K.length) _ hl hS) ?_
  rintro _ w3 ⟨v3, O3, rfl, hrow3, hS'⟩
  refine Za ?_
  replace hS := hS'
  clear hS'
  refine ZbN ?_
  refine QaB 27 6 (28 :: 29 :: 30 :: 8 :: 31 :: 32 :: 33 :: 34 :: []) (fun (i : Nat) v u w' => ∃ (j : Nat) (D : List HC) (O : List (Nat × Obj)), j + i = 2 ∧ v = .int .i64 (j : Nat) ∧ D = (if j = 0 then [] else if j = 1 then L else L ++ K) ∧ Rw 104 3 u D.length (Q6 D) O ∧ St M w0 (O ++ (sb, .cells [.slice A L.length c, .slice B K.length d].toArray 53) :: H) F w') (fun i => i) (2) ?_ Yb Yb ?_
  ·exact ⟨0, [], O3, rfl, rfl, rfl, hrow3, hS⟩
  clear hS
  rintro i _ u w4 jv2 ⟨j, D, O, hj, rfl, hD, hrow, hS⟩ ih
  match i, hj with
  | 2, hj =>
   obtain rfl : j = 0 := by omega
   obtain rfl : D = [] := hD
   replace hS := hS.raise
   refine ZbL ?_
   refine Zdc ?_
   refine Z1 ?_
   refine Qee hS Yb Yb rfl rfl rfl (hS.und hL) hrow (List.perm_append_comm_assoc [_] O _) Yh rfl ?_
   clear hS
   intro v5 O5 w5 hrow5 hS
   refine ZaN ?_
   refine ih (1) _ _ _ _ ?_ ?_ Yb Yb Yc
   ·omega
   ·exact ⟨1, L, O5, rfl, rfl, by simp, by simpa [Q6] using hrow5, hS⟩
  | 1, hj =>
   obtain rfl : j = 1 := by omega
   have hD2 : D = L := by simpa using hD
   rw [hD2] at hrow
   replace hS := hS.raise
   refine ZbL ?_
   refine Zdc ?_
   refine Z1 ?_
   refine Qee hS Yb Yb rfl rfl rfl (hS.und hK) hrow (List.perm_append_comm_assoc [_] O _) Ya rfl ?_
   clear hS
   intro v5 O5 w5 hrow5 hS
   refine ZaN ?_
   refine ih (0) _ _ _ _ ?_ ?_ Yb Yb Yc
   ·omega
   ·exact ⟨2, L ++ K, O5, rfl, rfl, by simp, by rw [QbG, List.length_append]; exact hrow5, hS⟩
  | 0, hj =>
   obtain rfl : j = 2 := by omega
   have hD2 : D = L ++ K := by simpa using hD
   rw [hD2] at hrow
   obtain ⟨A', c', rfl, _⟩ := hrow.form
   refine Zb9 ?_
   refine Qc Tryz.func141 rfl Yb ?_
   exact ⟨A', c', O, rfl, hrow, hS.raise.drop⟩
end
abbrev DS := List Bool × List Int
def Qbn (a : Int) (s : DS) : DS := if Qs s.1 a = true then s else (s.1.set a.toNat true, s.2 ++ [a])
structure Ql7 (L : List HC) (R : List Int) (Ex : Int → Prop) (s : DS) : Prop where
 len : s.1.length = L.length
 snd : ∀ i : Nat, s.1[i]? = some true → Rc L R (i : Int)
 wt : ∀ a ∈ s.2, Qj L a = true ∧ Qs s.1 a = true
 clo : ∀ (i : Int) (c : HC), Qs s.1 i = true → i ∉ s.2 → ¬ Ex i → hat L i = some c → (c.k = 0 → Qs s.1 c.n = true) ∧ ∀ j : Int, 0 ≤ j → j < QI c → Qs s.1 (i + 1 + j) = true
def pot (s : DS) : Nat := 2 * s.1.count false + s.2.length
theorem QbA {a b : Int} {s : DS} (h : Qs s.1 b = true) : Qs (Qbn a s).1 b = true := by
 unfold Qbn
 split
 ·exact h
 ·rw [Qao] at h ⊢
  rw [List.getElem?_set]
  split
  ·rename_i e
   rw [if_pos]
   rw [e]
   rcases Nat.lt_or_ge b.toNat s.1.length with g | g
   ·exact g
   ·rw [List.getElem?_eq_none g] at h; cases h
  ·exact h
theorem Qc9 {L : List HC} {a : Int} {s : DS} (hl : s.1.length = L.length) (ha : Qj L a = true) : Qs (Qbn a s).1 a = true := by
 have := Ql.1 ha
 unfold Qbn
 split
 ·assumption
 ·rw [Qao, List.getElem?_set_self Ya]
theorem Qf0 {L : List HC} {R : List Int} {Ex : Int → Prop} {a : Int} {s : DS} (h : Ql7 L R Ex s) (ha : Qj L a = true) (hr : Rc L R a) : Ql7 L R Ex (Qbn a s) := by
 have hmono := fun b => QbA (a := a) (b := b) (s := s)
 have hself := Qc9 (a := a) h.len ha
 have haa := Ql.1 ha
 by_cases hm : Qs s.1 a = true
 ·have e : Qbn a s = s := by unfold Qbn; rw [if_pos hm]
  rw [e]; exact h
 have e : Qbn a s = (s.1.set a.toNat true, s.2 ++ [a]) := by unfold Qbn; rw [if_neg hm]
 rw [e] at hmono hself ⊢
 refine ⟨by simpa using h.len, fun i hi => ?_, fun b hb => ?_, fun i c hi hn hx hc => ?_⟩
 ·dsimp only at hi
  rw [List.getElem?_set] at hi
  split at hi
  ·rename_i e2
   rw [show ((i : Nat) : Int) = a by omega]; exact hr
  ·exact h.snd i hi
 ·rcases List.mem_append.1 hb with hb | hb
  ·exact ⟨(h.wt b hb).1, hmono b (h.wt b hb).2⟩
  ·rw [List.mem_singleton.1 hb]; exact ⟨ha, hself⟩
 ·dsimp only at hi hn ⊢
  have hia : i ≠ a := fun e => hn (List.mem_append_right _ (by simp [e]))
  have hin : i ∉ s.2 := fun e => hn (List.mem_append_left _ e)
  have hii := (Qba.1 hc).1
  have hi' : Qs s.1 i = true := by
   rw [Qao] at hi ⊢
   rw [List.getElem?_set, if_neg Ya] at hi
   exact hi
  obtain ⟨g1, g2⟩ := h.clo i c hi' hin hx hc
  exact ⟨fun hk => hmono _ (g1 hk), fun j j0 j1 => hmono _ (g2 j j0 j1)⟩
theorem Qo6 {M : List Bool} {i : Nat} (hl : i < M.length) (hm : M[i]? ≠ some true) : (M.set i true).count false + 1 = M.count false := by
 have e : M[i] = false := by
  rw [List.getElem?_eq_getElem hl] at hm
  simpa using hm
 have hpos : 0 < M.count false := List.count_pos_iff.2 (by rw [← e]; exact List.getElem_mem hl)
 rw [List.count_set hl, e]
 simp
 omega
theorem QfZ {L : List HC} {a : Int} {s : DS} (hl : s.1.length = L.length) (ha : Qj L a = true) : pot (Qbn a s) ≤ pot s := by
 have := Ql.1 ha
 unfold Qbn
 split
 ·exact Nat.le_refl _
 ·rename_i hm
  have := Qo6 (M := s.1) (i := a.toNat) Ya (fun h => hm (Qao.2 h))
  unfold pot
  simp only [List.length_append, List.length_cons, List.length_nil]
  omega
theorem Ql7.pop {L : List HC} {R : List Int} {M : List Bool} {W : List Int} {a : Int} (h : Ql7 L R (fun _ => False) (M, W ++ [a])) : Ql7 L R (fun i => i = a) (M, W) :=
 ⟨h.len, h.snd, fun b hb => h.wt b (List.mem_append_left _ hb), fun i c h1 h2 h3 h4 => h.clo i c h1 (fun hm => by
  rcases List.mem_append.1 hm with hm | hm
  ·exact h2 hm
  ·exact h3 (by simpa using hm)) (fun e => e) h4⟩
theorem Ql7.done {L : List HC} {R : List Int} {a : Int} {c : HC} {s : DS} (h : Ql7 L R (fun i => i = a) s) (hc : hat L a = some c) (h1 : c.k = 0 → Qs s.1 c.n = true) (h2 : ∀ j : Int, 0 ≤ j → j < QI c → Qs s.1 (a + 1 + j) = true) : Ql7 L R (fun _ => False) s :=
 ⟨h.len, h.snd, h.wt, fun i d g1 g2 _ g4 => by
  by_cases e : i = a
  ·subst e; rw [hc] at g4; cases g4; exact ⟨h1, h2⟩
  ·exact h.clo i d g1 g2 e g4⟩
theorem Ql7.fin {L : List HC} {R : List Int} {M : List Bool} (hg : QO L.length L = true) (h : Ql7 L R (fun _ => False) (M, [])) (hr : ∀ r ∈ R, Qj L r = true → Qs M r = true) : M = QK L R := by
 refine Ql4.eq ⟨h.len, fun i hi => ⟨h.snd i, fun hrc => ?_⟩⟩
 have key : ∀ a, Rc L R a → Qs M a = true := by
  intro a ha
  induction ha with
  | root h1 h2 => exact hr _ h1 h2
  | ref h1 hc hk ih => exact (h.clo _ _ ih Yd (fun e => e) hc).1 hk
  | arg h1 hc i0 i1 ih => exact (h.clo _ _ ih Yd (fun e => e) hc).2 _ i0 i1
 have := Qao.1 (key _ hrc)
 rwa [show ((i : Nat) : Int).toNat = i by omega] at this
theorem Ql7.start {L : List HC} {R : List Int} {Ex : Int → Prop} : Ql7 L R Ex (List.replicate L.length false, []) := by
 have hno : ∀ i : Nat, (List.replicate L.length false)[i]? ≠ some true := fun i h => by
  rw [List.getElem?_replicate] at h
  split at h <;> simp at h
 refine ⟨by simp, fun i hi => absurd hi (hno i), fun a ha => by simp at ha, fun i c hi => ?_⟩
 exact absurd (Qao.1 hi) (hno _)
noncomputable def Qdl (h : HH) (R : List Int) : List Bool × Int := if QF h = false then ([], 1) else (QK h.cs R, 0)
end Go.Proofs.YthliapbflkfdiacGreatDoor
