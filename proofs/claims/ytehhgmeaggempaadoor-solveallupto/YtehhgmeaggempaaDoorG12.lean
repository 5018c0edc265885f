/-
  The document's own one, walked: unification by a list of pairs.
-/
import Derived.Test.YtehhgmeaggempaaDoorG4
import Derived.Test.YtehhgmeaggempaaDoorG10
import Derived.Test.YtehhgmeaggempaaDoorG11
import Derived.Test.YtehhgmeaggempaaDoorG8
namespace Go.Proofs.YtehhgmeaggempaaDoor
open Go.RowKit
set_option linter.unusedVariables false
set_option linter.unusedSimpArgs false
set_option maxRecDepth 100000
set_option maxHeartbeats 1000000
def pcs : List (LT × LT) → List Value
 | [] => []
 | p :: r => tcs p.1 ++ (tcs p.2 ++ pcs r)
theorem pcs_len : ∀ L, (pcs L).length = L.length * 8
 | [] => rfl
 | p :: r => by simp only [pcs, List.length_append, pcs_len r, List.length_cons]; show 4 + (4 + _) = _; omega
theorem pcs_app : ∀ L K, pcs (L ++ K) = pcs L ++ pcs K
 | [], K => rfl
 | p :: r, K => by simp only [pcs, List.cons_append, pcs_app r K, List.append_assoc]
theorem pcs_one : ∀ L, (pcs L).all (·.oneCell') = true
 | [] => rfl
 | p :: r => by simp only [pcs, List.all_append, pcs_one r, Bool.and_true]; rfl
theorem Rw.cutS {el sz len cap k : Nat} {A : Option Addr} {xs ys : List Value} {O : List (Nat × Obj)} (h : Rw el sz (.slice A (len + k) cap) (len + k) (xs ++ ys) O) (hx : xs.length = len * sz) (hk : 0 < k) : Rw el sz (.slice A len cap) len xs O := by
 generalize hz : xs ++ ys = zs at h
 generalize hn : len + k = m at h
 cases h with
 | zero_ => omega
 | own_ hx2 hc hle hcp =>
  rename_i b sp
  subst hz
  rw [List.append_assoc] at hc ⊢
  exact Rw.own_ hx hc (by omega) hcp
theorem nil_or_snoc {α : Type} : ∀ L : List α, L = [] ∨ ∃ K p, L = K ++ [p]
 | [] => .inl rfl
 | x :: r => by
  rcases nil_or_snoc r with rfl | ⟨K, p, rfl⟩
  ·exact .inr ⟨[], x, rfl⟩
  ·exact .inr ⟨x :: K, p, rfl⟩
theorem cutM : ∀ (X vs Z : List Value) (o k : Nat), X.length = o → vs.length = k → Cut (X ++ (vs ++ Z)) o k vs
 | [], vs, Z, o, k, h, hk => by
  obtain rfl : o = 0 := by simpa using h.symm
  subst hk
  induction vs with
  | nil => exact .z
  | cons v vs ih => exact .t ih
 | x :: X, vs, Z, o, k, h, hk => by
  obtain ⟨o, rfl⟩ : ∃ o', o = o' + 1 := ⟨o - 1, by simp at h; omega⟩
  exact .s (cutM X vs Z o k (by simpa using h) hk)
def ptm (p : LT × LT) : Tm × Tm := (p.1.tm, p.2.tm)
def AllP (F : List (World → Prop)) (L : List (LT × LT)) : Prop := ∀ p ∈ L, Und F (LRd p.1) ∧ Und F (LRd p.2) ∧ tgd p.1.tm ∧ tgd p.2.tm
structure EOk (F : List (World → Prop)) (E : List EN) : Prop where
 rd : Und F (ERd tyE E)
 ok : Bok (envB E)
 gd : ∀ x ∈ envB E, tgd x.2
theorem tgd_varN {t : Tm} (h : tgd t) (hk : t.k = 0) : 0 ≤ t.n ∧ t.n < 549755813888 := by
 have := h.1
 simp only [Ts.good, Bool.and_eq_true] at this
 have hn := this.1.1
 unfold nodeB at hn
 rw [if_pos hk] at hn
 simp only [Bool.and_eq_true, decide_eq_true_eq] at hn
 exact ⟨hn.1.1.1, hn.1.1.2⟩
theorem tgd_mkV {n : Int} (h0 : 0 ≤ n) (h1 : n < 549755813888) : tgd ⟨0, n, ⟨#[]⟩, .nil⟩ := by
 refine ⟨?_, by simp [Ts.nodes]⟩
 simp only [Ts.good, Bool.and_eq_true, and_true]
 unfold nodeB
 rw [if_pos rfl]
 simp only [Bool.and_eq_true, decide_eq_true_eq]
 exact ⟨⟨⟨h0, h1⟩, toList_mk []⟩, rfl⟩
theorem join_bok {B : Bnd} (hB : Bok B) {a b : Tm} (ka : (lookM B a).k = 0) (kb : (lookM B b).k = 0) (hn : (lookM B a).n ≠ (lookM B b).n) : Bok ((max (lookM B a).n (lookM B b).n, ⟨0, min (lookM B a).n (lookM B b).n, ⟨#[]⟩, .nil⟩) :: B) := by
 have fa := look_end hB a ka
 have fb := look_end hB b kb
 refine ⟨?_, fun _ => ⟨?_, ?_⟩, hB⟩
 ·show bget (max _ _) B = none
  rcases Int.le_total (lookM B a).n (lookM B b).n with h | h
  ·rw [Int.max_eq_right h]; exact fb
  ·rw [Int.max_eq_left h]; exact fa
 ·show min (lookM B a).n (lookM B b).n ≠ max (lookM B a).n (lookM B b).n; omega
 ·show bget (min _ _) B = none
  rcases Int.le_total (lookM B a).n (lookM B b).n with h | h
  ·rw [Int.min_eq_left h]; exact fa
  ·rw [Int.min_eq_right h]; exact fb
theorem EOk.cons {F : List (World → Prop)} {E : List EN} {v : Int} {t : LT} {bk : Nat} (hE : EOk F E) (ht : Und F (LRd t)) (hg : tgd t.tm) (hB : Bok ((v, t.tm) :: envB E)) : EOk ((fun w => w.heap[bk]? = some (.cells (ecs v t (eptr E)).toArray tyE)) :: F) (⟨v, t, bk⟩ :: E) :=
 ⟨fun w hw => ⟨hw _ (.head _), ht w fun φ h => hw φ (.tail _ h), hE.rd w fun φ h => hw φ (.tail _ h)⟩, hB, fun x hx => by
  rcases List.mem_cons.1 hx with rfl | hx
  ·exact hg
  ·exact hE.gd x hx⟩
theorem AllP.tail {F : List (World → Prop)} {L : List (LT × LT)} {φ : World → Prop} (h : AllP F L) : AllP (φ :: F) L := fun p hp => ⟨(h p hp).1.tail, (h p hp).2.1.tail, (h p hp).2.2⟩
def TA.lts : TA → List LT
 | .nil => []
 | .cons k n s A c ar r => ⟨k, n, s, A, c, ar⟩ :: r.lts
theorem TA.lts_tm (T : TA) : T.lts.map LT.tm = T.ts.tms := by
 induction T with
 | nil => rfl
 | cons k n s A c ar r _ ih => simp only [TA.lts, List.map_cons, ih]; rfl
theorem TA.lts_len (T : TA) : T.lts.length = T.len := by
 induction T with
 | nil => rfl
 | cons k n s A c ar r _ ih => simp only [TA.lts, List.length_cons, ih, TA.len]
theorem TA.lts_app (D R : TA) : (D.app R).lts = D.lts ++ R.lts := by
 induction D with
 | nil => rfl
 | cons k n s A c ar r _ ih => simp only [TA.app, TA.lts, ih, List.cons_append]
theorem TA.at_split : ∀ (T : TA) (j : Nat), j < T.len → ∃ (D R : TA) (x : LT), T = D.app (.cons x.k x.n x.s x.A x.c x.ar R) ∧ D.len = j
 | .nil, j, h => by simp [TA.len] at h
 | .cons k n s A c ar r, 0, _ => ⟨.nil, r, ⟨k, n, s, A, c, ar⟩, rfl, rfl⟩
 | .cons k n s A c ar r, j + 1, h => by
  obtain ⟨D, R, x, e, hl⟩ := TA.at_split r j (by simpa [TA.len] using h)
  exact ⟨.cons k n s A c ar D, R, x, by rw [e]; rfl, by simp only [TA.len, hl]⟩
def ltsV : List LT → List Value
 | [] => []
 | t :: r => tcs t ++ ltsV r
theorem ltsV_len : ∀ L, (ltsV L).length = L.length * 4
 | [] => rfl
 | t :: r => by simp only [ltsV, List.length_append, ltsV_len r, List.length_cons]; show 4 + _ = _; omega
theorem ltsV_app : ∀ L K, ltsV (L ++ K) = ltsV L ++ ltsV K
 | [], K => rfl
 | t :: r, K => by simp only [ltsV, List.cons_append, ltsV_app r K, List.append_assoc]
def AllT (F : List (World → Prop)) (L : List LT) : Prop := ∀ t ∈ L, Und F (LRd t) ∧ tgd t.tm
theorem tms_tgd {T : TA} (h : ∀ x, T.ts.Mem x → tgd x) : ∀ x ∈ T.lts, tgd x.tm := by
 induction T with
 | nil => intro x hx; cases hx
 | cons k n s A c ar r _ ih =>
  intro x hx
  rcases List.mem_cons.1 hx with rfl | hx
  ·exact h _ (.inl rfl)
  ·exact ih (fun y hy => h y (.inr hy)) x hx
theorem ArA.lts {A : Option Addr} {c : Nat} {T : TA} {w : World} (h : ArA A c T w) : ∀ x ∈ T.lts, LRd x w := by
 have := h.all
 clear h
 induction T with
 | nil => intro x hx; cases hx
 | cons k n s A c ar r _ ih =>
  intro x hx
  rcases List.mem_cons.1 hx with rfl | hx
  ·exact this.1
  ·exact ih this.2 x hx
theorem lst_appL {P : Program} {n : Nat} {e : Env} {w : World} {Q : Exit → Act → World → Prop} {ops : Array Oper} {rest : List Oper} {ty : TypeId} {pos : String} {after : Array Edge} {d : Nat} {M : List Nat} {w0 : World} {F : List (World → Prop)} {H H' : List (Nat × Obj)} {x y : Operand} {v : Value} {t tx : TypeId} {el len c : Nat} {A : Option Addr} {u : LT} {xs : List Value} {O : List (Nat × Obj)} (hS : St M w0 H F w) (hx : ev n e x = v) (hy : ev n e y = .slice A 1 c)
  (hT : isSliceP P t = some el) (hTx : isSliceP P tx = some el) (hi : rowP P el = some (4, 56)) (hL : Flat 4 (tcs u) A 1 c w) (hrow : Rw el 4 v len xs O)
  (hP : H.Perm (O ++ H')) (hbig : len + 1 ≤ 1099511627776) (hd : Nat.blt d n = true)
  (h : ∀ v' O' w', Rw el 4 v' (len + 1) (xs ++ tcs u) O' → St M w0 (O' ++ H') F w' → Lst P Q ops rest n ((d, v') :: e) w') :
  Lst P Q ops (⟨some d, .call ⟨.builtin .append, #[x, y], #[t, tx]⟩, ty, pos, after, none⟩ :: rest) n e w := by
 obtain ⟨i, z, h2, h3, h4, h5, h6⟩ := rowP_some hi
 refine lst_appendRw (k := 1) (ys := tcs u) hS hx hy hT hTx h2 h3 h4 (by rw [h5]; rfl) (by rw [h5]; exact hL.src hTx rfl) (by rw [h5]; exact hrow) hP (by rw [h6]; omega) (by omega) hd ?_
 rw [h5]; exact h
theorem drop_zip' {α β : Type} : ∀ (l : List α) (m : List β) (n : Nat), (l.zip m).drop n = (l.drop n).zip (m.drop n)
 | l, m, 0 => rfl
 | [], m, n + 1 => by simp
 | _ :: _, [], n + 1 => by simp
 | x :: l, y :: m, n + 1 => by simp only [List.zip_cons_cons, List.drop_succ_cons]; exact drop_zip' l m n
theorem zip_ptm : ∀ (l m : List LT), (l.zip m).map ptm = (l.map LT.tm).zip (m.map LT.tm)
 | [], m => by simp
 | _ :: _, [] => by simp
 | x :: l, y :: m => by simp only [List.zip_cons_cons, List.map_cons, zip_ptm l m]; rfl
theorem lst_appP8 {P : Program} {n : Nat} {e : Env} {w : World} {Q : Exit → Act → World → Prop} {ops : Array Oper} {rest : List Oper} {ty : TypeId} {pos : String} {after : Array Edge} {d : Nat} {M : List Nat} {w0 : World} {F : List (World → Prop)} {H H' : List (Nat × Obj)} {x y : Operand} {v : Value} {t tx : TypeId} {el len c : Nat} {A : Option Addr} {u : LT × LT} {xs : List Value} {O : List (Nat × Obj)} (hS : St M w0 H F w) (hx : ev n e x = v) (hy : ev n e y = .slice A 1 c)
  (hT : isSliceP P t = some el) (hTx : isSliceP P tx = some el) (hi : rowP P el = some (8, 112)) (hL : Flat 8 (pcs [u]) A 1 c w) (hrow : Rw el 8 v len xs O)
  (hP : H.Perm (O ++ H')) (hbig : len + 1 ≤ 1099511627776) (hd : Nat.blt d n = true)
  (h : ∀ v' O' w', Rw el 8 v' (len + 1) (xs ++ pcs [u]) O' → St M w0 (O' ++ H') F w' → Lst P Q ops rest n ((d, v') :: e) w') :
  Lst P Q ops (⟨some d, .call ⟨.builtin .append, #[x, y], #[t, tx]⟩, ty, pos, after, none⟩ :: rest) n e w := by
 obtain ⟨i, z, h2, h3, h4, h5, h6⟩ := rowP_some hi
 refine lst_appendRw (k := 1) (ys := pcs [u]) hS hx hy hT hTx h2 h3 h4 (by rw [h5]; rfl) (by rw [h5]; exact hL.src hTx (pcs_one _)) (by rw [h5]; exact hrow) hP (by rw [h6]; omega) (by omega) hd ?_
 rw [h5]; exact h
def OneRes (M : List Nat) (w0 : World) (H : List (Nat × Obj)) (F : List (World → Prop)) (r : Ug Bnd) (e : Ending) (w : World) : Prop :=
 ∃ (E' : List EN) (F' : List (World → Prop)) (k : Int), (∀ φ ∈ F, φ ∈ F') ∧ St M w0 H F' w ∧ (400 < r.w → k < 0 ∧ e = .returned (.tuple #[eptr E', .bool false, .int .i64 k])) ∧ (r.w ≤ 400 → k = 400 - (r.w : Nat) ∧ e = .returned (.tuple #[eptr E', .bool r.ok, .int .i64 k])) ∧ (r.w ≤ 400 → r.ok = true → envB E' = r.s ∧ EOk F' E')
section
variable {M : List Nat} {w0 : World} {H : List (Nat × Obj)} {F : List (World → Prop)}
theorem one_any (E : List EN) (a b : LT) (w : World) (hE : EOk F E) (ha : Und F (LRd a)) (hb : Und F (LRd b)) (ga : tgd a.tm) (gb : tgd b.tm) (hS : St M w0 H F w) :
  Calls Tryd.prog 81 #[eptr E, tv a, tv b] w (OneRes M w0 H F (uniG sysD 401 a.tm b.tm (envB E) 0)) := by
 generalize hr : uniG sysD 401 a.tm b.tm (envB E) 0 = r
 have hr0 : runD ([(a, b)].reverse.map ptm) (envB E) 0 = r := by rw [← hr]; exact runD_one a.tm b.tm (envB E) 0
 refine goes_enter3 Tryd.func81 rfl Tryd.ntmps81 rfl ?_
 refine goes_seq ?_
 refine goes_region ?_
 refine lst_box hS rfl rfl ?_
 clear hS
 intro b1 wx1 hS
 refine lst_box hS rfl rfl ?_
 clear hS
 intro b2 wx2 hS
 refine lst_run (run_assign (by conv=>lhs;whnf)) rfl ?_
 refine lst_run (run_assign (by conv=>lhs;whnf)) rfl ?_
 refine lst_run (run_assign (by conv=>lhs;whnf)) rfl ?_
 refine lst_done ?_
 refine goes_seq ?_
 refine goes_region ?_
 refine lst_run (run_assign (by conv=>lhs;whnf)) rfl ?_
 refine lst_done ?_
 refine goes_seq ?_
 refine goes_region ?_
 refine lst_run (run_loadN_own (k := 4) hS rfl rfl rfl (by exact .tail .head) (by repeat constructor)) rfl ?_
 refine lst_run (run_loadN_own (k := 4) hS rfl rfl rfl (by exact .head) (by repeat constructor)) rfl ?_
 refine lst_run (run_build (cells := [_, _, _, _, _, _, _, _]) (.cons (by conv=>lhs;whnf) (.cons (by conv=>lhs;whnf) .nil)) rfl) rfl ?_
 refine lst_buildSlice (cells := [_, _, _, _, _, _, _, _]) hS (.cons (by conv=>lhs;whnf) .nil) rfl rfl ?_
 clear hS
 intro b3 wx3 hS
 refine lst_run (run_assign (by conv=>lhs;whnf)) rfl ?_
 refine lst_done ?_
 refine goes_seq ?_
 refine goes_block ?_
 have hrl0 : Rw 153 8 (.slice (some ⟨b3, 0, none⟩) 1 1) 1 (pcs [(a, b)]) [(b3, .cells (pcs [(a, b)] ++ []).toArray 153)] := Rw.own_ rfl rfl (Nat.le_refl _) (by omega)
 refine goes_loop3 10 9 0 (22 :: 23 :: 24 :: 25 :: 26 :: 27 :: 28 :: 29 :: 30 :: 11 :: 31 :: 32 :: 33 :: 34 :: 35 :: 36 :: 37 :: 38 :: 39 :: 40 :: 41 :: 6 :: 7 :: 8 :: 42 :: 43 :: 44 :: 45 :: 46 :: 47 :: 48 :: 49 :: 12 :: 13 :: 50 :: 51 :: 52 :: 53 :: 54 :: 55 :: 56 :: 57 :: 58 :: 59 :: 60 :: 61 :: 62 :: 63 :: 64 :: 65 :: 66 :: 67 :: 68 :: 69 :: 70 :: 71 :: 72 :: 73 :: 74 :: 75 :: 76 :: 77 :: 78 :: 79 :: 80 :: 81 :: 82 :: 83 :: 84 :: 85 :: 86 :: 14 :: 87 :: 88 :: 89 :: 90 :: 91 :: 92 :: 93 :: 94 :: 95 :: 15 :: 96 :: 97 :: 98 :: 99 :: 100 :: 101 :: 102 :: 103 :: 104 :: 105 :: 106 :: 107 :: 108 :: 109 :: 110 :: 111 :: 112 :: 113 :: 114 :: 115 :: 116 :: 117 :: 118 :: 119 :: 120 :: 121 :: 122 :: 123 :: 124 :: 125 :: 16 :: 126 :: 127 :: 130 :: 131 :: 132 :: 133 :: 134 :: 135 :: 136 :: 137 :: 128 :: 129 :: 138 :: 139 :: 140 :: 141 :: 142 :: 143 :: 144 :: 145 :: 146 :: 147 :: 148 :: 149 :: 150 :: 151 :: 152 :: 153 :: 154 :: 155 :: 156 :: 157 :: 158 :: 159 :: 160 :: 161 :: 162 :: 163 :: 164 :: 165 :: 166 :: 167 :: 168 :: 169 :: 170 :: 171 :: 172 :: 173 :: 174 :: 175 :: 176 :: 177 :: 17 :: 178 :: 179 :: 182 :: 183 :: 184 :: 185 :: 186 :: 187 :: 188 :: 189 :: 190 :: 191 :: 192 :: 193 :: 194 :: 195 :: 180 :: 181 :: []) (fun (x : List (LT × LT) × List EN × Nat) v y z w' => ∃ (Al : Option Addr) (cl : Nat) (O : List (Nat × Obj)) (F' : List (World → Prop)), v = .slice Al x.1.length cl ∧ y = .int .i64 (400 - (x.2.2 : Nat)) ∧ z = eptr x.2.1 ∧ runD (x.1.reverse.map ptm) (envB x.2.1) x.2.2 = r ∧ x.2.2 ≤ 400 ∧ x.1.length ≤ 24 * x.2.2 + 1 ∧ (∀ φ ∈ F, φ ∈ F') ∧ EOk F' x.2.1 ∧ AllP F' x.1 ∧ Rw 153 8 (.slice Al x.1.length cl) x.1.length (pcs x.1) O ∧ St M w0 ((b2, .cells (tcs b).toArray 24) :: (b1, .cells (tcs a).toArray 24) :: (O ++ H)) F' w') (fun x => 401 - x.2.2) (([(a, b)], E, 0)) ?_ (by conv=>lhs;whnf) (by conv=>lhs;whnf) (by conv=>lhs;whnf) ?_
 ·exact ⟨_, _, _, F, rfl, rfl, rfl, hr0, by show 0 ≤ 400; omega, by simp, fun _ h => h, hE, fun p hp => by rw [List.mem_singleton.1 hp]; exact ⟨ha, hb, ga, gb⟩, hrl0, hS.perm (List.perm_append_comm_assoc [_] [_, _] _)⟩
 clear hS hrl0 hr0 hE
 rintro x v y z w2 jv ⟨Al, cl, O, F', hv, hy, hz, hrun, hwk, hLl, hF, hE, hAP, hrow, hS⟩ ih
 obtain ⟨L, E, wk⟩ := x
 dsimp only at hv hy hz hrun hwk hLl hE hAP hrow hS
 subst hv hy hz
 rcases nil_or_snoc L with rfl | ⟨L, p, rfl⟩
 ·have hr2 : r = ⟨true, envB E, wk⟩ := by rw [← hrun]; rfl
  refine goes_seq ?_
  refine goes_seq ?_
  refine goes_region ?_
  refine lst_run (run_move (by conv=>lhs;whnf)) rfl ?_
  refine lst_run (run_len_slice rfl rfl rfl) rfl ?_
  refine lst_run (rfl) rfl ?_
  refine lst_done ?_
  refine goes_false rfl ?_
  refine goes_exit rfl ?_
  refine goes_seq ?_
  refine goes_region ?_
  refine lst_run (run_move (by conv=>lhs;whnf)) rfl ?_
  refine lst_run (run_move (by conv=>lhs;whnf)) rfl ?_
  refine lst_run (run_assign (by conv=>lhs;whnf)) rfl ?_
  refine lst_run (run_assign (by conv=>lhs;whnf)) rfl ?_
  refine lst_run (run_assign (by conv=>lhs;whnf)) rfl ?_
  refine lst_done ?_
  refine goes_ret3 Tryd.func81 rfl (by conv=>lhs;whnf) (by conv=>lhs;whnf) (by conv=>lhs;whnf) ?_
  refine ⟨E, F', 400 - (wk : Nat), hF, hS.drop.drop.dropN, fun h => ?_, fun _ => ?_, fun _ _ => ?_⟩
  ·rw [hr2] at h; exact absurd h (by show ¬ 400 < wk; omega)
  ·rw [hr2]; exact ⟨rfl, rfl⟩
  ·rw [hr2]; exact ⟨rfl, hE⟩
 have hlp : (L ++ [p]).length = L.length + 1 := by simp
 obtain ⟨h1, h2, t1, t2⟩ := hAP p (by simp)
 have hAL : AllP F' L := fun q hq => hAP q (by simp [hq])
 obtain ⟨g, sp, rfl, rfl, hcap, hle, _⟩ := hrow.some_ (by omega)
 have hcut : Cut (pcs (L ++ [p]) ++ sp) (0 + ((((L ++ [p]).length : Nat) : Int) - 1).toNat * 8) 8 (tcs p.1 ++ tcs p.2) := by
  have := cutM (pcs L) (tcs p.1 ++ tcs p.2) sp (0 + ((((L ++ [p]).length : Nat) : Int) - 1).toNat * 8) 8 (by rw [pcs_len]; omega) rfl
  rw [pcs_app]
  simpa [pcs] using this
 have hrowL : Rw 153 8 (.slice (some ⟨g, 0, none⟩) L.length cl) L.length (pcs L) [(g, .cells (pcs (L ++ [p]) ++ sp).toArray 153)] := by
  rw [hlp, pcs_app] at hrow
  rw [pcs_app]
  exact hrow.cutS (pcs_len L) (by omega)
 have hrun2 : runD (ptm p :: L.reverse.map ptm) (envB E) wk = r := by rw [← hrun, List.reverse_append]; rfl
 by_cases hw4 : wk = 400
 ·have hr2 : r = ⟨false, envB E, wk + 1⟩ := by rw [← hrun2]; exact runD_over (ptm p) _ _ (by omega)
  refine goes_seq ?_
  refine goes_seq ?_
  refine goes_region ?_
  refine lst_run (run_move (by conv=>lhs;whnf)) rfl ?_
  refine lst_run (run_len_slice rfl rfl rfl) rfl ?_
  refine lst_run (run_gtr_yes rfl rfl (by omega)) rfl ?_
  refine lst_done ?_
  refine goes_true rfl ?_
  refine goes_skip ?_
  refine goes_block ?_
  refine goes_seq ?_
  refine goes_region ?_
  refine lst_run (run_move (by conv=>lhs;whnf)) rfl ?_
  refine lst_run (run_move (by conv=>lhs;whnf)) rfl ?_
  refine lst_run (run_len_slice rfl rfl rfl) rfl ?_
  refine lst_run (run_sub rfl rfl (by omega) (by omega)) rfl ?_
  refine lst_run (run_indexAddr (sz := 8) rfl rfl rfl rfl (by omega) (by omega)) rfl ?_
  refine lst_run (run_loadN_own (k := 8) hS rfl rfl rfl (by exact .tail (.tail .head)) (by assumption)) rfl ?_
  refine lst_alloc (cs := [_, _, _, _, _, _, _, _]) hS rfl rfl rfl ?_
  clear hS
  intro b4 wx4 hS
  refine lst_storeN hS rfl (by conv=>lhs;whnf) rfl rfl (by exact .head) (by repeat constructor) (by exact .head) ?_
  clear hS
  intro wx5 hS
  refine lst_done ?_
  refine goes_seq ?_
  refine goes_region ?_
  refine lst_run (run_move (by conv=>lhs;whnf)) rfl ?_
  refine lst_run (run_move (by conv=>lhs;whnf)) rfl ?_
  refine lst_run (run_len_slice rfl rfl rfl) rfl ?_
  refine lst_run (run_sub rfl rfl (by omega) (by omega)) rfl ?_
  refine lst_run (run_slice_slice (sz := 8) rfl rfl rfl rfl (by omega) (by omega)) rfl ?_
  refine lst_run (run_assign (by conv=>lhs;whnf)) rfl ?_
  refine lst_done ?_
  refine goes_seq ?_
  refine goes_seq ?_
  refine goes_region ?_
  refine lst_run (run_move (by conv=>lhs;whnf)) rfl ?_
  refine lst_run (run_sub rfl rfl (by omega) (by omega)) rfl ?_
  refine lst_run (run_assign (by conv=>lhs;whnf)) rfl ?_
  refine lst_done ?_
  refine goes_seq ?_
  refine goes_region ?_
  refine lst_run (run_move (by conv=>lhs;whnf)) rfl ?_
  refine lst_run (run_lss_yes rfl rfl (by omega)) rfl ?_
  refine lst_done ?_
  refine goes_true rfl ?_
  refine goes_seq ?_
  refine goes_region ?_
  refine lst_run (run_move (by conv=>lhs;whnf)) rfl ?_
  refine lst_run (run_move (by conv=>lhs;whnf)) rfl ?_
  refine lst_run (run_assign (by conv=>lhs;whnf)) rfl ?_
  refine lst_run (run_assign (by conv=>lhs;whnf)) rfl ?_
  refine lst_run (run_assign (by conv=>lhs;whnf)) rfl ?_
  refine lst_done ?_
  refine goes_ret3 Tryd.func81 rfl (by conv=>lhs;whnf) (by conv=>lhs;whnf) (by conv=>lhs;whnf) ?_
  refine ⟨E, F', 400 - (wk : Nat) - 1, hF, hS.drop.drop.drop.drop, fun _ => ⟨by omega, rfl⟩, fun h => ?_, fun h => ?_⟩
  ·rw [hr2] at h; exact absurd h (by show ¬ wk + 1 ≤ 400; omega)
  ·rw [hr2] at h; exact absurd h (by show ¬ wk + 1 ≤ 400; omega)
 refine goes_seq ?_
 refine goes_seq ?_
 refine goes_region ?_
 refine lst_run (run_move (by conv=>lhs;whnf)) rfl ?_
 refine lst_run (run_len_slice rfl rfl rfl) rfl ?_
 refine lst_run (run_gtr_yes rfl rfl (by omega)) rfl ?_
 refine lst_done ?_
 refine goes_true rfl ?_
 refine goes_skip ?_
 refine goes_block ?_
 refine goes_seq ?_
 refine goes_region ?_
 refine lst_run (run_move (by conv=>lhs;whnf)) rfl ?_
 refine lst_run (run_move (by conv=>lhs;whnf)) rfl ?_
 refine lst_run (run_len_slice rfl rfl rfl) rfl ?_
 refine lst_run (run_sub rfl rfl (by omega) (by omega)) rfl ?_
 refine lst_run (run_indexAddr (sz := 8) rfl rfl rfl rfl (by omega) (by omega)) rfl ?_
 refine lst_run (run_loadN_own (k := 8) hS rfl rfl rfl (by exact .tail (.tail .head)) (by assumption)) rfl ?_
 refine lst_alloc (cs := [_, _, _, _, _, _, _, _]) hS rfl rfl rfl ?_
 clear hS
 intro b4 wx4 hS
 refine lst_storeN hS rfl (by conv=>lhs;whnf) rfl rfl (by exact .head) (by repeat constructor) (by exact .head) ?_
 clear hS
 intro wx5 hS
 refine lst_done ?_
 refine goes_seq ?_
 refine goes_region ?_
 refine lst_run (run_move (by conv=>lhs;whnf)) rfl ?_
 refine lst_run (run_move (by conv=>lhs;whnf)) rfl ?_
 refine lst_run (run_len_slice rfl rfl rfl) rfl ?_
 refine lst_run (run_sub rfl rfl (by omega) (by omega)) rfl ?_
 refine lst_run (run_slice_slice (sz := 8) rfl rfl rfl rfl (by omega) (by omega)) rfl ?_
 refine lst_run (run_assign (by conv=>lhs;whnf)) rfl ?_
 refine lst_done ?_
 refine goes_seq ?_
 refine goes_seq ?_
 refine goes_region ?_
 refine lst_run (run_move (by conv=>lhs;whnf)) rfl ?_
 refine lst_run (run_sub rfl rfl (by omega) (by omega)) rfl ?_
 refine lst_run (run_assign (by conv=>lhs;whnf)) rfl ?_
 refine lst_done ?_
 refine goes_seq ?_
 refine goes_region ?_
 refine lst_run (run_move (by conv=>lhs;whnf)) rfl ?_
 refine lst_run (run_lss_no rfl rfl (by omega)) rfl ?_
 refine lst_done ?_
 refine goes_false rfl ?_
 refine goes_skip ?_
 refine goes_seq ?_
 refine goes_meet2 12 13 (42 :: 43 :: 44 :: 45 :: 46 :: 47 :: 48 :: 49 :: []) (fun y z w' => ∃ (b5 b6 : Nat) (u v : LT), y = .pointer (some ⟨b5, 0, none⟩) ∧ z = .pointer (some ⟨b6, 0, none⟩) ∧ u.tm = lookM (envB E) p.1.tm ∧ v.tm = lookM (envB E) p.2.tm ∧ Und F' (LRd u) ∧ Und F' (LRd v) ∧ St M w0 ((b5, .cells (tcs u).toArray 24) :: (b6, .cells (tcs v).toArray 24) :: (b4, .cells (tcs p.1 ++ tcs p.2).toArray 153) :: (b2, .cells (tcs b).toArray 24) :: (b1, .cells (tcs a).toArray 24) :: ([(g, .cells (pcs (L ++ [p]) ++ sp).toArray 153)] ++ H)) F' w') ?_ ?_
 ·intro hmeet
  refine goes_plan (St _ _ _ _) 10 (.read 0 (.read 1 (.read 2 (.read 4 (.read 5 (.read 6 (.pick 3 (.pick 7 (.pick 8 (.pick 9 .tail .none) (.pick 9 (.pick 8 .tail .none) .none)) (.pick 8 (.pick 7 (.pick 9 .tail .none) (.pick 9 (.pick 7 .tail .none) .none)) (.pick 9 (.pick 7 (.pick 8 .tail .none) (.pick 8 (.pick 7 .tail .none) .none)) .none))) (.pick 8 (.pick 3 (.pick 7 (.pick 9 .tail .none) (.pick 9 (.pick 7 .tail .none) .none)) (.pick 9 (.pick 3 (.pick 7 .tail .none) .none) .none)) (.pick 9 (.pick 3 (.pick 7 (.pick 8 .tail .none) (.pick 8 (.pick 7 .tail .none) .none)) (.pick 8 (.pick 3 (.pick 7 .tail .none) .none) .none)) .none))))))))) (by kernel_rfl) (by kernel_rfl) hS.drew ?_
  replace hS := hS.drew
  refine pln_read rfl (fun _ hS => run_move (by conv=>lhs;whnf)) rfl ?_
  refine pln_read rfl (fun _ hS => run_fieldAddr (off := 0) rfl rfl) rfl ?_
  refine pln_read rfl (fun _ hS => run_loadN_own (k := 4) hS rfl rfl rfl (by exact .head) (by repeat constructor)) rfl ?_
  refine pln_read rfl (fun _ hS => run_move (by conv=>lhs;whnf)) rfl ?_
  refine pln_read rfl (fun _ hS => run_fieldAddr (off := 4) rfl rfl) rfl ?_
  refine pln_read rfl (fun _ hS => run_loadN_own (k := 4) hS rfl rfl rfl (by exact .head) (by repeat constructor)) rfl ?_
  refine pln_pick rfl ?_ ?_
  ·refine lst_enter (run_call (by kernel_rfl) (args_2 (by conv=>lhs;whnf) (by conv=>lhs;whnf))) rfl ?_
   refine Calls.mono (elook_any E p.1 _ hE.rd h1 hE.ok hS) ?_
   rintro _ w5 ⟨u, rfl, hu1, hu2, hu3, hS'⟩
   refine ⟨_, rfl, ?_⟩
   replace hS := hS'
   clear hS'
   refine lst_pln (by exact hS) ?_
   refine pln_pick rfl ?_ ?_
   ·refine lst_enter (run_call (by kernel_rfl) (args_2 (by conv=>lhs;whnf) (by conv=>lhs;whnf))) rfl ?_
    refine Calls.mono (elook_any E p.2 _ hE.rd h2 hE.ok hS) ?_
    rintro _ w6 ⟨v, rfl, hv1, hv2, hv3, hS'⟩
    refine ⟨_, rfl, ?_⟩
    replace hS := hS'
    clear hS'
    refine lst_pln (by exact hS) ?_
    refine pln_pick rfl ?_ ?_
    ·refine lst_alloc (cs := [_, _, _, _]) hS rfl rfl rfl ?_
     clear hS
     intro b5 wx6 hS
     refine lst_pln (by exact hS.drop) ?_
     refine pln_last rfl ?_
     refine lst_alloc (cs := [_, _, _, _]) hS rfl rfl rfl ?_
     clear hS
     intro b6 wx7 hS
     refine lst_pln (by exact hS.drop.drop) ?_
     refine pln_tail ?_
     refine lst_storeN hS rfl (by conv=>lhs;whnf) rfl rfl (by exact .tail .head) (by repeat constructor) (by exact .tail .head) ?_
     clear hS
     intro wx8 hS
     refine lst_storeN hS rfl (by conv=>lhs;whnf) rfl rfl (by exact .head) (by repeat constructor) (by exact .head) ?_
     clear hS
     intro wx9 hS
     refine lst_done ?_
     first | exact hmeet _ _ _ _ ⟨_, _, u, v, rfl, rfl, hu1, hv1, hu2, hv2, hS⟩ (by conv=>lhs;whnf) (by conv=>lhs;whnf) (by kernel_rfl) | exact hmeet _ _ _ _ ⟨_, _, u, v, rfl, rfl, hu1, hv1, hu2, hv2, hS.perm (List.Perm.swap _ _ _)⟩ (by conv=>lhs;whnf) (by conv=>lhs;whnf) (by kernel_rfl)
    refine pln_last rfl ?_
    refine lst_alloc (cs := [_, _, _, _]) hS rfl rfl rfl ?_
    clear hS
    intro b7 wx10 hS
    refine lst_pln (by exact hS.drop) ?_
    refine pln_last rfl ?_
    refine lst_alloc (cs := [_, _, _, _]) hS rfl rfl rfl ?_
    clear hS
    intro b8 wx11 hS
    refine lst_pln (by exact hS.drop.drop) ?_
    refine pln_tail ?_
    refine lst_storeN hS rfl (by conv=>lhs;whnf) rfl rfl (by exact .head) (by repeat constructor) (by exact .head) ?_
    clear hS
    intro wx12 hS
    refine lst_storeN hS rfl (by conv=>lhs;whnf) rfl rfl (by exact .tail .head) (by repeat constructor) (by exact .tail .head) ?_
    clear hS
    intro wx13 hS
    refine lst_done ?_
    first | exact hmeet _ _ _ _ ⟨_, _, u, v, rfl, rfl, hu1, hv1, hu2, hv2, hS⟩ (by conv=>lhs;whnf) (by conv=>lhs;whnf) (by kernel_rfl) | exact hmeet _ _ _ _ ⟨_, _, u, v, rfl, rfl, hu1, hv1, hu2, hv2, hS.perm (List.Perm.swap _ _ _)⟩ (by conv=>lhs;whnf) (by conv=>lhs;whnf) (by kernel_rfl)
   refine pln_pick rfl ?_ ?_
   ·refine lst_alloc (cs := [_, _, _, _]) hS rfl rfl rfl ?_
    clear hS
    intro b9 wx14 hS
    refine lst_pln (by exact hS.drop) ?_
    refine pln_pick rfl ?_ ?_
    ·refine lst_enter (run_call (by kernel_rfl) (args_2 (by conv=>lhs;whnf) (by conv=>lhs;whnf))) rfl ?_
     refine Calls.mono (elook_any E p.2 _ hE.rd h2 hE.ok hS) ?_
     rintro _ w6 ⟨v, rfl, hv1, hv2, hv3, hS'⟩
     refine ⟨_, rfl, ?_⟩
     replace hS := hS'
     clear hS'
     refine lst_pln (by exact hS.drop) ?_
     refine pln_last rfl ?_
     refine lst_alloc (cs := [_, _, _, _]) hS rfl rfl rfl ?_
     clear hS
     intro b10 wx15 hS
     refine lst_pln (by exact hS.drop.drop) ?_
     refine pln_tail ?_
     refine lst_storeN hS rfl (by conv=>lhs;whnf) rfl rfl (by exact .tail .head) (by repeat constructor) (by exact .tail .head) ?_
     clear hS
     intro wx16 hS
     refine lst_storeN hS rfl (by conv=>lhs;whnf) rfl rfl (by exact .head) (by repeat constructor) (by exact .head) ?_
     clear hS
     intro wx17 hS
     refine lst_done ?_
     first | exact hmeet _ _ _ _ ⟨_, _, u, v, rfl, rfl, hu1, hv1, hu2, hv2, hS⟩ (by conv=>lhs;whnf) (by conv=>lhs;whnf) (by kernel_rfl) | exact hmeet _ _ _ _ ⟨_, _, u, v, rfl, rfl, hu1, hv1, hu2, hv2, hS.perm (List.Perm.swap _ _ _)⟩ (by conv=>lhs;whnf) (by conv=>lhs;whnf) (by kernel_rfl)
    refine pln_last rfl ?_
    refine lst_alloc (cs := [_, _, _, _]) hS rfl rfl rfl ?_
    clear hS
    intro b11 wx18 hS
    refine lst_pln (by exact hS.drop.drop) ?_
    refine pln_last rfl ?_
    refine lst_enter (run_call (by kernel_rfl) (args_2 (by conv=>lhs;whnf) (by conv=>lhs;whnf))) rfl ?_
    refine Calls.mono (elook_any E p.2 _ hE.rd h2 hE.ok hS) ?_
    rintro _ w6 ⟨v, rfl, hv1, hv2, hv3, hS'⟩
    refine ⟨_, rfl, ?_⟩
    replace hS := hS'
    clear hS'
    refine lst_pln (by exact hS.drop.drop) ?_
    refine pln_tail ?_
    refine lst_storeN hS rfl (by conv=>lhs;whnf) rfl rfl (by exact .tail .head) (by repeat constructor) (by exact .tail .head) ?_
    clear hS
    intro wx19 hS
    refine lst_storeN hS rfl (by conv=>lhs;whnf) rfl rfl (by exact .head) (by repeat constructor) (by exact .head) ?_
    clear hS
    intro wx20 hS
    refine lst_done ?_
    first | exact hmeet _ _ _ _ ⟨_, _, u, v, rfl, rfl, hu1, hv1, hu2, hv2, hS⟩ (by conv=>lhs;whnf) (by conv=>lhs;whnf) (by kernel_rfl) | exact hmeet _ _ _ _ ⟨_, _, u, v, rfl, rfl, hu1, hv1, hu2, hv2, hS.perm (List.Perm.swap _ _ _)⟩ (by conv=>lhs;whnf) (by conv=>lhs;whnf) (by kernel_rfl)
   refine pln_last rfl ?_
   refine lst_alloc (cs := [_, _, _, _]) hS rfl rfl rfl ?_
   clear hS
   intro b12 wx21 hS
   refine lst_pln (by exact hS.drop) ?_
   refine pln_pick rfl ?_ ?_
   ·refine lst_enter (run_call (by kernel_rfl) (args_2 (by conv=>lhs;whnf) (by conv=>lhs;whnf))) rfl ?_
    refine Calls.mono (elook_any E p.2 _ hE.rd h2 hE.ok hS) ?_
    rintro _ w6 ⟨v, rfl, hv1, hv2, hv3, hS'⟩
    refine ⟨_, rfl, ?_⟩
    replace hS := hS'
    clear hS'
    refine lst_pln (by exact hS.drop) ?_
    refine pln_last rfl ?_
    refine lst_alloc (cs := [_, _, _, _]) hS rfl rfl rfl ?_
    clear hS
    intro b13 wx22 hS
    refine lst_pln (by exact hS.drop.drop) ?_
    refine pln_tail ?_
    refine lst_storeN hS rfl (by conv=>lhs;whnf) rfl rfl (by exact .head) (by repeat constructor) (by exact .head) ?_
    clear hS
    intro wx23 hS
    refine lst_storeN hS rfl (by conv=>lhs;whnf) rfl rfl (by exact .tail .head) (by repeat constructor) (by exact .tail .head) ?_
    clear hS
    intro wx24 hS
    refine lst_done ?_
    first | exact hmeet _ _ _ _ ⟨_, _, u, v, rfl, rfl, hu1, hv1, hu2, hv2, hS⟩ (by conv=>lhs;whnf) (by conv=>lhs;whnf) (by kernel_rfl) | exact hmeet _ _ _ _ ⟨_, _, u, v, rfl, rfl, hu1, hv1, hu2, hv2, hS.perm (List.Perm.swap _ _ _)⟩ (by conv=>lhs;whnf) (by conv=>lhs;whnf) (by kernel_rfl)
   refine pln_last rfl ?_
   refine lst_alloc (cs := [_, _, _, _]) hS rfl rfl rfl ?_
   clear hS
   intro b14 wx25 hS
   refine lst_pln (by exact hS.drop.drop) ?_
   refine pln_last rfl ?_
   refine lst_enter (run_call (by kernel_rfl) (args_2 (by conv=>lhs;whnf) (by conv=>lhs;whnf))) rfl ?_
   refine Calls.mono (elook_any E p.2 _ hE.rd h2 hE.ok hS) ?_
   rintro _ w6 ⟨v, rfl, hv1, hv2, hv3, hS'⟩
   refine ⟨_, rfl, ?_⟩
   replace hS := hS'
   clear hS'
   refine lst_pln (by exact hS.drop.drop) ?_
   refine pln_tail ?_
   refine lst_storeN hS rfl (by conv=>lhs;whnf) rfl rfl (by exact .head) (by repeat constructor) (by exact .head) ?_
   clear hS
   intro wx26 hS
   refine lst_storeN hS rfl (by conv=>lhs;whnf) rfl rfl (by exact .tail .head) (by repeat constructor) (by exact .tail .head) ?_
   clear hS
   intro wx27 hS
   refine lst_done ?_
   first | exact hmeet _ _ _ _ ⟨_, _, u, v, rfl, rfl, hu1, hv1, hu2, hv2, hS⟩ (by conv=>lhs;whnf) (by conv=>lhs;whnf) (by kernel_rfl) | exact hmeet _ _ _ _ ⟨_, _, u, v, rfl, rfl, hu1, hv1, hu2, hv2, hS.perm (List.Perm.swap _ _ _)⟩ (by conv=>lhs;whnf) (by conv=>lhs;whnf) (by kernel_rfl)
  refine pln_pick rfl ?_ ?_
  ·refine lst_alloc (cs := [_, _, _, _]) hS rfl rfl rfl ?_
   clear hS
   intro b15 wx28 hS
   refine lst_pln (by exact hS.drop) ?_
   refine pln_pick rfl ?_ ?_
   ·refine lst_enter (run_call (by kernel_rfl) (args_2 (by conv=>lhs;whnf) (by conv=>lhs;whnf))) rfl ?_
    refine Calls.mono (elook_any E p.1 _ hE.rd h1 hE.ok hS) ?_
    rintro _ w5 ⟨u, rfl, hu1, hu2, hu3, hS'⟩
    refine ⟨_, rfl, ?_⟩
    replace hS := hS'
    clear hS'
    refine lst_pln (by exact hS.drop) ?_
    refine pln_pick rfl ?_ ?_
    ·refine lst_enter (run_call (by kernel_rfl) (args_2 (by conv=>lhs;whnf) (by conv=>lhs;whnf))) rfl ?_
     refine Calls.mono (elook_any E p.2 _ hE.rd h2 hE.ok hS) ?_
     rintro _ w6 ⟨v, rfl, hv1, hv2, hv3, hS'⟩
     refine ⟨_, rfl, ?_⟩
     replace hS := hS'
     clear hS'
     refine lst_pln (by exact hS.drop) ?_
     refine pln_last rfl ?_
     refine lst_alloc (cs := [_, _, _, _]) hS rfl rfl rfl ?_
     clear hS
     intro b16 wx29 hS
     refine lst_pln (by exact hS.drop.drop) ?_
     refine pln_tail ?_
     refine lst_storeN hS rfl (by conv=>lhs;whnf) rfl rfl (by exact .tail .head) (by repeat constructor) (by exact .tail .head) ?_
     clear hS
     intro wx30 hS
     refine lst_storeN hS rfl (by conv=>lhs;whnf) rfl rfl (by exact .head) (by repeat constructor) (by exact .head) ?_
     clear hS
     intro wx31 hS
     refine lst_done ?_
     first | exact hmeet _ _ _ _ ⟨_, _, u, v, rfl, rfl, hu1, hv1, hu2, hv2, hS⟩ (by conv=>lhs;whnf) (by conv=>lhs;whnf) (by kernel_rfl) | exact hmeet _ _ _ _ ⟨_, _, u, v, rfl, rfl, hu1, hv1, hu2, hv2, hS.perm (List.Perm.swap _ _ _)⟩ (by conv=>lhs;whnf) (by conv=>lhs;whnf) (by kernel_rfl)
    refine pln_last rfl ?_
    refine lst_alloc (cs := [_, _, _, _]) hS rfl rfl rfl ?_
    clear hS
    intro b17 wx32 hS
    refine lst_pln (by exact hS.drop.drop) ?_
    refine pln_last rfl ?_
    refine lst_enter (run_call (by kernel_rfl) (args_2 (by conv=>lhs;whnf) (by conv=>lhs;whnf))) rfl ?_
    refine Calls.mono (elook_any E p.2 _ hE.rd h2 hE.ok hS) ?_
    rintro _ w6 ⟨v, rfl, hv1, hv2, hv3, hS'⟩
    refine ⟨_, rfl, ?_⟩
    replace hS := hS'
    clear hS'
    refine lst_pln (by exact hS.drop.drop) ?_
    refine pln_tail ?_
    refine lst_storeN hS rfl (by conv=>lhs;whnf) rfl rfl (by exact .tail .head) (by repeat constructor) (by exact .tail .head) ?_
    clear hS
    intro wx33 hS
    refine lst_storeN hS rfl (by conv=>lhs;whnf) rfl rfl (by exact .head) (by repeat constructor) (by exact .head) ?_
    clear hS
    intro wx34 hS
    refine lst_done ?_
    first | exact hmeet _ _ _ _ ⟨_, _, u, v, rfl, rfl, hu1, hv1, hu2, hv2, hS⟩ (by conv=>lhs;whnf) (by conv=>lhs;whnf) (by kernel_rfl) | exact hmeet _ _ _ _ ⟨_, _, u, v, rfl, rfl, hu1, hv1, hu2, hv2, hS.perm (List.Perm.swap _ _ _)⟩ (by conv=>lhs;whnf) (by conv=>lhs;whnf) (by kernel_rfl)
   refine pln_last rfl ?_
   refine lst_alloc (cs := [_, _, _, _]) hS rfl rfl rfl ?_
   clear hS
   intro b18 wx35 hS
   refine lst_pln (by exact hS.drop.drop) ?_
   refine pln_last rfl ?_
   refine lst_enter (run_call (by kernel_rfl) (args_2 (by conv=>lhs;whnf) (by conv=>lhs;whnf))) rfl ?_
   refine Calls.mono (elook_any E p.1 _ hE.rd h1 hE.ok hS) ?_
   rintro _ w5 ⟨u, rfl, hu1, hu2, hu3, hS'⟩
   refine ⟨_, rfl, ?_⟩
   replace hS := hS'
   clear hS'
   refine lst_pln (by exact hS.drop.drop) ?_
   refine pln_last rfl ?_
   refine lst_enter (run_call (by kernel_rfl) (args_2 (by conv=>lhs;whnf) (by conv=>lhs;whnf))) rfl ?_
   refine Calls.mono (elook_any E p.2 _ hE.rd h2 hE.ok hS) ?_
   rintro _ w6 ⟨v, rfl, hv1, hv2, hv3, hS'⟩
   refine ⟨_, rfl, ?_⟩
   replace hS := hS'
   clear hS'
   refine lst_pln (by exact hS.drop.drop) ?_
   refine pln_tail ?_
   refine lst_storeN hS rfl (by conv=>lhs;whnf) rfl rfl (by exact .tail .head) (by repeat constructor) (by exact .tail .head) ?_
   clear hS
   intro wx36 hS
   refine lst_storeN hS rfl (by conv=>lhs;whnf) rfl rfl (by exact .head) (by repeat constructor) (by exact .head) ?_
   clear hS
   intro wx37 hS
   refine lst_done ?_
   first | exact hmeet _ _ _ _ ⟨_, _, u, v, rfl, rfl, hu1, hv1, hu2, hv2, hS⟩ (by conv=>lhs;whnf) (by conv=>lhs;whnf) (by kernel_rfl) | exact hmeet _ _ _ _ ⟨_, _, u, v, rfl, rfl, hu1, hv1, hu2, hv2, hS.perm (List.Perm.swap _ _ _)⟩ (by conv=>lhs;whnf) (by conv=>lhs;whnf) (by kernel_rfl)
  refine pln_last rfl ?_
  refine lst_alloc (cs := [_, _, _, _]) hS rfl rfl rfl ?_
  clear hS
  intro b19 wx38 hS
  refine lst_pln (by exact hS.drop) ?_
  refine pln_pick rfl ?_ ?_
  ·refine lst_enter (run_call (by kernel_rfl) (args_2 (by conv=>lhs;whnf) (by conv=>lhs;whnf))) rfl ?_
   refine Calls.mono (elook_any E p.1 _ hE.rd h1 hE.ok hS) ?_
   rintro _ w5 ⟨u, rfl, hu1, hu2, hu3, hS'⟩
   refine ⟨_, rfl, ?_⟩
   replace hS := hS'
   clear hS'
   refine lst_pln (by exact hS.drop) ?_
   refine pln_pick rfl ?_ ?_
   ·refine lst_enter (run_call (by kernel_rfl) (args_2 (by conv=>lhs;whnf) (by conv=>lhs;whnf))) rfl ?_
    refine Calls.mono (elook_any E p.2 _ hE.rd h2 hE.ok hS) ?_
    rintro _ w6 ⟨v, rfl, hv1, hv2, hv3, hS'⟩
    refine ⟨_, rfl, ?_⟩
    replace hS := hS'
    clear hS'
    refine lst_pln (by exact hS.drop) ?_
    refine pln_last rfl ?_
    refine lst_alloc (cs := [_, _, _, _]) hS rfl rfl rfl ?_
    clear hS
    intro b20 wx39 hS
    refine lst_pln (by exact hS.drop.drop) ?_
    refine pln_tail ?_
    refine lst_storeN hS rfl (by conv=>lhs;whnf) rfl rfl (by exact .head) (by repeat constructor) (by exact .head) ?_
    clear hS
    intro wx40 hS
    refine lst_storeN hS rfl (by conv=>lhs;whnf) rfl rfl (by exact .tail .head) (by repeat constructor) (by exact .tail .head) ?_
    clear hS
    intro wx41 hS
    refine lst_done ?_
    first | exact hmeet _ _ _ _ ⟨_, _, u, v, rfl, rfl, hu1, hv1, hu2, hv2, hS⟩ (by conv=>lhs;whnf) (by conv=>lhs;whnf) (by kernel_rfl) | exact hmeet _ _ _ _ ⟨_, _, u, v, rfl, rfl, hu1, hv1, hu2, hv2, hS.perm (List.Perm.swap _ _ _)⟩ (by conv=>lhs;whnf) (by conv=>lhs;whnf) (by kernel_rfl)
   refine pln_last rfl ?_
   refine lst_alloc (cs := [_, _, _, _]) hS rfl rfl rfl ?_
   clear hS
   intro b21 wx42 hS
   refine lst_pln (by exact hS.drop.drop) ?_
   refine pln_last rfl ?_
   refine lst_enter (run_call (by kernel_rfl) (args_2 (by conv=>lhs;whnf) (by conv=>lhs;whnf))) rfl ?_
   refine Calls.mono (elook_any E p.2 _ hE.rd h2 hE.ok hS) ?_
   rintro _ w6 ⟨v, rfl, hv1, hv2, hv3, hS'⟩
   refine ⟨_, rfl, ?_⟩
   replace hS := hS'
   clear hS'
   refine lst_pln (by exact hS.drop.drop) ?_
   refine pln_tail ?_
   refine lst_storeN hS rfl (by conv=>lhs;whnf) rfl rfl (by exact .head) (by repeat constructor) (by exact .head) ?_
   clear hS
   intro wx43 hS
   refine lst_storeN hS rfl (by conv=>lhs;whnf) rfl rfl (by exact .tail .head) (by repeat constructor) (by exact .tail .head) ?_
   clear hS
   intro wx44 hS
   refine lst_done ?_
   first | exact hmeet _ _ _ _ ⟨_, _, u, v, rfl, rfl, hu1, hv1, hu2, hv2, hS⟩ (by conv=>lhs;whnf) (by conv=>lhs;whnf) (by kernel_rfl) | exact hmeet _ _ _ _ ⟨_, _, u, v, rfl, rfl, hu1, hv1, hu2, hv2, hS.perm (List.Perm.swap _ _ _)⟩ (by conv=>lhs;whnf) (by conv=>lhs;whnf) (by kernel_rfl)
  refine pln_last rfl ?_
  refine lst_alloc (cs := [_, _, _, _]) hS rfl rfl rfl ?_
  clear hS
  intro b22 wx45 hS
  refine lst_pln (by exact hS.drop.drop) ?_
  refine pln_last rfl ?_
  refine lst_enter (run_call (by kernel_rfl) (args_2 (by conv=>lhs;whnf) (by conv=>lhs;whnf))) rfl ?_
  refine Calls.mono (elook_any E p.1 _ hE.rd h1 hE.ok hS) ?_
  rintro _ w5 ⟨u, rfl, hu1, hu2, hu3, hS'⟩
  refine ⟨_, rfl, ?_⟩
  replace hS := hS'
  clear hS'
  refine lst_pln (by exact hS.drop.drop) ?_
  refine pln_last rfl ?_
  refine lst_enter (run_call (by kernel_rfl) (args_2 (by conv=>lhs;whnf) (by conv=>lhs;whnf))) rfl ?_
  refine Calls.mono (elook_any E p.2 _ hE.rd h2 hE.ok hS) ?_
  rintro _ w6 ⟨v, rfl, hv1, hv2, hv3, hS'⟩
  refine ⟨_, rfl, ?_⟩
  replace hS := hS'
  clear hS'
  refine lst_pln (by exact hS.drop.drop) ?_
  refine pln_tail ?_
  refine lst_storeN hS rfl (by conv=>lhs;whnf) rfl rfl (by exact .head) (by repeat constructor) (by exact .head) ?_
  clear hS
  intro wx46 hS
  refine lst_storeN hS rfl (by conv=>lhs;whnf) rfl rfl (by exact .tail .head) (by repeat constructor) (by exact .tail .head) ?_
  clear hS
  intro wx47 hS
  refine lst_done ?_
  first | exact hmeet _ _ _ _ ⟨_, _, u, v, rfl, rfl, hu1, hv1, hu2, hv2, hS⟩ (by conv=>lhs;whnf) (by conv=>lhs;whnf) (by kernel_rfl) | exact hmeet _ _ _ _ ⟨_, _, u, v, rfl, rfl, hu1, hv1, hu2, hv2, hS.perm (List.Perm.swap _ _ _)⟩ (by conv=>lhs;whnf) (by conv=>lhs;whnf) (by kernel_rfl)
 clear hS
 rintro jv2 _ _ w7 ⟨b5, b6, u, v, rfl, rfl, hu1, hv1, hu2, hv2, hS⟩
 have tu : tgd u.tm := by rw [hu1]; exact look_Q hE.gd t1
 have tv' : tgd v.tm := by rw [hv1]; exact look_Q hE.gd t2
 by_cases ku : u.k = 0
 ·have ku' : (lookM (envB E) p.1.tm).k = 0 := by rw [← hu1]; exact ku
  by_cases kv : v.k = 0
  ·have kv' : (lookM (envB E) p.2.tm).k = 0 := by rw [← hv1]; exact kv
   by_cases hn : u.n = v.n
   ·have hrun3 : runD (L.reverse.map ptm) (envB E) (wk + 1) = r := by
     rw [← hrun2]; exact (runD_same _ (by omega) ku' kv' (by rw [← hu1, ← hv1]; exact hn)).symm
    refine goes_seq ?_
    refine goes_seq ?_
    refine goes_region ?_
    refine lst_run (run_fieldAddr (off := 0) rfl rfl) rfl ?_
    refine lst_run (run_load1_own hS rfl rfl (by exact .head) (by repeat constructor)) rfl ?_
    refine lst_run (run_eql_yes rfl rfl (by omega)) rfl ?_
    refine lst_run (run_move (by conv=>lhs;whnf)) rfl ?_
    refine lst_guard rfl rfl ?_
    refine lst_run (run_fieldAddr (off := 0) rfl rfl) rfl ?_
    refine lst_guard rfl rfl ?_
    refine lst_run (run_load1_own hS rfl rfl (by exact .tail .head) (by repeat constructor)) rfl ?_
    refine lst_guard rfl rfl ?_
    refine lst_run (run_eql_yes rfl rfl (by omega)) rfl ?_
    refine lst_run (run_pick_t rfl (by conv=>lhs;whnf)) rfl ?_
    refine lst_done ?_
    refine goes_true rfl ?_
    refine goes_seq ?_
    refine goes_seq ?_
    refine goes_region ?_
    refine lst_run (run_fieldAddr (off := 1) rfl rfl) rfl ?_
    refine lst_run (run_load1_own hS rfl rfl (by exact .head) (by repeat constructor)) rfl ?_
    refine lst_run (run_fieldAddr (off := 1) rfl rfl) rfl ?_
    refine lst_run (run_load1_own hS rfl rfl (by exact .tail .head) (by repeat constructor)) rfl ?_
    refine lst_run (run_neq_yes rfl rfl (by omega)) rfl ?_
    refine lst_done ?_
    refine goes_false rfl ?_
    refine goes_skip ?_
    refine goes_exit rfl ?_
    refine ih (L, E, wk + 1) _ _ _ _ _ ?_ ?_ (by conv=>lhs;whnf) (by conv=>lhs;whnf) (by conv=>lhs;whnf) (by kernel_rfl)
    ·show 401 - (wk + 1) < 401 - wk; omega
    ·exact ⟨_, _, _, F', by rw [show ((((L ++ [p]).length : Nat) : Int) - 1).toNat = L.length by omega], by congr 1; show (400 : Int) - (wk : Nat) - 1 = 400 - ((wk + 1 : Nat) : Int); omega, rfl, hrun3, by show wk + 1 ≤ 400; omega, by show L.length ≤ 24 * (wk + 1) + 1; omega, hF, hE, hAL, hrowL, hS.drop.drop.drop⟩
   ·have hrun3 : runD (L.reverse.map ptm) ((max u.n v.n, ⟨0, min u.n v.n, ⟨#[]⟩, .nil⟩) :: envB E) (wk + 1) = r := by
     have := runD_join (L.reverse.map ptm) (w := wk) (by omega) ku' kv' (by rw [← hu1, ← hv1]; exact hn)
     rw [← hu1, ← hv1] at this
     rw [← hrun2]; exact this.symm
    have hmx : max u.n v.n = if u.n < v.n then v.n else u.n := by split <;> omega
    have hmn : min u.n v.n = if v.n < u.n then v.n else u.n := by split <;> omega
    refine goes_seq ?_
    refine goes_seq ?_
    refine goes_region ?_
    refine lst_run (run_fieldAddr (off := 0) rfl rfl) rfl ?_
    refine lst_run (run_load1_own hS rfl rfl (by exact .head) (by repeat constructor)) rfl ?_
    refine lst_run (run_eql_yes rfl rfl (by omega)) rfl ?_
    refine lst_run (run_move (by conv=>lhs;whnf)) rfl ?_
    refine lst_guard rfl rfl ?_
    refine lst_run (run_fieldAddr (off := 0) rfl rfl) rfl ?_
    refine lst_guard rfl rfl ?_
    refine lst_run (run_load1_own hS rfl rfl (by exact .tail .head) (by repeat constructor)) rfl ?_
    refine lst_guard rfl rfl ?_
    refine lst_run (run_eql_yes rfl rfl (by omega)) rfl ?_
    refine lst_run (run_pick_t rfl (by conv=>lhs;whnf)) rfl ?_
    refine lst_done ?_
    refine goes_true rfl ?_
    refine goes_seq ?_
    refine goes_seq ?_
    refine goes_region ?_
    refine lst_run (run_fieldAddr (off := 1) rfl rfl) rfl ?_
    refine lst_run (run_load1_own hS rfl rfl (by exact .head) (by repeat constructor)) rfl ?_
    refine lst_run (run_fieldAddr (off := 1) rfl rfl) rfl ?_
    refine lst_run (run_load1_own hS rfl rfl (by exact .tail .head) (by repeat constructor)) rfl ?_
    refine lst_run (run_neq_no rfl rfl (by assumption)) rfl ?_
    refine lst_done ?_
    refine goes_true rfl ?_
    refine goes_region ?_
    refine lst_run (run_fieldAddr (off := 1) rfl rfl) rfl ?_
    refine lst_run (run_load1_own hS rfl rfl (by exact .head) (by repeat constructor)) rfl ?_
    refine lst_run (run_fieldAddr (off := 1) rfl rfl) rfl ?_
    refine lst_run (run_load1_own hS rfl rfl (by exact .tail .head) (by repeat constructor)) rfl ?_
    refine lst_run (run_max2 rfl rfl (by assumption)) rfl ?_
    refine lst_run (run_fieldAddr (off := 1) rfl rfl) rfl ?_
    refine lst_run (run_load1_own hS rfl rfl (by exact .head) (by repeat constructor)) rfl ?_
    refine lst_run (run_fieldAddr (off := 1) rfl rfl) rfl ?_
    refine lst_run (run_load1_own hS rfl rfl (by exact .tail .head) (by repeat constructor)) rfl ?_
    refine lst_run (run_min2 rfl rfl (by assumption)) rfl ?_
    refine lst_run (run_build (cells := [_, _, _, _]) (.cons (by conv=>lhs;whnf) .nil) rfl) rfl ?_
    refine lst_run (run_move (by conv=>lhs;whnf)) rfl ?_
    refine lst_run (run_build (cells := [_, _, _, _, _, _]) (.cons (by conv=>lhs;whnf) (.cons (by conv=>lhs;whnf) (.cons (by conv=>lhs;whnf) .nil))) rfl) rfl ?_
    refine lst_box hS rfl rfl ?_
    clear hS
    intro b23 wx48 hS
    refine lst_run (run_assign (by conv=>lhs;whnf)) rfl ?_
    refine lst_done ?_
    refine goes_exit rfl ?_
    replace hS := hS.freeze
    have nu : 0 ≤ u.n ∧ u.n < 549755813888 := tgd_varN tu ku
    have nv : 0 ≤ v.n ∧ v.n < 549755813888 := tgd_varN tv' kv
    have hbk := join_bok hE.ok ku' kv' (by rw [← hu1, ← hv1]; exact hn)
    rw [← hu1, ← hv1] at hbk
    have hE' := EOk.cons (bk := b23) (t := ⟨0, min u.n v.n, ⟨#[]⟩, none, 0, .nil⟩) (v := max u.n v.n) hE (fun w _ => ⟨Nat.le_refl _, fun h => absurd h (by simp [TA.len])⟩) (show tgd ⟨0, min u.n v.n, ⟨#[]⟩, .nil⟩ from tgd_mkV (by omega) (by omega)) hbk
    refine ih (L, ⟨max u.n v.n, ⟨0, min u.n v.n, ⟨#[]⟩, none, 0, .nil⟩, b23⟩ :: E, wk + 1) _ _ _ _ _ ?_ ?_ (by conv=>lhs;whnf) (by conv=>lhs;whnf) (by conv=>lhs;whnf) (by kernel_rfl)
    ·show 401 - (wk + 1) < 401 - wk; omega
    ·exact ⟨_, _, _, _, by rw [show ((((L ++ [p]).length : Nat) : Int) - 1).toNat = L.length by omega], by congr 1; show (400 : Int) - (wk : Nat) - 1 = 400 - ((wk + 1 : Nat) : Int); omega, rfl, hrun3, by show wk + 1 ≤ 400; omega, by show L.length ≤ 24 * (wk + 1) + 1; omega, fun φ h => .tail _ (hF φ h), hE', hAL.tail, hrowL, hS.drop.drop.drop⟩
  ·have kv' : (lookM (envB E) p.2.tm).k ≠ 0 := by rw [← hv1]; exact kv
   have hrd := runD_vn (L.reverse.map ptm) (w := wk) hE.ok (by omega) ku' kv'
   rw [← hu1, ← hv1] at hrd
   replace hrd := hrun2.symm.trans hrd
   refine goes_seq ?_
   refine goes_seq ?_
   refine goes_region ?_
   refine lst_run (run_fieldAddr (off := 0) rfl rfl) rfl ?_
   refine lst_run (run_load1_own hS rfl rfl (by exact .head) (by repeat constructor)) rfl ?_
   refine lst_run (run_eql_yes rfl rfl (by omega)) rfl ?_
   refine lst_run (run_move (by conv=>lhs;whnf)) rfl ?_
   refine lst_guard rfl rfl ?_
   refine lst_run (run_fieldAddr (off := 0) rfl rfl) rfl ?_
   refine lst_guard rfl rfl ?_
   refine lst_run (run_load1_own hS rfl rfl (by exact .tail .head) (by repeat constructor)) rfl ?_
   refine lst_guard rfl rfl ?_
   refine lst_run (run_eql_no rfl rfl (by assumption)) rfl ?_
   refine lst_run (run_pick_t rfl (by conv=>lhs;whnf)) rfl ?_
   refine lst_done ?_
   refine goes_false rfl ?_
   refine goes_skip ?_
   refine goes_seq ?_
   refine goes_seq ?_
   refine goes_region ?_
   refine lst_run (run_fieldAddr (off := 0) rfl rfl) rfl ?_
   refine lst_run (run_load1_own hS rfl rfl (by exact .tail .head) (by repeat constructor)) rfl ?_
   refine lst_run (run_eql_no rfl rfl (by assumption)) rfl ?_
   refine lst_done ?_
   refine goes_false rfl ?_
   refine goes_skip ?_
   refine goes_seq ?_
   refine goes_seq ?_
   refine goes_region ?_
   refine lst_run (run_fieldAddr (off := 0) rfl rfl) rfl ?_
   refine lst_run (run_load1_own hS rfl rfl (by exact .head) (by repeat constructor)) rfl ?_
   refine lst_run (run_eql_yes rfl rfl (by omega)) rfl ?_
   refine lst_done ?_
   refine goes_true rfl ?_
   refine goes_seq ?_
   refine goes_region ?_
   refine lst_run (run_loadN_own (k := 4) hS rfl rfl rfl (by exact .tail .head) (by repeat constructor)) rfl ?_
   refine lst_buildSlice (cells := [_, _, _, _]) hS (.cons (by conv=>lhs;whnf) .nil) rfl rfl ?_
   clear hS
   intro b23 wx48 hS
   refine lst_run (run_assign (by conv=>lhs;whnf)) rfl ?_
   refine lst_done ?_
   refine goes_seq ?_
   refine goes_block ?_
   have hfP : bget u.n (envB E) = none := by
    have := look_end hE.ok p.1.tm ku'
    rw [← hu1] at this; exact this
   have hkQ : v.tm.k ≠ 0 := kv
   obtain ⟨ro, hro⟩ : ∃ ro, runOD (envB E) u.tm.n [v.tm] (wk + 1) = ro := ⟨_, rfl⟩
   rw [hro] at hrd
   have hrow0 : Rw 24 4 (.slice (some ⟨b23, 0, none⟩) 1 1) 1 (ltsV [v]) [(b23, .cells (ltsV [v] ++ []).toArray 24)] := Rw.own_ rfl rfl (Nat.le_refl _) (by omega)
   rw [show (400 : Int) - (wk : Nat) - 1 = 400 - ((wk + 1 : Nat) : Int) by omega]
   refine goes_loop2 14 9 (87 :: 88 :: 89 :: 90 :: 91 :: 92 :: 93 :: 94 :: 95 :: 15 :: 96 :: 97 :: 98 :: 99 :: 100 :: 101 :: 102 :: 103 :: 104 :: 105 :: 106 :: 6 :: 7 :: 8 :: 107 :: 108 :: 109 :: 110 :: 111 :: 112 :: 113 :: 114 :: 115 :: 116 :: 117 :: 118 :: 119 :: 120 :: 121 :: 122 :: 123 :: 124 :: 125 :: 16 :: 126 :: 127 :: 130 :: 131 :: 132 :: 133 :: 134 :: 135 :: 136 :: 137 :: 128 :: 129 :: []) (fun (x : List LT × Nat) s y w' => ∃ (As : Option Addr) (cs : Nat) (Os : List (Nat × Obj)), s = .slice As x.1.length cs ∧ y = .int .i64 (400 - (x.2 : Nat)) ∧ runOD (envB E) u.tm.n (x.1.reverse.map LT.tm) x.2 = ro ∧ wk < x.2 ∧ x.2 ≤ 400 ∧ x.1.length ≤ 24 * x.2 + 1 ∧ AllT F' x.1 ∧ Rw 24 4 (.slice As x.1.length cs) x.1.length (ltsV x.1) Os ∧ St M w0 (Os ++ ((b5, .cells (tcs u).toArray 24) :: (b6, .cells (tcs v).toArray 24) :: (b4, .cells (tcs p.1 ++ tcs p.2).toArray 153) :: (b2, .cells (tcs b).toArray 24) :: (b1, .cells (tcs a).toArray 24) :: (g, .cells (pcs (L ++ [p]) ++ sp).toArray 153) :: H)) F' w') (fun x => 401 - x.2) (([v], wk + 1)) ?_ (by conv=>lhs;whnf) (by conv=>lhs;whnf) ?_
   ·exact ⟨_, _, _, rfl, rfl, hro, by show wk < wk + 1; omega, by show wk + 1 ≤ 400; omega, by show 1 ≤ 24 * (wk + 1) + 1; omega, fun x hx => by rw [List.mem_singleton.1 hx]; exact ⟨hv2, tv'⟩, hrow0, hS⟩
   clear hS hrow0 hro
   rintro x s y w8 jv3 ⟨As, cs, Os, hs, hy, hoc, hk1, hk2, hSl, hAT, hrows, hS⟩ ih2
   obtain ⟨S, wq⟩ := x
   dsimp only at hs hy hoc hk1 hk2 hSl hAT hrows hS
   subst hs hy
   rcases nil_or_snoc S with rfl | ⟨S, z, rfl⟩
   ·have hro2 : ro = (false, wq) := by rw [← hoc]; rfl
    rw [hro2, if_neg (by rintro (h | h); cases h; exact absurd h (by show ¬ 400 < wq; omega))] at hrd
    replace hS := St.dropN hS
    refine goes_seq ?_
    refine goes_seq ?_
    refine goes_region ?_
    refine lst_run (run_move (by conv=>lhs;whnf)) rfl ?_
    refine lst_run (run_len_slice rfl rfl rfl) rfl ?_
    refine lst_run (rfl) rfl ?_
    refine lst_done ?_
    refine goes_false rfl ?_
    refine goes_exit rfl ?_
    refine goes_seq ?_
    refine goes_region ?_
    refine lst_run (run_fieldAddr (off := 1) rfl rfl) rfl ?_
    refine lst_run (run_load1_own hS rfl rfl (by exact .head) (by repeat constructor)) rfl ?_
    refine lst_run (run_loadN_own (k := 4) hS rfl rfl rfl (by exact .tail .head) (by repeat constructor)) rfl ?_
    refine lst_run (run_move (by conv=>lhs;whnf)) rfl ?_
    refine lst_run (run_build (cells := [_, _, _, _, _, _]) (.cons (by conv=>lhs;whnf) (.cons (by conv=>lhs;whnf) (.cons (by conv=>lhs;whnf) .nil))) rfl) rfl ?_
    refine lst_box hS rfl rfl ?_
    clear hS
    intro b24 wx49 hS
    refine lst_run (run_assign (by conv=>lhs;whnf)) rfl ?_
    refine lst_done ?_
    refine goes_exit rfl ?_
    replace hS := hS.freeze
    have hbk : Bok ((u.n, v.tm) :: envB E) := ⟨hfP, fun e => absurd e hkQ, hE.ok⟩
    have hE' := EOk.cons (bk := b24) (t := v) (v := u.n) hE hv2 tv' hbk
    refine ih (L, ⟨u.n, v, b24⟩ :: E, wq) _ _ _ _ _ ?_ ?_ (by conv=>lhs;whnf) (by conv=>lhs;whnf) (by conv=>lhs;whnf) (by kernel_rfl)
    ·show 401 - wq < 401 - wk; omega
    ·exact ⟨_, _, _, _, by rw [show ((((L ++ [p]).length : Nat) : Int) - 1).toNat = L.length by omega], rfl, rfl, hrd.symm, by show wq ≤ 400; omega, by show L.length ≤ 24 * wq + 1; omega, fun φ h => .tail _ (hF φ h), hE', hAL.tail, hrowL, hS.drop.drop.drop⟩
   have hlz : (S ++ [z]).length = S.length + 1 := by simp
   obtain ⟨hz1, hz2⟩ := hAT z (by simp)
   have hATS : AllT F' S := fun q hq => hAT q (by simp [hq])
   obtain ⟨sg, ssp, rfl, rfl, hscap, hsle, _⟩ := hrows.some_ (by omega)
   have hcutz : Cut (ltsV (S ++ [z]) ++ ssp) (0 + ((((S ++ [z]).length : Nat) : Int) - 1).toNat * 4) 4 (tcs z) := by
    have := cutM (ltsV S) (tcs z) ssp (0 + ((((S ++ [z]).length : Nat) : Int) - 1).toNat * 4) 4 (by rw [ltsV_len]; omega) rfl
    rw [ltsV_app]
    simpa [ltsV] using this
   have hrowS : Rw 24 4 (.slice (some ⟨sg, 0, none⟩) S.length cs) S.length (ltsV S) [(sg, .cells (ltsV (S ++ [z]) ++ ssp).toArray 24)] := by
    rw [hlz, ltsV_app] at hrows
    rw [ltsV_app]
    exact hrows.cutS (ltsV_len S) (by omega)
   have hoc2 : runOD (envB E) u.tm.n (z.tm :: S.reverse.map LT.tm) wq = ro := by rw [← hoc, List.reverse_append]; rfl
   by_cases hwq : wq = 400
   ·have hlg := runOD_long (envB E) u.tm.n z.tm (S.reverse.map LT.tm) (w := wq) (by omega)
    rw [hoc2] at hlg
    rw [if_pos (.inr hlg.2)] at hrd
    refine goes_seq ?_
    refine goes_seq ?_
    refine goes_region ?_
    refine lst_run (run_move (by conv=>lhs;whnf)) rfl ?_
    refine lst_run (run_len_slice rfl rfl rfl) rfl ?_
    refine lst_run (run_gtr_yes rfl rfl (by omega)) rfl ?_
    refine lst_done ?_
    refine goes_true rfl ?_
    refine goes_skip ?_
    refine goes_block ?_
    refine goes_seq ?_
    refine goes_region ?_
    refine lst_run (run_move (by conv=>lhs;whnf)) rfl ?_
    refine lst_run (run_move (by conv=>lhs;whnf)) rfl ?_
    refine lst_run (run_len_slice rfl rfl rfl) rfl ?_
    refine lst_run (run_sub rfl rfl (by omega) (by omega)) rfl ?_
    refine lst_run (run_indexAddr (sz := 4) rfl rfl rfl rfl (by omega) (by omega)) rfl ?_
    refine lst_run (run_loadN_own (k := 4) hS rfl rfl rfl (by exact .head) (by assumption)) rfl ?_
    refine lst_alloc (cs := [_, _, _, _]) hS rfl rfl rfl ?_
    clear hS
    intro b24 wx49 hS
    refine lst_storeN hS rfl (by conv=>lhs;whnf) rfl rfl (by exact .head) (by repeat constructor) (by exact .head) ?_
    clear hS
    intro wx50 hS
    refine lst_done ?_
    refine goes_seq ?_
    refine goes_region ?_
    refine lst_run (run_move (by conv=>lhs;whnf)) rfl ?_
    refine lst_run (run_move (by conv=>lhs;whnf)) rfl ?_
    refine lst_run (run_len_slice rfl rfl rfl) rfl ?_
    refine lst_run (run_sub rfl rfl (by omega) (by omega)) rfl ?_
    refine lst_run (run_slice_slice (sz := 4) rfl rfl rfl rfl (by omega) (by omega)) rfl ?_
    refine lst_run (run_assign (by conv=>lhs;whnf)) rfl ?_
    refine lst_done ?_
    refine goes_seq ?_
    refine goes_seq ?_
    refine goes_region ?_
    refine lst_run (run_move (by conv=>lhs;whnf)) rfl ?_
    refine lst_run (run_sub rfl rfl (by omega) (by omega)) rfl ?_
    refine lst_run (run_assign (by conv=>lhs;whnf)) rfl ?_
    refine lst_done ?_
    refine goes_seq ?_
    refine goes_region ?_
    refine lst_run (run_move (by conv=>lhs;whnf)) rfl ?_
    refine lst_run (run_lss_yes rfl rfl (by omega)) rfl ?_
    refine lst_done ?_
    refine goes_true rfl ?_
    refine goes_seq ?_
    refine goes_region ?_
    refine lst_run (run_move (by conv=>lhs;whnf)) rfl ?_
    refine lst_run (run_move (by conv=>lhs;whnf)) rfl ?_
    refine lst_run (run_assign (by conv=>lhs;whnf)) rfl ?_
    refine lst_run (run_assign (by conv=>lhs;whnf)) rfl ?_
    refine lst_run (run_assign (by conv=>lhs;whnf)) rfl ?_
    refine lst_done ?_
    refine goes_ret3 Tryd.func81 rfl (by conv=>lhs;whnf) (by conv=>lhs;whnf) (by conv=>lhs;whnf) ?_
    refine ⟨E, F', 400 - (wq : Nat) - 1, hF, hS.drop.drop.drop.drop.drop.drop.drop.drop, fun _ => ⟨by omega, rfl⟩, fun h => ?_, fun h => ?_⟩
    ·rw [hrd] at h; exact absurd h (by show ¬ ro.2 ≤ 400; omega)
    ·rw [hrd] at h; exact absurd h (by show ¬ ro.2 ≤ 400; omega)
   refine goes_seq ?_
   refine goes_seq ?_
   refine goes_region ?_
   refine lst_run (run_move (by conv=>lhs;whnf)) rfl ?_
   refine lst_run (run_len_slice rfl rfl rfl) rfl ?_
   refine lst_run (run_gtr_yes rfl rfl (by omega)) rfl ?_
   refine lst_done ?_
   refine goes_true rfl ?_
   refine goes_skip ?_
   refine goes_block ?_
   refine goes_seq ?_
   refine goes_region ?_
   refine lst_run (run_move (by conv=>lhs;whnf)) rfl ?_
   refine lst_run (run_move (by conv=>lhs;whnf)) rfl ?_
   refine lst_run (run_len_slice rfl rfl rfl) rfl ?_
   refine lst_run (run_sub rfl rfl (by omega) (by omega)) rfl ?_
   refine lst_run (run_indexAddr (sz := 4) rfl rfl rfl rfl (by omega) (by omega)) rfl ?_
   refine lst_run (run_loadN_own (k := 4) hS rfl rfl rfl (by exact .head) (by assumption)) rfl ?_
   refine lst_alloc (cs := [_, _, _, _]) hS rfl rfl rfl ?_
   clear hS
   intro b24 wx49 hS
   refine lst_storeN hS rfl (by conv=>lhs;whnf) rfl rfl (by exact .head) (by repeat constructor) (by exact .head) ?_
   clear hS
   intro wx50 hS
   refine lst_done ?_
   refine goes_seq ?_
   refine goes_region ?_
   refine lst_run (run_move (by conv=>lhs;whnf)) rfl ?_
   refine lst_run (run_move (by conv=>lhs;whnf)) rfl ?_
   refine lst_run (run_len_slice rfl rfl rfl) rfl ?_
   refine lst_run (run_sub rfl rfl (by omega) (by omega)) rfl ?_
   refine lst_run (run_slice_slice (sz := 4) rfl rfl rfl rfl (by omega) (by omega)) rfl ?_
   refine lst_run (run_assign (by conv=>lhs;whnf)) rfl ?_
   refine lst_done ?_
   refine goes_seq ?_
   refine goes_seq ?_
   refine goes_region ?_
   refine lst_run (run_move (by conv=>lhs;whnf)) rfl ?_
   refine lst_run (run_sub rfl rfl (by omega) (by omega)) rfl ?_
   refine lst_run (run_assign (by conv=>lhs;whnf)) rfl ?_
   refine lst_done ?_
   refine goes_seq ?_
   refine goes_region ?_
   refine lst_run (run_move (by conv=>lhs;whnf)) rfl ?_
   refine lst_run (run_lss_no rfl rfl (by omega)) rfl ?_
   refine lst_done ?_
   refine goes_false rfl ?_
   refine goes_skip ?_
   refine goes_seq ?_
   refine goes_seq ?_
   refine goes_region ?_
   refine lst_run (run_move (by conv=>lhs;whnf)) rfl ?_
   refine lst_run (run_loadN_own (k := 4) hS rfl rfl rfl (by exact .head) (by repeat constructor)) rfl ?_
   refine lst_enter (run_call (by kernel_rfl) (args_2 (by conv=>lhs;whnf) (by conv=>lhs;whnf))) rfl ?_
   refine Calls.mono (elook_any E z _ hE.rd hz1 hE.ok hS) ?_
   rintro _ w9 ⟨zz, rfl, hzz1, hzz2, hzz3, hS'⟩
   refine ⟨_, rfl, ?_⟩
   replace hS := hS'
   clear hS'
   have tzz : tgd zz.tm := by rw [hzz1]; exact look_Q hE.gd hz2
   have hzl : zz.ar.len ≤ 24 := by
    have h1 := tzz.2
    have h2 := Ts.length_le zz.ar.ts
    rw [TA.len_ts] at h2
    have h3 : zz.ar.ts.nodes + 1 ≤ 24 := h1
    omega
   by_cases kz : zz.k = 0
   ·have kz' : (lookM (envB E) z.tm).k = 0 := by rw [← hzz1]; exact kz
    by_cases nz : zz.n = u.n
    ·have hh := runOD_hit (v := u.tm.n) (S.reverse.map LT.tm) (w := wq) (by omega) kz' (by rw [← hzz1]; exact nz)
     rw [hoc2] at hh
     rw [hh, if_pos (.inl rfl)] at hrd
     refine lst_storeN hS rfl (by conv=>lhs;whnf) rfl rfl (by exact .head) (by repeat constructor) (by exact .head) ?_
     clear hS
     intro wx51 hS
     refine lst_done ?_
     refine goes_seq ?_
     refine goes_region ?_
     refine lst_run (run_fieldAddr (off := 0) rfl rfl) rfl ?_
     refine lst_run (run_load1_own hS rfl rfl (by exact .head) (by repeat constructor)) rfl ?_
     refine lst_run (run_eql_yes rfl rfl (by omega)) rfl ?_
     refine lst_run (run_move (by conv=>lhs;whnf)) rfl ?_
     refine lst_guard rfl rfl ?_
     refine lst_run (run_fieldAddr (off := 1) rfl rfl) rfl ?_
     refine lst_guard rfl rfl ?_
     refine lst_run (run_load1_own hS rfl rfl (by exact .head) (by repeat constructor)) rfl ?_
     refine lst_guard rfl rfl ?_
     refine lst_run (run_fieldAddr (off := 1) rfl rfl) rfl ?_
     refine lst_guard rfl rfl ?_
     refine lst_run (run_load1_own hS rfl rfl (by exact .tail (.tail .head)) (by repeat constructor)) rfl ?_
     refine lst_guard rfl rfl ?_
     refine lst_run (run_eql_yes rfl rfl (by omega)) rfl ?_
     refine lst_run (run_pick_t rfl (by conv=>lhs;whnf)) rfl ?_
     refine lst_done ?_
     refine goes_true rfl ?_
     refine goes_seq ?_
     refine goes_region ?_
     refine lst_run (run_move (by conv=>lhs;whnf)) rfl ?_
     refine lst_run (run_move (by conv=>lhs;whnf)) rfl ?_
     refine lst_run (run_assign (by conv=>lhs;whnf)) rfl ?_
     refine lst_run (run_assign (by conv=>lhs;whnf)) rfl ?_
     refine lst_run (run_assign (by conv=>lhs;whnf)) rfl ?_
     refine lst_done ?_
     refine goes_ret3 Tryd.func81 rfl (by conv=>lhs;whnf) (by conv=>lhs;whnf) (by conv=>lhs;whnf) ?_
     refine ⟨E, F', 400 - (wq : Nat) - 1, hF, hS.drop.drop.drop.drop.drop.drop.drop.drop, fun h => ?_, fun h => ?_, fun h h' => ?_⟩
     ·rw [hrd] at h; exact absurd h (by show ¬ 400 < wq + 1; omega)
     ·rw [hrd]; exact ⟨by show (400 : Int) - (wq : Nat) - 1 = 400 - ((wq + 1 : Nat) : Int); omega, rfl⟩
     ·rw [hrd] at h'; cases h'
    ·have hoc3 : runOD (envB E) u.tm.n (zz.ar.lts.map LT.tm ++ S.reverse.map LT.tm) (wq + 1) = ro := by
      have hh := runOD_miss (v := u.tm.n) (S.reverse.map LT.tm) (w := wq) (by omega) kz' (by rw [← hzz1]; exact nz)
      rw [hoc2] at hh
      have hnil : zz.ar.lts = [] := List.eq_nil_of_length_eq_zero (by
       have := (tgd_var tzz kz).2
       have h2 : zz.ar.ts.length = 0 := by show zz.tm.ar.length = 0; rw [this]; rfl
       rw [TA.lts_len, ← TA.len_ts]; exact h2)
      rw [hnil]; exact hh.symm
     refine lst_storeN hS rfl (by conv=>lhs;whnf) rfl rfl (by exact .head) (by repeat constructor) (by exact .head) ?_
     clear hS
     intro wx51 hS
     refine lst_done ?_
     refine goes_seq ?_
     refine goes_region ?_
     refine lst_run (run_fieldAddr (off := 0) rfl rfl) rfl ?_
     refine lst_run (run_load1_own hS rfl rfl (by exact .head) (by repeat constructor)) rfl ?_
     refine lst_run (run_eql_yes rfl rfl (by omega)) rfl ?_
     refine lst_run (run_move (by conv=>lhs;whnf)) rfl ?_
     refine lst_guard rfl rfl ?_
     refine lst_run (run_fieldAddr (off := 1) rfl rfl) rfl ?_
     refine lst_guard rfl rfl ?_
     refine lst_run (run_load1_own hS rfl rfl (by exact .head) (by repeat constructor)) rfl ?_
     refine lst_guard rfl rfl ?_
     refine lst_run (run_fieldAddr (off := 1) rfl rfl) rfl ?_
     refine lst_guard rfl rfl ?_
     refine lst_run (run_load1_own hS rfl rfl (by exact .tail (.tail .head)) (by repeat constructor)) rfl ?_
     refine lst_guard rfl rfl ?_
     refine lst_run (run_eql_no rfl rfl (by assumption)) rfl ?_
     refine lst_run (run_pick_t rfl (by conv=>lhs;whnf)) rfl ?_
     refine lst_done ?_
     refine goes_false rfl ?_
     refine goes_skip ?_
     refine goes_seq ?_
     refine goes_region ?_
     refine lst_run (run_fieldAddr (off := 3) rfl rfl) rfl ?_
     refine lst_run (run_load1_own hS rfl rfl (by exact .head) (by repeat constructor)) rfl ?_
     refine lst_run (run_len_slice rfl rfl rfl) rfl ?_
     refine lst_run (run_sub rfl rfl (by omega) (by omega)) rfl ?_
     refine lst_run (run_assign (by conv=>lhs;whnf)) rfl ?_
     refine lst_done ?_
     refine goes_block ?_
     have hd0 : zz.ar.lts.drop zz.ar.len = [] := by rw [← TA.lts_len]; simp
     have htg := tms_tgd (T := zz.ar) (tgd_down _ tzz)
     rw [show ((((S ++ [z]).length : Nat) : Int) - 1).toNat = (S ++ (zz.ar.lts.drop zz.ar.len).reverse).length by rw [hd0]; simp]
     obtain ⟨zk, zn, zs, zA, zc, zar⟩ := zz
     dsimp only at hzl hd0 htg hoc3
     refine goes_loop2 16 14 (126 :: 127 :: 130 :: 131 :: 132 :: 133 :: 134 :: 135 :: 136 :: 137 :: 128 :: 129 :: []) (fun (j : Nat) i s w' => ∃ (As : Option Addr) (cs : Nat) (Os : List (Nat × Obj)), j ≤ zar.len ∧ i = .int .i64 ((j : Nat) - 1) ∧ s = .slice As (S ++ (zar.lts.drop j).reverse).length cs ∧ Rw 24 4 (.slice As (S ++ (zar.lts.drop j).reverse).length cs) (S ++ (zar.lts.drop j).reverse).length (ltsV (S ++ (zar.lts.drop j).reverse)) Os ∧ St M w0 ((b24, .cells [.int .i64 zk, .int .i64 zn, .string zs, .slice zA zar.len zc].toArray 24) :: (Os ++ ((b5, .cells (tcs u).toArray 24) :: (b6, .cells (tcs v).toArray 24) :: (b4, .cells (tcs p.1 ++ tcs p.2).toArray 153) :: (b2, .cells (tcs b).toArray 24) :: (b1, .cells (tcs a).toArray 24) :: (g, .cells (pcs (L ++ [p]) ++ sp).toArray 153) :: H))) F' w') (fun j => j) (zar.len) ?_ (by conv=>lhs;whnf) (by conv=>lhs;whnf) ?_
     ·exact ⟨_, _, _, Nat.le_refl _, rfl, rfl, by rw [hd0]; simpa using hrowS, hS⟩
     clear hS
     rintro j i s w10 jv4 ⟨As, cs, Os, hj, hi, hs, hrw, hS⟩ ih3
     subst hi hs
     cases j with
     | zero =>
      have e0 : S ++ (zar.lts.drop 0).reverse = S ++ zar.lts.reverse := rfl
      rw [e0] at hrw
      refine goes_seq ?_
      refine goes_seq ?_
      refine goes_region ?_
      refine lst_run (run_move (by conv=>lhs;whnf)) rfl ?_
      refine lst_run (run_geq_no rfl rfl (by omega)) rfl ?_
      refine lst_done ?_
      refine goes_false rfl ?_
      refine goes_exit rfl ?_
      refine goes_inBlock ?_
      refine ih2 (S ++ zar.lts.reverse, wq + 1) _ _ _ _ ?_ ?_ (by conv=>lhs;whnf) (by conv=>lhs;whnf) (by kernel_rfl)
      ·show 401 - (wq + 1) < 401 - wq; omega
      ·refine ⟨As, cs, Os, rfl, by congr 1; show (400 : Int) - (wq : Nat) - 1 = 400 - ((wq + 1 : Nat) : Int); omega, ?_, by show wk < wq + 1; omega, by show wq + 1 ≤ 400; omega, ?_, ?_, hrw, hS.drop⟩
       ·show runOD _ _ ((S ++ zar.lts.reverse).reverse.map LT.tm) _ = ro
        rw [List.reverse_append, List.reverse_reverse, List.map_append]; exact hoc3
       ·show (S ++ zar.lts.reverse).length ≤ 24 * (wq + 1) + 1
        rw [List.length_append, List.length_reverse, TA.lts_len]; omega
       ·intro x hx
        rcases List.mem_append.1 hx with hx | hx
        ·exact hATS x hx
        ·have hx := List.mem_reverse.1 hx
         exact ⟨fun w hw => (hzz2 w hw).lts x hx, htg x hx⟩
     | succ j =>
      obtain ⟨D, R, x, hDx, hDl⟩ := TA.at_split zar j (by omega)
      have hzA : Und F' (ArA zA zc (D.app (.cons x.k x.n x.s x.A x.c x.ar R))) := by rw [← hDx]; exact hzz2
      obtain ⟨bk, ok, rfl⟩ := (hS.und hzA).some_ (by rw [TA.len_app]; simp only [TA.len]; omega)
      have hcc : ∀ {H'} w', St M w0 H' F' w' → _ := fun w' hS => (hS.und hzA).cells
      have eix : (((j + 1 : Nat) : Int) - 1).toNat = D.len := by omega
      rw [← eix] at hcc
      have hdj : zar.lts.drop j = x :: zar.lts.drop (j + 1) := by
       rw [hDx, TA.lts_app, ← hDl, ← TA.lts_len D]
       simp [TA.lts]
      have hgj : (S ++ (zar.lts.drop j).reverse) = (S ++ (zar.lts.drop (j + 1)).reverse) ++ [x] := by rw [hdj]; simp
      have hzlen : (zar.lts.drop (j + 1)).length ≤ 24 := by rw [List.length_drop, TA.lts_len]; omega
      refine goes_seq ?_
      refine goes_seq ?_
      refine goes_region ?_
      refine lst_run (run_move (by conv=>lhs;whnf)) rfl ?_
      refine lst_run (run_geq_yes rfl rfl (by omega)) rfl ?_
      refine lst_done ?_
      refine goes_true rfl ?_
      refine goes_skip ?_
      refine goes_seq ?_
      refine goes_block ?_
      refine goes_region ?_
      refine lst_run (run_move (by conv=>lhs;whnf)) rfl ?_
      refine lst_run (run_fieldAddr (off := 3) rfl rfl) rfl ?_
      refine lst_run (run_load1_own hS rfl rfl (by exact .head) (by repeat constructor)) rfl ?_
      refine lst_run (run_move (by conv=>lhs;whnf)) rfl ?_
      refine lst_run (run_indexAddr (sz := 4) rfl rfl rfl rfl (by omega) (by omega)) rfl ?_
      refine lst_run (run_load4 rfl rfl rfl (by exact (hcc _ hS).1) (by exact (hcc _ hS).2.1) (by exact (hcc _ hS).2.2.1) (by exact (hcc _ hS).2.2.2)) rfl ?_
      refine lst_buildSlice (cells := [_, _, _, _]) hS (.cons (by conv=>lhs;whnf) .nil) rfl rfl ?_
      clear hS
      intro b25 wx52 hS
      refine lst_appL (u := x) hS (by conv=>lhs;whnf) (by rfl) rfl rfl rfl (Flat.own (sp := []) (hS.own (_, _) (.head _)) rfl (Nat.le_refl _)) hrw (List.perm_append_comm_assoc [_, _] Os _) (by rw [List.length_append, List.length_reverse]; omega) rfl ?_
      clear hS
      intro v9 O9 w11 hrow9 hS
      obtain ⟨A9, c9, rfl, _⟩ := hrow9.form
      replace hS := (hS.perm (List.perm_append_comm_assoc O9 [_, _] _)).drop
      refine lst_run (run_assign (by conv=>lhs;whnf)) rfl ?_
      refine lst_done ?_
      refine goes_inBlock ?_
      refine goes_region ?_
      refine lst_run (run_move (by conv=>lhs;whnf)) rfl ?_
      refine lst_run (run_sub rfl rfl (by omega) (by omega)) rfl ?_
      refine lst_run (run_assign (by conv=>lhs;whnf)) rfl ?_
      refine lst_done ?_
      refine ih3 j _ _ _ _ ?_ ?_ (by conv=>lhs;whnf) (by conv=>lhs;whnf) (by kernel_rfl)
      ·omega
      ·refine ⟨A9, c9, O9, by omega, by congr 1; show (((j + 1 : Nat) : Int) - 1) - 1 = (j : Nat) - 1; omega, ?_, ?_, hS⟩
       ·rw [hgj, List.length_append (bs := [x])]; rfl
       ·rw [hgj, List.length_append (bs := [x]), ltsV_app]
        have : ltsV [x] = tcs x := by simp [ltsV]
        rw [this]; exact hrow9
   ·have hoc3 : runOD (envB E) u.tm.n (zz.ar.lts.map LT.tm ++ S.reverse.map LT.tm) (wq + 1) = ro := by
     have hh := runOD_node (v := u.tm.n) (S.reverse.map LT.tm) (w := wq) (by omega) (show (lookM (envB E) z.tm).k ≠ 0 by rw [← hzz1]; exact kz)
     rw [hoc2, ← hzz1] at hh
     rw [TA.lts_tm]; exact hh.symm
    refine lst_storeN hS rfl (by conv=>lhs;whnf) rfl rfl (by exact .head) (by repeat constructor) (by exact .head) ?_
    clear hS
    intro wx51 hS
    refine lst_done ?_
    refine goes_seq ?_
    refine goes_region ?_
    refine lst_run (run_fieldAddr (off := 0) rfl rfl) rfl ?_
    refine lst_run (run_load1_own hS rfl rfl (by exact .head) (by repeat constructor)) rfl ?_
    refine lst_run (run_eql_no rfl rfl (by assumption)) rfl ?_
    refine lst_run (run_move (by conv=>lhs;whnf)) rfl ?_
    refine lst_pass rfl rfl rfl ?_
    refine lst_pass rfl rfl rfl ?_
    refine lst_pass rfl rfl rfl ?_
    refine lst_pass rfl rfl rfl ?_
    refine lst_pass rfl rfl rfl ?_
    refine lst_run (run_pick_f rfl (by conv=>lhs;whnf)) rfl ?_
    refine lst_done ?_
    refine goes_false rfl ?_
    refine goes_skip ?_
    refine goes_seq ?_
    refine goes_region ?_
    refine lst_run (run_fieldAddr (off := 3) rfl rfl) rfl ?_
    refine lst_run (run_load1_own hS rfl rfl (by exact .head) (by repeat constructor)) rfl ?_
    refine lst_run (run_len_slice rfl rfl rfl) rfl ?_
    refine lst_run (run_sub rfl rfl (by omega) (by omega)) rfl ?_
    refine lst_run (run_assign (by conv=>lhs;whnf)) rfl ?_
    refine lst_done ?_
    refine goes_block ?_
    have hd0 : zz.ar.lts.drop zz.ar.len = [] := by rw [← TA.lts_len]; simp
    have htg := tms_tgd (T := zz.ar) (tgd_down _ tzz)
    rw [show ((((S ++ [z]).length : Nat) : Int) - 1).toNat = (S ++ (zz.ar.lts.drop zz.ar.len).reverse).length by rw [hd0]; simp]
    obtain ⟨zk, zn, zs, zA, zc, zar⟩ := zz
    dsimp only at hzl hd0 htg hoc3
    refine goes_loop2 16 14 (126 :: 127 :: 130 :: 131 :: 132 :: 133 :: 134 :: 135 :: 136 :: 137 :: 128 :: 129 :: []) (fun (j : Nat) i s w' => ∃ (As : Option Addr) (cs : Nat) (Os : List (Nat × Obj)), j ≤ zar.len ∧ i = .int .i64 ((j : Nat) - 1) ∧ s = .slice As (S ++ (zar.lts.drop j).reverse).length cs ∧ Rw 24 4 (.slice As (S ++ (zar.lts.drop j).reverse).length cs) (S ++ (zar.lts.drop j).reverse).length (ltsV (S ++ (zar.lts.drop j).reverse)) Os ∧ St M w0 ((b24, .cells [.int .i64 zk, .int .i64 zn, .string zs, .slice zA zar.len zc].toArray 24) :: (Os ++ ((b5, .cells (tcs u).toArray 24) :: (b6, .cells (tcs v).toArray 24) :: (b4, .cells (tcs p.1 ++ tcs p.2).toArray 153) :: (b2, .cells (tcs b).toArray 24) :: (b1, .cells (tcs a).toArray 24) :: (g, .cells (pcs (L ++ [p]) ++ sp).toArray 153) :: H))) F' w') (fun j => j) (zar.len) ?_ (by conv=>lhs;whnf) (by conv=>lhs;whnf) ?_
    ·exact ⟨_, _, _, Nat.le_refl _, rfl, rfl, by rw [hd0]; simpa using hrowS, hS⟩
    clear hS
    rintro j i s w10 jv4 ⟨As, cs, Os, hj, hi, hs, hrw, hS⟩ ih3
    subst hi hs
    cases j with
    | zero =>
     have e0 : S ++ (zar.lts.drop 0).reverse = S ++ zar.lts.reverse := rfl
     rw [e0] at hrw
     refine goes_seq ?_
     refine goes_seq ?_
     refine goes_region ?_
     refine lst_run (run_move (by conv=>lhs;whnf)) rfl ?_
     refine lst_run (run_geq_no rfl rfl (by omega)) rfl ?_
     refine lst_done ?_
     refine goes_false rfl ?_
     refine goes_exit rfl ?_
     refine goes_inBlock ?_
     refine ih2 (S ++ zar.lts.reverse, wq + 1) _ _ _ _ ?_ ?_ (by conv=>lhs;whnf) (by conv=>lhs;whnf) (by kernel_rfl)
     ·show 401 - (wq + 1) < 401 - wq; omega
     ·refine ⟨As, cs, Os, rfl, by congr 1; show (400 : Int) - (wq : Nat) - 1 = 400 - ((wq + 1 : Nat) : Int); omega, ?_, by show wk < wq + 1; omega, by show wq + 1 ≤ 400; omega, ?_, ?_, hrw, hS.drop⟩
      ·show runOD _ _ ((S ++ zar.lts.reverse).reverse.map LT.tm) _ = ro
       rw [List.reverse_append, List.reverse_reverse, List.map_append]; exact hoc3
      ·show (S ++ zar.lts.reverse).length ≤ 24 * (wq + 1) + 1
       rw [List.length_append, List.length_reverse, TA.lts_len]; omega
      ·intro x hx
       rcases List.mem_append.1 hx with hx | hx
       ·exact hATS x hx
       ·have hx := List.mem_reverse.1 hx
        exact ⟨fun w hw => (hzz2 w hw).lts x hx, htg x hx⟩
    | succ j =>
     obtain ⟨D, R, x, hDx, hDl⟩ := TA.at_split zar j (by omega)
     have hzA : Und F' (ArA zA zc (D.app (.cons x.k x.n x.s x.A x.c x.ar R))) := by rw [← hDx]; exact hzz2
     obtain ⟨bk, ok, rfl⟩ := (hS.und hzA).some_ (by rw [TA.len_app]; simp only [TA.len]; omega)
     have hcc : ∀ {H'} w', St M w0 H' F' w' → _ := fun w' hS => (hS.und hzA).cells
     have eix : (((j + 1 : Nat) : Int) - 1).toNat = D.len := by omega
     rw [← eix] at hcc
     have hdj : zar.lts.drop j = x :: zar.lts.drop (j + 1) := by
      rw [hDx, TA.lts_app, ← hDl, ← TA.lts_len D]
      simp [TA.lts]
     have hgj : (S ++ (zar.lts.drop j).reverse) = (S ++ (zar.lts.drop (j + 1)).reverse) ++ [x] := by rw [hdj]; simp
     have hzlen : (zar.lts.drop (j + 1)).length ≤ 24 := by rw [List.length_drop, TA.lts_len]; omega
     refine goes_seq ?_
     refine goes_seq ?_
     refine goes_region ?_
     refine lst_run (run_move (by conv=>lhs;whnf)) rfl ?_
     refine lst_run (run_geq_yes rfl rfl (by omega)) rfl ?_
     refine lst_done ?_
     refine goes_true rfl ?_
     refine goes_skip ?_
     refine goes_seq ?_
     refine goes_block ?_
     refine goes_region ?_
     refine lst_run (run_move (by conv=>lhs;whnf)) rfl ?_
     refine lst_run (run_fieldAddr (off := 3) rfl rfl) rfl ?_
     refine lst_run (run_load1_own hS rfl rfl (by exact .head) (by repeat constructor)) rfl ?_
     refine lst_run (run_move (by conv=>lhs;whnf)) rfl ?_
     refine lst_run (run_indexAddr (sz := 4) rfl rfl rfl rfl (by omega) (by omega)) rfl ?_
     refine lst_run (run_load4 rfl rfl rfl (by exact (hcc _ hS).1) (by exact (hcc _ hS).2.1) (by exact (hcc _ hS).2.2.1) (by exact (hcc _ hS).2.2.2)) rfl ?_
     refine lst_buildSlice (cells := [_, _, _, _]) hS (.cons (by conv=>lhs;whnf) .nil) rfl rfl ?_
     clear hS
     intro b25 wx52 hS
     refine lst_appL (u := x) hS (by conv=>lhs;whnf) (by rfl) rfl rfl rfl (Flat.own (sp := []) (hS.own (_, _) (.head _)) rfl (Nat.le_refl _)) hrw (List.perm_append_comm_assoc [_, _] Os _) (by rw [List.length_append, List.length_reverse]; omega) rfl ?_
     clear hS
     intro v9 O9 w11 hrow9 hS
     obtain ⟨A9, c9, rfl, _⟩ := hrow9.form
     replace hS := (hS.perm (List.perm_append_comm_assoc O9 [_, _] _)).drop
     refine lst_run (run_assign (by conv=>lhs;whnf)) rfl ?_
     refine lst_done ?_
     refine goes_inBlock ?_
     refine goes_region ?_
     refine lst_run (run_move (by conv=>lhs;whnf)) rfl ?_
     refine lst_run (run_sub rfl rfl (by omega) (by omega)) rfl ?_
     refine lst_run (run_assign (by conv=>lhs;whnf)) rfl ?_
     refine lst_done ?_
     refine ih3 j _ _ _ _ ?_ ?_ (by conv=>lhs;whnf) (by conv=>lhs;whnf) (by kernel_rfl)
     ·omega
     ·refine ⟨A9, c9, O9, by omega, by congr 1; show (((j + 1 : Nat) : Int) - 1) - 1 = (j : Nat) - 1; omega, ?_, ?_, hS⟩
      ·rw [hgj, List.length_append (bs := [x])]; rfl
      ·rw [hgj, List.length_append (bs := [x]), ltsV_app]
       have : ltsV [x] = tcs x := by simp [ltsV]
       rw [this]; exact hrow9
 ·have ku' : (lookM (envB E) p.1.tm).k ≠ 0 := by rw [← hu1]; exact ku
  by_cases kv : v.k = 0
  ·have kv' : (lookM (envB E) p.2.tm).k = 0 := by rw [← hv1]; exact kv
   have hrd := runD_nv (L.reverse.map ptm) (w := wk) hE.ok (by omega) ku' kv'
   rw [← hu1, ← hv1] at hrd
   replace hrd := hrun2.symm.trans hrd
   refine goes_seq ?_
   refine goes_seq ?_
   refine goes_region ?_
   refine lst_run (run_fieldAddr (off := 0) rfl rfl) rfl ?_
   refine lst_run (run_load1_own hS rfl rfl (by exact .head) (by repeat constructor)) rfl ?_
   refine lst_run (run_eql_no rfl rfl (by assumption)) rfl ?_
   refine lst_run (run_move (by conv=>lhs;whnf)) rfl ?_
   refine lst_pass rfl rfl rfl ?_
   refine lst_pass rfl rfl rfl ?_
   refine lst_pass rfl rfl rfl ?_
   refine lst_run (run_pick_f rfl (by conv=>lhs;whnf)) rfl ?_
   refine lst_done ?_
   refine goes_false rfl ?_
   refine goes_skip ?_
   refine goes_seq ?_
   refine goes_seq ?_
   refine goes_region ?_
   refine lst_run (run_fieldAddr (off := 0) rfl rfl) rfl ?_
   refine lst_run (run_load1_own hS rfl rfl (by exact .tail .head) (by repeat constructor)) rfl ?_
   refine lst_run (run_eql_yes rfl rfl (by omega)) rfl ?_
   refine lst_done ?_
   refine goes_true rfl ?_
   refine goes_region ?_
   refine lst_run (run_loadN_own (k := 4) hS rfl rfl rfl (by exact .tail .head) (by repeat constructor)) rfl ?_
   refine lst_run (run_loadN_own (k := 4) hS rfl rfl rfl (by exact .head) (by repeat constructor)) rfl ?_
   refine lst_storeN hS rfl (by conv=>lhs;whnf) rfl rfl (by exact .head) (by repeat constructor) (by exact .head) ?_
   clear hS
   intro wx48 hS
   refine lst_storeN hS rfl (by conv=>lhs;whnf) rfl rfl (by exact .tail .head) (by repeat constructor) (by exact .tail .head) ?_
   clear hS
   intro wx49 hS
   refine lst_done ?_
   refine goes_seq ?_
   refine goes_seq ?_
   refine goes_region ?_
   refine lst_run (run_fieldAddr (off := 0) rfl rfl) rfl ?_
   refine lst_run (run_load1_own hS rfl rfl (by exact .head) (by repeat constructor)) rfl ?_
   refine lst_run (run_eql_yes rfl rfl (by omega)) rfl ?_
   refine lst_done ?_
   refine goes_true rfl ?_
   refine goes_seq ?_
   refine goes_region ?_
   refine lst_run (run_loadN_own (k := 4) hS rfl rfl rfl (by exact .tail .head) (by repeat constructor)) rfl ?_
   refine lst_buildSlice (cells := [_, _, _, _]) hS (.cons (by conv=>lhs;whnf) .nil) rfl rfl ?_
   clear hS
   intro b23 wx50 hS
   refine lst_run (run_assign (by conv=>lhs;whnf)) rfl ?_
   refine lst_done ?_
   refine goes_seq ?_
   refine goes_block ?_
   have hfP : bget v.n (envB E) = none := by
    have := look_end hE.ok p.2.tm kv'
    rw [← hv1] at this; exact this
   have hkQ : u.tm.k ≠ 0 := ku
   obtain ⟨ro, hro⟩ : ∃ ro, runOD (envB E) v.tm.n [u.tm] (wk + 1) = ro := ⟨_, rfl⟩
   rw [hro] at hrd
   have hrow0 : Rw 24 4 (.slice (some ⟨b23, 0, none⟩) 1 1) 1 (ltsV [u]) [(b23, .cells (ltsV [u] ++ []).toArray 24)] := Rw.own_ rfl rfl (Nat.le_refl _) (by omega)
   rw [show (400 : Int) - (wk : Nat) - 1 = 400 - ((wk + 1 : Nat) : Int) by omega]
   refine goes_loop2 14 9 (87 :: 88 :: 89 :: 90 :: 91 :: 92 :: 93 :: 94 :: 95 :: 15 :: 96 :: 97 :: 98 :: 99 :: 100 :: 101 :: 102 :: 103 :: 104 :: 105 :: 106 :: 6 :: 7 :: 8 :: 107 :: 108 :: 109 :: 110 :: 111 :: 112 :: 113 :: 114 :: 115 :: 116 :: 117 :: 118 :: 119 :: 120 :: 121 :: 122 :: 123 :: 124 :: 125 :: 16 :: 126 :: 127 :: 130 :: 131 :: 132 :: 133 :: 134 :: 135 :: 136 :: 137 :: 128 :: 129 :: []) (fun (x : List LT × Nat) s y w' => ∃ (As : Option Addr) (cs : Nat) (Os : List (Nat × Obj)), s = .slice As x.1.length cs ∧ y = .int .i64 (400 - (x.2 : Nat)) ∧ runOD (envB E) v.tm.n (x.1.reverse.map LT.tm) x.2 = ro ∧ wk < x.2 ∧ x.2 ≤ 400 ∧ x.1.length ≤ 24 * x.2 + 1 ∧ AllT F' x.1 ∧ Rw 24 4 (.slice As x.1.length cs) x.1.length (ltsV x.1) Os ∧ St M w0 (Os ++ ((b5, .cells (tcs v).toArray 24) :: (b6, .cells (tcs u).toArray 24) :: (b4, .cells (tcs p.1 ++ tcs p.2).toArray 153) :: (b2, .cells (tcs b).toArray 24) :: (b1, .cells (tcs a).toArray 24) :: (g, .cells (pcs (L ++ [p]) ++ sp).toArray 153) :: H)) F' w') (fun x => 401 - x.2) (([u], wk + 1)) ?_ (by conv=>lhs;whnf) (by conv=>lhs;whnf) ?_
   ·exact ⟨_, _, _, rfl, rfl, hro, by show wk < wk + 1; omega, by show wk + 1 ≤ 400; omega, by show 1 ≤ 24 * (wk + 1) + 1; omega, fun x hx => by rw [List.mem_singleton.1 hx]; exact ⟨hu2, tu⟩, hrow0, hS⟩
   clear hS hrow0 hro
   rintro x s y w8 jv3 ⟨As, cs, Os, hs, hy, hoc, hk1, hk2, hSl, hAT, hrows, hS⟩ ih2
   obtain ⟨S, wq⟩ := x
   dsimp only at hs hy hoc hk1 hk2 hSl hAT hrows hS
   subst hs hy
   rcases nil_or_snoc S with rfl | ⟨S, z, rfl⟩
   ·have hro2 : ro = (false, wq) := by rw [← hoc]; rfl
    rw [hro2, if_neg (by rintro (h | h); cases h; exact absurd h (by show ¬ 400 < wq; omega))] at hrd
    replace hS := St.dropN hS
    refine goes_seq ?_
    refine goes_seq ?_
    refine goes_region ?_
    refine lst_run (run_move (by conv=>lhs;whnf)) rfl ?_
    refine lst_run (run_len_slice rfl rfl rfl) rfl ?_
    refine lst_run (rfl) rfl ?_
    refine lst_done ?_
    refine goes_false rfl ?_
    refine goes_exit rfl ?_
    refine goes_seq ?_
    refine goes_region ?_
    refine lst_run (run_fieldAddr (off := 1) rfl rfl) rfl ?_
    refine lst_run (run_load1_own hS rfl rfl (by exact .head) (by repeat constructor)) rfl ?_
    refine lst_run (run_loadN_own (k := 4) hS rfl rfl rfl (by exact .tail .head) (by repeat constructor)) rfl ?_
    refine lst_run (run_move (by conv=>lhs;whnf)) rfl ?_
    refine lst_run (run_build (cells := [_, _, _, _, _, _]) (.cons (by conv=>lhs;whnf) (.cons (by conv=>lhs;whnf) (.cons (by conv=>lhs;whnf) .nil))) rfl) rfl ?_
    refine lst_box hS rfl rfl ?_
    clear hS
    intro b24 wx51 hS
    refine lst_run (run_assign (by conv=>lhs;whnf)) rfl ?_
    refine lst_done ?_
    refine goes_exit rfl ?_
    replace hS := hS.freeze
    have hbk : Bok ((v.n, u.tm) :: envB E) := ⟨hfP, fun e => absurd e hkQ, hE.ok⟩
    have hE' := EOk.cons (bk := b24) (t := u) (v := v.n) hE hu2 tu hbk
    refine ih (L, ⟨v.n, u, b24⟩ :: E, wq) _ _ _ _ _ ?_ ?_ (by conv=>lhs;whnf) (by conv=>lhs;whnf) (by conv=>lhs;whnf) (by kernel_rfl)
    ·show 401 - wq < 401 - wk; omega
    ·exact ⟨_, _, _, _, by rw [show ((((L ++ [p]).length : Nat) : Int) - 1).toNat = L.length by omega], rfl, rfl, hrd.symm, by show wq ≤ 400; omega, by show L.length ≤ 24 * wq + 1; omega, fun φ h => .tail _ (hF φ h), hE', hAL.tail, hrowL, hS.drop.drop.drop⟩
   have hlz : (S ++ [z]).length = S.length + 1 := by simp
   obtain ⟨hz1, hz2⟩ := hAT z (by simp)
   have hATS : AllT F' S := fun q hq => hAT q (by simp [hq])
   obtain ⟨sg, ssp, rfl, rfl, hscap, hsle, _⟩ := hrows.some_ (by omega)
   have hcutz : Cut (ltsV (S ++ [z]) ++ ssp) (0 + ((((S ++ [z]).length : Nat) : Int) - 1).toNat * 4) 4 (tcs z) := by
    have := cutM (ltsV S) (tcs z) ssp (0 + ((((S ++ [z]).length : Nat) : Int) - 1).toNat * 4) 4 (by rw [ltsV_len]; omega) rfl
    rw [ltsV_app]
    simpa [ltsV] using this
   have hrowS : Rw 24 4 (.slice (some ⟨sg, 0, none⟩) S.length cs) S.length (ltsV S) [(sg, .cells (ltsV (S ++ [z]) ++ ssp).toArray 24)] := by
    rw [hlz, ltsV_app] at hrows
    rw [ltsV_app]
    exact hrows.cutS (ltsV_len S) (by omega)
   have hoc2 : runOD (envB E) v.tm.n (z.tm :: S.reverse.map LT.tm) wq = ro := by rw [← hoc, List.reverse_append]; rfl
   by_cases hwq : wq = 400
   ·have hlg := runOD_long (envB E) v.tm.n z.tm (S.reverse.map LT.tm) (w := wq) (by omega)
    rw [hoc2] at hlg
    rw [if_pos (.inr hlg.2)] at hrd
    refine goes_seq ?_
    refine goes_seq ?_
    refine goes_region ?_
    refine lst_run (run_move (by conv=>lhs;whnf)) rfl ?_
    refine lst_run (run_len_slice rfl rfl rfl) rfl ?_
    refine lst_run (run_gtr_yes rfl rfl (by omega)) rfl ?_
    refine lst_done ?_
    refine goes_true rfl ?_
    refine goes_skip ?_
    refine goes_block ?_
    refine goes_seq ?_
    refine goes_region ?_
    refine lst_run (run_move (by conv=>lhs;whnf)) rfl ?_
    refine lst_run (run_move (by conv=>lhs;whnf)) rfl ?_
    refine lst_run (run_len_slice rfl rfl rfl) rfl ?_
    refine lst_run (run_sub rfl rfl (by omega) (by omega)) rfl ?_
    refine lst_run (run_indexAddr (sz := 4) rfl rfl rfl rfl (by omega) (by omega)) rfl ?_
    refine lst_run (run_loadN_own (k := 4) hS rfl rfl rfl (by exact .head) (by assumption)) rfl ?_
    refine lst_alloc (cs := [_, _, _, _]) hS rfl rfl rfl ?_
    clear hS
    intro b24 wx51 hS
    refine lst_storeN hS rfl (by conv=>lhs;whnf) rfl rfl (by exact .head) (by repeat constructor) (by exact .head) ?_
    clear hS
    intro wx52 hS
    refine lst_done ?_
    refine goes_seq ?_
    refine goes_region ?_
    refine lst_run (run_move (by conv=>lhs;whnf)) rfl ?_
    refine lst_run (run_move (by conv=>lhs;whnf)) rfl ?_
    refine lst_run (run_len_slice rfl rfl rfl) rfl ?_
    refine lst_run (run_sub rfl rfl (by omega) (by omega)) rfl ?_
    refine lst_run (run_slice_slice (sz := 4) rfl rfl rfl rfl (by omega) (by omega)) rfl ?_
    refine lst_run (run_assign (by conv=>lhs;whnf)) rfl ?_
    refine lst_done ?_
    refine goes_seq ?_
    refine goes_seq ?_
    refine goes_region ?_
    refine lst_run (run_move (by conv=>lhs;whnf)) rfl ?_
    refine lst_run (run_sub rfl rfl (by omega) (by omega)) rfl ?_
    refine lst_run (run_assign (by conv=>lhs;whnf)) rfl ?_
    refine lst_done ?_
    refine goes_seq ?_
    refine goes_region ?_
    refine lst_run (run_move (by conv=>lhs;whnf)) rfl ?_
    refine lst_run (run_lss_yes rfl rfl (by omega)) rfl ?_
    refine lst_done ?_
    refine goes_true rfl ?_
    refine goes_seq ?_
    refine goes_region ?_
    refine lst_run (run_move (by conv=>lhs;whnf)) rfl ?_
    refine lst_run (run_move (by conv=>lhs;whnf)) rfl ?_
    refine lst_run (run_assign (by conv=>lhs;whnf)) rfl ?_
    refine lst_run (run_assign (by conv=>lhs;whnf)) rfl ?_
    refine lst_run (run_assign (by conv=>lhs;whnf)) rfl ?_
    refine lst_done ?_
    refine goes_ret3 Tryd.func81 rfl (by conv=>lhs;whnf) (by conv=>lhs;whnf) (by conv=>lhs;whnf) ?_
    refine ⟨E, F', 400 - (wq : Nat) - 1, hF, hS.drop.drop.drop.drop.drop.drop.drop.drop, fun _ => ⟨by omega, rfl⟩, fun h => ?_, fun h => ?_⟩
    ·rw [hrd] at h; exact absurd h (by show ¬ ro.2 ≤ 400; omega)
    ·rw [hrd] at h; exact absurd h (by show ¬ ro.2 ≤ 400; omega)
   refine goes_seq ?_
   refine goes_seq ?_
   refine goes_region ?_
   refine lst_run (run_move (by conv=>lhs;whnf)) rfl ?_
   refine lst_run (run_len_slice rfl rfl rfl) rfl ?_
   refine lst_run (run_gtr_yes rfl rfl (by omega)) rfl ?_
   refine lst_done ?_
   refine goes_true rfl ?_
   refine goes_skip ?_
   refine goes_block ?_
   refine goes_seq ?_
   refine goes_region ?_
   refine lst_run (run_move (by conv=>lhs;whnf)) rfl ?_
   refine lst_run (run_move (by conv=>lhs;whnf)) rfl ?_
   refine lst_run (run_len_slice rfl rfl rfl) rfl ?_
   refine lst_run (run_sub rfl rfl (by omega) (by omega)) rfl ?_
   refine lst_run (run_indexAddr (sz := 4) rfl rfl rfl rfl (by omega) (by omega)) rfl ?_
   refine lst_run (run_loadN_own (k := 4) hS rfl rfl rfl (by exact .head) (by assumption)) rfl ?_
   refine lst_alloc (cs := [_, _, _, _]) hS rfl rfl rfl ?_
   clear hS
   intro b24 wx51 hS
   refine lst_storeN hS rfl (by conv=>lhs;whnf) rfl rfl (by exact .head) (by repeat constructor) (by exact .head) ?_
   clear hS
   intro wx52 hS
   refine lst_done ?_
   refine goes_seq ?_
   refine goes_region ?_
   refine lst_run (run_move (by conv=>lhs;whnf)) rfl ?_
   refine lst_run (run_move (by conv=>lhs;whnf)) rfl ?_
   refine lst_run (run_len_slice rfl rfl rfl) rfl ?_
   refine lst_run (run_sub rfl rfl (by omega) (by omega)) rfl ?_
   refine lst_run (run_slice_slice (sz := 4) rfl rfl rfl rfl (by omega) (by omega)) rfl ?_
   refine lst_run (run_assign (by conv=>lhs;whnf)) rfl ?_
   refine lst_done ?_
   refine goes_seq ?_
   refine goes_seq ?_
   refine goes_region ?_
   refine lst_run (run_move (by conv=>lhs;whnf)) rfl ?_
   refine lst_run (run_sub rfl rfl (by omega) (by omega)) rfl ?_
   refine lst_run (run_assign (by conv=>lhs;whnf)) rfl ?_
   refine lst_done ?_
   refine goes_seq ?_
   refine goes_region ?_
   refine lst_run (run_move (by conv=>lhs;whnf)) rfl ?_
   refine lst_run (run_lss_no rfl rfl (by omega)) rfl ?_
   refine lst_done ?_
   refine goes_false rfl ?_
   refine goes_skip ?_
   refine goes_seq ?_
   refine goes_seq ?_
   refine goes_region ?_
   refine lst_run (run_move (by conv=>lhs;whnf)) rfl ?_
   refine lst_run (run_loadN_own (k := 4) hS rfl rfl rfl (by exact .head) (by repeat constructor)) rfl ?_
   refine lst_enter (run_call (by kernel_rfl) (args_2 (by conv=>lhs;whnf) (by conv=>lhs;whnf))) rfl ?_
   refine Calls.mono (elook_any E z _ hE.rd hz1 hE.ok hS) ?_
   rintro _ w9 ⟨zz, rfl, hzz1, hzz2, hzz3, hS'⟩
   refine ⟨_, rfl, ?_⟩
   replace hS := hS'
   clear hS'
   have tzz : tgd zz.tm := by rw [hzz1]; exact look_Q hE.gd hz2
   have hzl : zz.ar.len ≤ 24 := by
    have h1 := tzz.2
    have h2 := Ts.length_le zz.ar.ts
    rw [TA.len_ts] at h2
    have h3 : zz.ar.ts.nodes + 1 ≤ 24 := h1
    omega
   by_cases kz : zz.k = 0
   ·have kz' : (lookM (envB E) z.tm).k = 0 := by rw [← hzz1]; exact kz
    by_cases nz : zz.n = v.n
    ·have hh := runOD_hit (v := v.tm.n) (S.reverse.map LT.tm) (w := wq) (by omega) kz' (by rw [← hzz1]; exact nz)
     rw [hoc2] at hh
     rw [hh, if_pos (.inl rfl)] at hrd
     refine lst_storeN hS rfl (by conv=>lhs;whnf) rfl rfl (by exact .head) (by repeat constructor) (by exact .head) ?_
     clear hS
     intro wx53 hS
     refine lst_done ?_
     refine goes_seq ?_
     refine goes_region ?_
     refine lst_run (run_fieldAddr (off := 0) rfl rfl) rfl ?_
     refine lst_run (run_load1_own hS rfl rfl (by exact .head) (by repeat constructor)) rfl ?_
     refine lst_run (run_eql_yes rfl rfl (by omega)) rfl ?_
     refine lst_run (run_move (by conv=>lhs;whnf)) rfl ?_
     refine lst_guard rfl rfl ?_
     refine lst_run (run_fieldAddr (off := 1) rfl rfl) rfl ?_
     refine lst_guard rfl rfl ?_
     refine lst_run (run_load1_own hS rfl rfl (by exact .head) (by repeat constructor)) rfl ?_
     refine lst_guard rfl rfl ?_
     refine lst_run (run_fieldAddr (off := 1) rfl rfl) rfl ?_
     refine lst_guard rfl rfl ?_
     refine lst_run (run_load1_own hS rfl rfl (by exact .tail (.tail .head)) (by repeat constructor)) rfl ?_
     refine lst_guard rfl rfl ?_
     refine lst_run (run_eql_yes rfl rfl (by omega)) rfl ?_
     refine lst_run (run_pick_t rfl (by conv=>lhs;whnf)) rfl ?_
     refine lst_done ?_
     refine goes_true rfl ?_
     refine goes_seq ?_
     refine goes_region ?_
     refine lst_run (run_move (by conv=>lhs;whnf)) rfl ?_
     refine lst_run (run_move (by conv=>lhs;whnf)) rfl ?_
     refine lst_run (run_assign (by conv=>lhs;whnf)) rfl ?_
     refine lst_run (run_assign (by conv=>lhs;whnf)) rfl ?_
     refine lst_run (run_assign (by conv=>lhs;whnf)) rfl ?_
     refine lst_done ?_
     refine goes_ret3 Tryd.func81 rfl (by conv=>lhs;whnf) (by conv=>lhs;whnf) (by conv=>lhs;whnf) ?_
     refine ⟨E, F', 400 - (wq : Nat) - 1, hF, hS.drop.drop.drop.drop.drop.drop.drop.drop, fun h => ?_, fun h => ?_, fun h h' => ?_⟩
     ·rw [hrd] at h; exact absurd h (by show ¬ 400 < wq + 1; omega)
     ·rw [hrd]; exact ⟨by show (400 : Int) - (wq : Nat) - 1 = 400 - ((wq + 1 : Nat) : Int); omega, rfl⟩
     ·rw [hrd] at h'; cases h'
    ·have hoc3 : runOD (envB E) v.tm.n (zz.ar.lts.map LT.tm ++ S.reverse.map LT.tm) (wq + 1) = ro := by
      have hh := runOD_miss (v := v.tm.n) (S.reverse.map LT.tm) (w := wq) (by omega) kz' (by rw [← hzz1]; exact nz)
      rw [hoc2] at hh
      have hnil : zz.ar.lts = [] := List.eq_nil_of_length_eq_zero (by
       have := (tgd_var tzz kz).2
       have h2 : zz.ar.ts.length = 0 := by show zz.tm.ar.length = 0; rw [this]; rfl
       rw [TA.lts_len, ← TA.len_ts]; exact h2)
      rw [hnil]; exact hh.symm
     refine lst_storeN hS rfl (by conv=>lhs;whnf) rfl rfl (by exact .head) (by repeat constructor) (by exact .head) ?_
     clear hS
     intro wx53 hS
     refine lst_done ?_
     refine goes_seq ?_
     refine goes_region ?_
     refine lst_run (run_fieldAddr (off := 0) rfl rfl) rfl ?_
     refine lst_run (run_load1_own hS rfl rfl (by exact .head) (by repeat constructor)) rfl ?_
     refine lst_run (run_eql_yes rfl rfl (by omega)) rfl ?_
     refine lst_run (run_move (by conv=>lhs;whnf)) rfl ?_
     refine lst_guard rfl rfl ?_
     refine lst_run (run_fieldAddr (off := 1) rfl rfl) rfl ?_
     refine lst_guard rfl rfl ?_
     refine lst_run (run_load1_own hS rfl rfl (by exact .head) (by repeat constructor)) rfl ?_
     refine lst_guard rfl rfl ?_
     refine lst_run (run_fieldAddr (off := 1) rfl rfl) rfl ?_
     refine lst_guard rfl rfl ?_
     refine lst_run (run_load1_own hS rfl rfl (by exact .tail (.tail .head)) (by repeat constructor)) rfl ?_
     refine lst_guard rfl rfl ?_
     refine lst_run (run_eql_no rfl rfl (by assumption)) rfl ?_
     refine lst_run (run_pick_t rfl (by conv=>lhs;whnf)) rfl ?_
     refine lst_done ?_
     refine goes_false rfl ?_
     refine goes_skip ?_
     refine goes_seq ?_
     refine goes_region ?_
     refine lst_run (run_fieldAddr (off := 3) rfl rfl) rfl ?_
     refine lst_run (run_load1_own hS rfl rfl (by exact .head) (by repeat constructor)) rfl ?_
     refine lst_run (run_len_slice rfl rfl rfl) rfl ?_
     refine lst_run (run_sub rfl rfl (by omega) (by omega)) rfl ?_
     refine lst_run (run_assign (by conv=>lhs;whnf)) rfl ?_
     refine lst_done ?_
     refine goes_block ?_
     have hd0 : zz.ar.lts.drop zz.ar.len = [] := by rw [← TA.lts_len]; simp
     have htg := tms_tgd (T := zz.ar) (tgd_down _ tzz)
     rw [show ((((S ++ [z]).length : Nat) : Int) - 1).toNat = (S ++ (zz.ar.lts.drop zz.ar.len).reverse).length by rw [hd0]; simp]
     obtain ⟨zk, zn, zs, zA, zc, zar⟩ := zz
     dsimp only at hzl hd0 htg hoc3
     refine goes_loop2 16 14 (126 :: 127 :: 130 :: 131 :: 132 :: 133 :: 134 :: 135 :: 136 :: 137 :: 128 :: 129 :: []) (fun (j : Nat) i s w' => ∃ (As : Option Addr) (cs : Nat) (Os : List (Nat × Obj)), j ≤ zar.len ∧ i = .int .i64 ((j : Nat) - 1) ∧ s = .slice As (S ++ (zar.lts.drop j).reverse).length cs ∧ Rw 24 4 (.slice As (S ++ (zar.lts.drop j).reverse).length cs) (S ++ (zar.lts.drop j).reverse).length (ltsV (S ++ (zar.lts.drop j).reverse)) Os ∧ St M w0 ((b24, .cells [.int .i64 zk, .int .i64 zn, .string zs, .slice zA zar.len zc].toArray 24) :: (Os ++ ((b5, .cells (tcs v).toArray 24) :: (b6, .cells (tcs u).toArray 24) :: (b4, .cells (tcs p.1 ++ tcs p.2).toArray 153) :: (b2, .cells (tcs b).toArray 24) :: (b1, .cells (tcs a).toArray 24) :: (g, .cells (pcs (L ++ [p]) ++ sp).toArray 153) :: H))) F' w') (fun j => j) (zar.len) ?_ (by conv=>lhs;whnf) (by conv=>lhs;whnf) ?_
     ·exact ⟨_, _, _, Nat.le_refl _, rfl, rfl, by rw [hd0]; simpa using hrowS, hS⟩
     clear hS
     rintro j i s w10 jv4 ⟨As, cs, Os, hj, hi, hs, hrw, hS⟩ ih3
     subst hi hs
     cases j with
     | zero =>
      have e0 : S ++ (zar.lts.drop 0).reverse = S ++ zar.lts.reverse := rfl
      rw [e0] at hrw
      refine goes_seq ?_
      refine goes_seq ?_
      refine goes_region ?_
      refine lst_run (run_move (by conv=>lhs;whnf)) rfl ?_
      refine lst_run (run_geq_no rfl rfl (by omega)) rfl ?_
      refine lst_done ?_
      refine goes_false rfl ?_
      refine goes_exit rfl ?_
      refine goes_inBlock ?_
      refine ih2 (S ++ zar.lts.reverse, wq + 1) _ _ _ _ ?_ ?_ (by conv=>lhs;whnf) (by conv=>lhs;whnf) (by kernel_rfl)
      ·show 401 - (wq + 1) < 401 - wq; omega
      ·refine ⟨As, cs, Os, rfl, by congr 1; show (400 : Int) - (wq : Nat) - 1 = 400 - ((wq + 1 : Nat) : Int); omega, ?_, by show wk < wq + 1; omega, by show wq + 1 ≤ 400; omega, ?_, ?_, hrw, hS.drop⟩
       ·show runOD _ _ ((S ++ zar.lts.reverse).reverse.map LT.tm) _ = ro
        rw [List.reverse_append, List.reverse_reverse, List.map_append]; exact hoc3
       ·show (S ++ zar.lts.reverse).length ≤ 24 * (wq + 1) + 1
        rw [List.length_append, List.length_reverse, TA.lts_len]; omega
       ·intro x hx
        rcases List.mem_append.1 hx with hx | hx
        ·exact hATS x hx
        ·have hx := List.mem_reverse.1 hx
         exact ⟨fun w hw => (hzz2 w hw).lts x hx, htg x hx⟩
     | succ j =>
      obtain ⟨D, R, x, hDx, hDl⟩ := TA.at_split zar j (by omega)
      have hzA : Und F' (ArA zA zc (D.app (.cons x.k x.n x.s x.A x.c x.ar R))) := by rw [← hDx]; exact hzz2
      obtain ⟨bk, ok, rfl⟩ := (hS.und hzA).some_ (by rw [TA.len_app]; simp only [TA.len]; omega)
      have hcc : ∀ {H'} w', St M w0 H' F' w' → _ := fun w' hS => (hS.und hzA).cells
      have eix : (((j + 1 : Nat) : Int) - 1).toNat = D.len := by omega
      rw [← eix] at hcc
      have hdj : zar.lts.drop j = x :: zar.lts.drop (j + 1) := by
       rw [hDx, TA.lts_app, ← hDl, ← TA.lts_len D]
       simp [TA.lts]
      have hgj : (S ++ (zar.lts.drop j).reverse) = (S ++ (zar.lts.drop (j + 1)).reverse) ++ [x] := by rw [hdj]; simp
      have hzlen : (zar.lts.drop (j + 1)).length ≤ 24 := by rw [List.length_drop, TA.lts_len]; omega
      refine goes_seq ?_
      refine goes_seq ?_
      refine goes_region ?_
      refine lst_run (run_move (by conv=>lhs;whnf)) rfl ?_
      refine lst_run (run_geq_yes rfl rfl (by omega)) rfl ?_
      refine lst_done ?_
      refine goes_true rfl ?_
      refine goes_skip ?_
      refine goes_seq ?_
      refine goes_block ?_
      refine goes_region ?_
      refine lst_run (run_move (by conv=>lhs;whnf)) rfl ?_
      refine lst_run (run_fieldAddr (off := 3) rfl rfl) rfl ?_
      refine lst_run (run_load1_own hS rfl rfl (by exact .head) (by repeat constructor)) rfl ?_
      refine lst_run (run_move (by conv=>lhs;whnf)) rfl ?_
      refine lst_run (run_indexAddr (sz := 4) rfl rfl rfl rfl (by omega) (by omega)) rfl ?_
      refine lst_run (run_load4 rfl rfl rfl (by exact (hcc _ hS).1) (by exact (hcc _ hS).2.1) (by exact (hcc _ hS).2.2.1) (by exact (hcc _ hS).2.2.2)) rfl ?_
      refine lst_buildSlice (cells := [_, _, _, _]) hS (.cons (by conv=>lhs;whnf) .nil) rfl rfl ?_
      clear hS
      intro b25 wx54 hS
      refine lst_appL (u := x) hS (by conv=>lhs;whnf) (by rfl) rfl rfl rfl (Flat.own (sp := []) (hS.own (_, _) (.head _)) rfl (Nat.le_refl _)) hrw (List.perm_append_comm_assoc [_, _] Os _) (by rw [List.length_append, List.length_reverse]; omega) rfl ?_
      clear hS
      intro v9 O9 w11 hrow9 hS
      obtain ⟨A9, c9, rfl, _⟩ := hrow9.form
      replace hS := (hS.perm (List.perm_append_comm_assoc O9 [_, _] _)).drop
      refine lst_run (run_assign (by conv=>lhs;whnf)) rfl ?_
      refine lst_done ?_
      refine goes_inBlock ?_
      refine goes_region ?_
      refine lst_run (run_move (by conv=>lhs;whnf)) rfl ?_
      refine lst_run (run_sub rfl rfl (by omega) (by omega)) rfl ?_
      refine lst_run (run_assign (by conv=>lhs;whnf)) rfl ?_
      refine lst_done ?_
      refine ih3 j _ _ _ _ ?_ ?_ (by conv=>lhs;whnf) (by conv=>lhs;whnf) (by kernel_rfl)
      ·omega
      ·refine ⟨A9, c9, O9, by omega, by congr 1; show (((j + 1 : Nat) : Int) - 1) - 1 = (j : Nat) - 1; omega, ?_, ?_, hS⟩
       ·rw [hgj, List.length_append (bs := [x])]; rfl
       ·rw [hgj, List.length_append (bs := [x]), ltsV_app]
        have : ltsV [x] = tcs x := by simp [ltsV]
        rw [this]; exact hrow9
   ·have hoc3 : runOD (envB E) v.tm.n (zz.ar.lts.map LT.tm ++ S.reverse.map LT.tm) (wq + 1) = ro := by
     have hh := runOD_node (v := v.tm.n) (S.reverse.map LT.tm) (w := wq) (by omega) (show (lookM (envB E) z.tm).k ≠ 0 by rw [← hzz1]; exact kz)
     rw [hoc2, ← hzz1] at hh
     rw [TA.lts_tm]; exact hh.symm
    refine lst_storeN hS rfl (by conv=>lhs;whnf) rfl rfl (by exact .head) (by repeat constructor) (by exact .head) ?_
    clear hS
    intro wx53 hS
    refine lst_done ?_
    refine goes_seq ?_
    refine goes_region ?_
    refine lst_run (run_fieldAddr (off := 0) rfl rfl) rfl ?_
    refine lst_run (run_load1_own hS rfl rfl (by exact .head) (by repeat constructor)) rfl ?_
    refine lst_run (run_eql_no rfl rfl (by assumption)) rfl ?_
    refine lst_run (run_move (by conv=>lhs;whnf)) rfl ?_
    refine lst_pass rfl rfl rfl ?_
    refine lst_pass rfl rfl rfl ?_
    refine lst_pass rfl rfl rfl ?_
    refine lst_pass rfl rfl rfl ?_
    refine lst_pass rfl rfl rfl ?_
    refine lst_run (run_pick_f rfl (by conv=>lhs;whnf)) rfl ?_
    refine lst_done ?_
    refine goes_false rfl ?_
    refine goes_skip ?_
    refine goes_seq ?_
    refine goes_region ?_
    refine lst_run (run_fieldAddr (off := 3) rfl rfl) rfl ?_
    refine lst_run (run_load1_own hS rfl rfl (by exact .head) (by repeat constructor)) rfl ?_
    refine lst_run (run_len_slice rfl rfl rfl) rfl ?_
    refine lst_run (run_sub rfl rfl (by omega) (by omega)) rfl ?_
    refine lst_run (run_assign (by conv=>lhs;whnf)) rfl ?_
    refine lst_done ?_
    refine goes_block ?_
    have hd0 : zz.ar.lts.drop zz.ar.len = [] := by rw [← TA.lts_len]; simp
    have htg := tms_tgd (T := zz.ar) (tgd_down _ tzz)
    rw [show ((((S ++ [z]).length : Nat) : Int) - 1).toNat = (S ++ (zz.ar.lts.drop zz.ar.len).reverse).length by rw [hd0]; simp]
    obtain ⟨zk, zn, zs, zA, zc, zar⟩ := zz
    dsimp only at hzl hd0 htg hoc3
    refine goes_loop2 16 14 (126 :: 127 :: 130 :: 131 :: 132 :: 133 :: 134 :: 135 :: 136 :: 137 :: 128 :: 129 :: []) (fun (j : Nat) i s w' => ∃ (As : Option Addr) (cs : Nat) (Os : List (Nat × Obj)), j ≤ zar.len ∧ i = .int .i64 ((j : Nat) - 1) ∧ s = .slice As (S ++ (zar.lts.drop j).reverse).length cs ∧ Rw 24 4 (.slice As (S ++ (zar.lts.drop j).reverse).length cs) (S ++ (zar.lts.drop j).reverse).length (ltsV (S ++ (zar.lts.drop j).reverse)) Os ∧ St M w0 ((b24, .cells [.int .i64 zk, .int .i64 zn, .string zs, .slice zA zar.len zc].toArray 24) :: (Os ++ ((b5, .cells (tcs v).toArray 24) :: (b6, .cells (tcs u).toArray 24) :: (b4, .cells (tcs p.1 ++ tcs p.2).toArray 153) :: (b2, .cells (tcs b).toArray 24) :: (b1, .cells (tcs a).toArray 24) :: (g, .cells (pcs (L ++ [p]) ++ sp).toArray 153) :: H))) F' w') (fun j => j) (zar.len) ?_ (by conv=>lhs;whnf) (by conv=>lhs;whnf) ?_
    ·exact ⟨_, _, _, Nat.le_refl _, rfl, rfl, by rw [hd0]; simpa using hrowS, hS⟩
    clear hS
    rintro j i s w10 jv4 ⟨As, cs, Os, hj, hi, hs, hrw, hS⟩ ih3
    subst hi hs
    cases j with
    | zero =>
     have e0 : S ++ (zar.lts.drop 0).reverse = S ++ zar.lts.reverse := rfl
     rw [e0] at hrw
     refine goes_seq ?_
     refine goes_seq ?_
     refine goes_region ?_
     refine lst_run (run_move (by conv=>lhs;whnf)) rfl ?_
     refine lst_run (run_geq_no rfl rfl (by omega)) rfl ?_
     refine lst_done ?_
     refine goes_false rfl ?_
     refine goes_exit rfl ?_
     refine goes_inBlock ?_
     refine ih2 (S ++ zar.lts.reverse, wq + 1) _ _ _ _ ?_ ?_ (by conv=>lhs;whnf) (by conv=>lhs;whnf) (by kernel_rfl)
     ·show 401 - (wq + 1) < 401 - wq; omega
     ·refine ⟨As, cs, Os, rfl, by congr 1; show (400 : Int) - (wq : Nat) - 1 = 400 - ((wq + 1 : Nat) : Int); omega, ?_, by show wk < wq + 1; omega, by show wq + 1 ≤ 400; omega, ?_, ?_, hrw, hS.drop⟩
      ·show runOD _ _ ((S ++ zar.lts.reverse).reverse.map LT.tm) _ = ro
       rw [List.reverse_append, List.reverse_reverse, List.map_append]; exact hoc3
      ·show (S ++ zar.lts.reverse).length ≤ 24 * (wq + 1) + 1
       rw [List.length_append, List.length_reverse, TA.lts_len]; omega
      ·intro x hx
       rcases List.mem_append.1 hx with hx | hx
       ·exact hATS x hx
       ·have hx := List.mem_reverse.1 hx
        exact ⟨fun w hw => (hzz2 w hw).lts x hx, htg x hx⟩
    | succ j =>
     obtain ⟨D, R, x, hDx, hDl⟩ := TA.at_split zar j (by omega)
     have hzA : Und F' (ArA zA zc (D.app (.cons x.k x.n x.s x.A x.c x.ar R))) := by rw [← hDx]; exact hzz2
     obtain ⟨bk, ok, rfl⟩ := (hS.und hzA).some_ (by rw [TA.len_app]; simp only [TA.len]; omega)
     have hcc : ∀ {H'} w', St M w0 H' F' w' → _ := fun w' hS => (hS.und hzA).cells
     have eix : (((j + 1 : Nat) : Int) - 1).toNat = D.len := by omega
     rw [← eix] at hcc
     have hdj : zar.lts.drop j = x :: zar.lts.drop (j + 1) := by
      rw [hDx, TA.lts_app, ← hDl, ← TA.lts_len D]
      simp [TA.lts]
     have hgj : (S ++ (zar.lts.drop j).reverse) = (S ++ (zar.lts.drop (j + 1)).reverse) ++ [x] := by rw [hdj]; simp
     have hzlen : (zar.lts.drop (j + 1)).length ≤ 24 := by rw [List.length_drop, TA.lts_len]; omega
     refine goes_seq ?_
     refine goes_seq ?_
     refine goes_region ?_
     refine lst_run (run_move (by conv=>lhs;whnf)) rfl ?_
     refine lst_run (run_geq_yes rfl rfl (by omega)) rfl ?_
     refine lst_done ?_
     refine goes_true rfl ?_
     refine goes_skip ?_
     refine goes_seq ?_
     refine goes_block ?_
     refine goes_region ?_
     refine lst_run (run_move (by conv=>lhs;whnf)) rfl ?_
     refine lst_run (run_fieldAddr (off := 3) rfl rfl) rfl ?_
     refine lst_run (run_load1_own hS rfl rfl (by exact .head) (by repeat constructor)) rfl ?_
     refine lst_run (run_move (by conv=>lhs;whnf)) rfl ?_
     refine lst_run (run_indexAddr (sz := 4) rfl rfl rfl rfl (by omega) (by omega)) rfl ?_
     refine lst_run (run_load4 rfl rfl rfl (by exact (hcc _ hS).1) (by exact (hcc _ hS).2.1) (by exact (hcc _ hS).2.2.1) (by exact (hcc _ hS).2.2.2)) rfl ?_
     refine lst_buildSlice (cells := [_, _, _, _]) hS (.cons (by conv=>lhs;whnf) .nil) rfl rfl ?_
     clear hS
     intro b25 wx54 hS
     refine lst_appL (u := x) hS (by conv=>lhs;whnf) (by rfl) rfl rfl rfl (Flat.own (sp := []) (hS.own (_, _) (.head _)) rfl (Nat.le_refl _)) hrw (List.perm_append_comm_assoc [_, _] Os _) (by rw [List.length_append, List.length_reverse]; omega) rfl ?_
     clear hS
     intro v9 O9 w11 hrow9 hS
     obtain ⟨A9, c9, rfl, _⟩ := hrow9.form
     replace hS := (hS.perm (List.perm_append_comm_assoc O9 [_, _] _)).drop
     refine lst_run (run_assign (by conv=>lhs;whnf)) rfl ?_
     refine lst_done ?_
     refine goes_inBlock ?_
     refine goes_region ?_
     refine lst_run (run_move (by conv=>lhs;whnf)) rfl ?_
     refine lst_run (run_sub rfl rfl (by omega) (by omega)) rfl ?_
     refine lst_run (run_assign (by conv=>lhs;whnf)) rfl ?_
     refine lst_done ?_
     refine ih3 j _ _ _ _ ?_ ?_ (by conv=>lhs;whnf) (by conv=>lhs;whnf) (by kernel_rfl)
     ·omega
     ·refine ⟨A9, c9, O9, by omega, by congr 1; show (((j + 1 : Nat) : Int) - 1) - 1 = (j : Nat) - 1; omega, ?_, ?_, hS⟩
      ·rw [hgj, List.length_append (bs := [x])]; rfl
      ·rw [hgj, List.length_append (bs := [x]), ltsV_app]
       have : ltsV [x] = tcs x := by simp [ltsV]
       rw [this]; exact hrow9
  have kv' : (lookM (envB E) p.2.tm).k ≠ 0 := by rw [← hv1]; exact kv
  have hno : ¬ (u.k = v.k ∧ u.n = v.n ∧ u.s = v.s ∧ u.ar.len = v.ar.len) → r = ⟨false, envB E, wk + 1⟩ := fun hh => by
   have := runD_no (L.reverse.map ptm) (w := wk) (by omega) ku' kv' (by
    rw [← hu1, ← hv1]
    rintro ⟨x1, x2, x3, x4⟩
    exact hh ⟨x1, x2, x3, by rw [← TA.len_ts, ← TA.len_ts]; exact x4⟩)
   exact hrun2.symm.trans this
  have hul : u.ar.len ≤ 24 := by
   have h1 := tu.2
   have h2 := Ts.length_le u.ar.ts
   rw [TA.len_ts] at h2
   have h3 : u.ar.ts.nodes + 1 ≤ 24 := h1
   omega
  have hvl : v.ar.len ≤ 24 := by
   have h1 := tv'.2
   have h2 := Ts.length_le v.ar.ts
   rw [TA.len_ts] at h2
   have h3 : v.ar.ts.nodes + 1 ≤ 24 := h1
   omega
  by_cases q1 : ¬ (u.k = v.k)
  ·skip
   refine goes_seq ?_
   refine goes_seq ?_
   refine goes_region ?_
   refine lst_run (run_fieldAddr (off := 0) rfl rfl) rfl ?_
   refine lst_run (run_load1_own hS rfl rfl (by exact .head) (by repeat constructor)) rfl ?_
   refine lst_run (run_eql_no rfl rfl (by assumption)) rfl ?_
   refine lst_run (run_move (by conv=>lhs;whnf)) rfl ?_
   refine lst_pass rfl rfl rfl ?_
   refine lst_pass rfl rfl rfl ?_
   refine lst_pass rfl rfl rfl ?_
   refine lst_run (run_pick_f rfl (by conv=>lhs;whnf)) rfl ?_
   refine lst_done ?_
   refine goes_false rfl ?_
   refine goes_skip ?_
   refine goes_seq ?_
   refine goes_seq ?_
   refine goes_region ?_
   refine lst_run (run_fieldAddr (off := 0) rfl rfl) rfl ?_
   refine lst_run (run_load1_own hS rfl rfl (by exact .tail .head) (by repeat constructor)) rfl ?_
   refine lst_run (run_eql_no rfl rfl (by assumption)) rfl ?_
   refine lst_done ?_
   refine goes_false rfl ?_
   refine goes_skip ?_
   refine goes_seq ?_
   refine goes_seq ?_
   refine goes_region ?_
   refine lst_run (run_fieldAddr (off := 0) rfl rfl) rfl ?_
   refine lst_run (run_load1_own hS rfl rfl (by exact .head) (by repeat constructor)) rfl ?_
   refine lst_run (run_eql_no rfl rfl (by assumption)) rfl ?_
   refine lst_done ?_
   refine goes_false rfl ?_
   refine goes_skip ?_
   refine goes_seq ?_
   refine goes_seq ?_
   refine goes_region ?_
   refine lst_run (run_fieldAddr (off := 0) rfl rfl) rfl ?_
   refine lst_run (run_load1_own hS rfl rfl (by exact .head) (by repeat constructor)) rfl ?_
   refine lst_run (run_fieldAddr (off := 0) rfl rfl) rfl ?_
   refine lst_run (run_load1_own hS rfl rfl (by exact .tail .head) (by repeat constructor)) rfl ?_
   refine lst_run (run_neq_no rfl rfl (by assumption)) rfl ?_
   refine lst_run (run_move (by conv=>lhs;whnf)) rfl ?_
   refine lst_pass rfl rfl rfl ?_
   refine lst_pass rfl rfl rfl ?_
   refine lst_pass rfl rfl rfl ?_
   refine lst_pass rfl rfl rfl ?_
   refine lst_pass rfl rfl rfl ?_
   refine lst_run (run_pick_t rfl (by conv=>lhs;whnf)) rfl ?_
   refine lst_run (run_move (by conv=>lhs;whnf)) rfl ?_
   refine lst_pass rfl rfl rfl ?_
   refine lst_pass rfl rfl rfl ?_
   refine lst_pass rfl rfl rfl ?_
   refine lst_pass rfl rfl rfl ?_
   refine lst_pass rfl rfl rfl ?_
   refine lst_run (run_pick_t rfl (by conv=>lhs;whnf)) rfl ?_
   refine lst_run (run_move (by conv=>lhs;whnf)) rfl ?_
   refine lst_pass rfl rfl rfl ?_
   refine lst_pass rfl rfl rfl ?_
   refine lst_pass rfl rfl rfl ?_
   refine lst_pass rfl rfl rfl ?_
   refine lst_pass rfl rfl rfl ?_
   refine lst_pass rfl rfl rfl ?_
   refine lst_pass rfl rfl rfl ?_
   refine lst_run (run_pick_t rfl (by conv=>lhs;whnf)) rfl ?_
   refine lst_done ?_
   refine goes_true rfl ?_
   refine goes_seq ?_
   refine goes_region ?_
   refine lst_run (run_move (by conv=>lhs;whnf)) rfl ?_
   refine lst_run (run_move (by conv=>lhs;whnf)) rfl ?_
   refine lst_run (run_assign (by conv=>lhs;whnf)) rfl ?_
   refine lst_run (run_assign (by conv=>lhs;whnf)) rfl ?_
   refine lst_run (run_assign (by conv=>lhs;whnf)) rfl ?_
   refine lst_done ?_
   refine goes_ret3 Tryd.func81 rfl (by conv=>lhs;whnf) (by conv=>lhs;whnf) (by conv=>lhs;whnf) ?_
   refine ⟨E, F', 400 - (wk : Nat) - 1, hF, hS.drop.drop.drop.drop.drop.drop, fun h => ?_, fun h => ?_, fun h h' => ?_⟩
   ·rw [hno (fun h => q1 h.1)] at h; exact absurd h (by show ¬ 400 < wk + 1; omega)
   ·rw [hno (fun h => q1 h.1)]; exact ⟨by show (400 : Int) - (wk : Nat) - 1 = 400 - ((wk + 1 : Nat) : Int); omega, rfl⟩
   ·rw [hno (fun h => q1 h.1)] at h'; cases h'
  replace q1 := Decidable.not_not.1 q1
  by_cases q2 : ¬ (u.n = v.n)
  ·skip
   refine goes_seq ?_
   refine goes_seq ?_
   refine goes_region ?_
   refine lst_run (run_fieldAddr (off := 0) rfl rfl) rfl ?_
   refine lst_run (run_load1_own hS rfl rfl (by exact .head) (by repeat constructor)) rfl ?_
   refine lst_run (run_eql_no rfl rfl (by assumption)) rfl ?_
   refine lst_run (run_move (by conv=>lhs;whnf)) rfl ?_
   refine lst_pass rfl rfl rfl ?_
   refine lst_pass rfl rfl rfl ?_
   refine lst_pass rfl rfl rfl ?_
   refine lst_run (run_pick_f rfl (by conv=>lhs;whnf)) rfl ?_
   refine lst_done ?_
   refine goes_false rfl ?_
   refine goes_skip ?_
   refine goes_seq ?_
   refine goes_seq ?_
   refine goes_region ?_
   refine lst_run (run_fieldAddr (off := 0) rfl rfl) rfl ?_
   refine lst_run (run_load1_own hS rfl rfl (by exact .tail .head) (by repeat constructor)) rfl ?_
   refine lst_run (run_eql_no rfl rfl (by assumption)) rfl ?_
   refine lst_done ?_
   refine goes_false rfl ?_
   refine goes_skip ?_
   refine goes_seq ?_
   refine goes_seq ?_
   refine goes_region ?_
   refine lst_run (run_fieldAddr (off := 0) rfl rfl) rfl ?_
   refine lst_run (run_load1_own hS rfl rfl (by exact .head) (by repeat constructor)) rfl ?_
   refine lst_run (run_eql_no rfl rfl (by assumption)) rfl ?_
   refine lst_done ?_
   refine goes_false rfl ?_
   refine goes_skip ?_
   refine goes_seq ?_
   refine goes_seq ?_
   refine goes_region ?_
   refine lst_run (run_fieldAddr (off := 0) rfl rfl) rfl ?_
   refine lst_run (run_load1_own hS rfl rfl (by exact .head) (by repeat constructor)) rfl ?_
   refine lst_run (run_fieldAddr (off := 0) rfl rfl) rfl ?_
   refine lst_run (run_load1_own hS rfl rfl (by exact .tail .head) (by repeat constructor)) rfl ?_
   refine lst_run (run_neq_yes rfl rfl (by omega)) rfl ?_
   refine lst_run (run_move (by conv=>lhs;whnf)) rfl ?_
   refine lst_guard rfl rfl ?_
   refine lst_run (run_fieldAddr (off := 1) rfl rfl) rfl ?_
   refine lst_guard rfl rfl ?_
   refine lst_run (run_load1_own hS rfl rfl (by exact .head) (by repeat constructor)) rfl ?_
   refine lst_guard rfl rfl ?_
   refine lst_run (run_fieldAddr (off := 1) rfl rfl) rfl ?_
   refine lst_guard rfl rfl ?_
   refine lst_run (run_load1_own hS rfl rfl (by exact .tail .head) (by repeat constructor)) rfl ?_
   refine lst_guard rfl rfl ?_
   refine lst_run (run_neq_no rfl rfl (by assumption)) rfl ?_
   refine lst_run (run_pick_f rfl (by conv=>lhs;whnf)) rfl ?_
   refine lst_run (run_move (by conv=>lhs;whnf)) rfl ?_
   refine lst_pass rfl rfl rfl ?_
   refine lst_pass rfl rfl rfl ?_
   refine lst_pass rfl rfl rfl ?_
   refine lst_pass rfl rfl rfl ?_
   refine lst_pass rfl rfl rfl ?_
   refine lst_run (run_pick_t rfl (by conv=>lhs;whnf)) rfl ?_
   refine lst_run (run_move (by conv=>lhs;whnf)) rfl ?_
   refine lst_pass rfl rfl rfl ?_
   refine lst_pass rfl rfl rfl ?_
   refine lst_pass rfl rfl rfl ?_
   refine lst_pass rfl rfl rfl ?_
   refine lst_pass rfl rfl rfl ?_
   refine lst_pass rfl rfl rfl ?_
   refine lst_pass rfl rfl rfl ?_
   refine lst_run (run_pick_t rfl (by conv=>lhs;whnf)) rfl ?_
   refine lst_done ?_
   refine goes_true rfl ?_
   refine goes_seq ?_
   refine goes_region ?_
   refine lst_run (run_move (by conv=>lhs;whnf)) rfl ?_
   refine lst_run (run_move (by conv=>lhs;whnf)) rfl ?_
   refine lst_run (run_assign (by conv=>lhs;whnf)) rfl ?_
   refine lst_run (run_assign (by conv=>lhs;whnf)) rfl ?_
   refine lst_run (run_assign (by conv=>lhs;whnf)) rfl ?_
   refine lst_done ?_
   refine goes_ret3 Tryd.func81 rfl (by conv=>lhs;whnf) (by conv=>lhs;whnf) (by conv=>lhs;whnf) ?_
   refine ⟨E, F', 400 - (wk : Nat) - 1, hF, hS.drop.drop.drop.drop.drop.drop, fun h => ?_, fun h => ?_, fun h h' => ?_⟩
   ·rw [hno (fun h => q2 h.2.1)] at h; exact absurd h (by show ¬ 400 < wk + 1; omega)
   ·rw [hno (fun h => q2 h.2.1)]; exact ⟨by show (400 : Int) - (wk : Nat) - 1 = 400 - ((wk + 1 : Nat) : Int); omega, rfl⟩
   ·rw [hno (fun h => q2 h.2.1)] at h'; cases h'
  replace q2 := Decidable.not_not.1 q2
  by_cases q3 : ¬ (u.s = v.s)
  ·skip
   refine goes_seq ?_
   refine goes_seq ?_
   refine goes_region ?_
   refine lst_run (run_fieldAddr (off := 0) rfl rfl) rfl ?_
   refine lst_run (run_load1_own hS rfl rfl (by exact .head) (by repeat constructor)) rfl ?_
   refine lst_run (run_eql_no rfl rfl (by assumption)) rfl ?_
   refine lst_run (run_move (by conv=>lhs;whnf)) rfl ?_
   refine lst_pass rfl rfl rfl ?_
   refine lst_pass rfl rfl rfl ?_
   refine lst_pass rfl rfl rfl ?_
   refine lst_run (run_pick_f rfl (by conv=>lhs;whnf)) rfl ?_
   refine lst_done ?_
   refine goes_false rfl ?_
   refine goes_skip ?_
   refine goes_seq ?_
   refine goes_seq ?_
   refine goes_region ?_
   refine lst_run (run_fieldAddr (off := 0) rfl rfl) rfl ?_
   refine lst_run (run_load1_own hS rfl rfl (by exact .tail .head) (by repeat constructor)) rfl ?_
   refine lst_run (run_eql_no rfl rfl (by assumption)) rfl ?_
   refine lst_done ?_
   refine goes_false rfl ?_
   refine goes_skip ?_
   refine goes_seq ?_
   refine goes_seq ?_
   refine goes_region ?_
   refine lst_run (run_fieldAddr (off := 0) rfl rfl) rfl ?_
   refine lst_run (run_load1_own hS rfl rfl (by exact .head) (by repeat constructor)) rfl ?_
   refine lst_run (run_eql_no rfl rfl (by assumption)) rfl ?_
   refine lst_done ?_
   refine goes_false rfl ?_
   refine goes_skip ?_
   refine goes_seq ?_
   refine goes_seq ?_
   refine goes_region ?_
   refine lst_run (run_fieldAddr (off := 0) rfl rfl) rfl ?_
   refine lst_run (run_load1_own hS rfl rfl (by exact .head) (by repeat constructor)) rfl ?_
   refine lst_run (run_fieldAddr (off := 0) rfl rfl) rfl ?_
   refine lst_run (run_load1_own hS rfl rfl (by exact .tail .head) (by repeat constructor)) rfl ?_
   refine lst_run (run_neq_yes rfl rfl (by omega)) rfl ?_
   refine lst_run (run_move (by conv=>lhs;whnf)) rfl ?_
   refine lst_guard rfl rfl ?_
   refine lst_run (run_fieldAddr (off := 1) rfl rfl) rfl ?_
   refine lst_guard rfl rfl ?_
   refine lst_run (run_load1_own hS rfl rfl (by exact .head) (by repeat constructor)) rfl ?_
   refine lst_guard rfl rfl ?_
   refine lst_run (run_fieldAddr (off := 1) rfl rfl) rfl ?_
   refine lst_guard rfl rfl ?_
   refine lst_run (run_load1_own hS rfl rfl (by exact .tail .head) (by repeat constructor)) rfl ?_
   refine lst_guard rfl rfl ?_
   refine lst_run (run_neq_yes rfl rfl (by omega)) rfl ?_
   refine lst_run (run_pick_f rfl (by conv=>lhs;whnf)) rfl ?_
   refine lst_run (run_move (by conv=>lhs;whnf)) rfl ?_
   refine lst_guard rfl rfl ?_
   refine lst_run (run_fieldAddr (off := 2) rfl rfl) rfl ?_
   refine lst_guard rfl rfl ?_
   refine lst_run (run_load1_own hS rfl rfl (by exact .head) (by repeat constructor)) rfl ?_
   refine lst_guard rfl rfl ?_
   refine lst_run (run_fieldAddr (off := 2) rfl rfl) rfl ?_
   refine lst_guard rfl rfl ?_
   refine lst_run (run_load1_own hS rfl rfl (by exact .tail .head) (by repeat constructor)) rfl ?_
   refine lst_guard rfl rfl ?_
   refine lst_run (run_neqS_t rfl rfl (by assumption)) rfl ?_
   refine lst_run (run_pick_f rfl (by conv=>lhs;whnf)) rfl ?_
   refine lst_run (run_move (by conv=>lhs;whnf)) rfl ?_
   refine lst_pass rfl rfl rfl ?_
   refine lst_pass rfl rfl rfl ?_
   refine lst_pass rfl rfl rfl ?_
   refine lst_pass rfl rfl rfl ?_
   refine lst_pass rfl rfl rfl ?_
   refine lst_pass rfl rfl rfl ?_
   refine lst_pass rfl rfl rfl ?_
   refine lst_run (run_pick_t rfl (by conv=>lhs;whnf)) rfl ?_
   refine lst_done ?_
   refine goes_true rfl ?_
   refine goes_seq ?_
   refine goes_region ?_
   refine lst_run (run_move (by conv=>lhs;whnf)) rfl ?_
   refine lst_run (run_move (by conv=>lhs;whnf)) rfl ?_
   refine lst_run (run_assign (by conv=>lhs;whnf)) rfl ?_
   refine lst_run (run_assign (by conv=>lhs;whnf)) rfl ?_
   refine lst_run (run_assign (by conv=>lhs;whnf)) rfl ?_
   refine lst_done ?_
   refine goes_ret3 Tryd.func81 rfl (by conv=>lhs;whnf) (by conv=>lhs;whnf) (by conv=>lhs;whnf) ?_
   refine ⟨E, F', 400 - (wk : Nat) - 1, hF, hS.drop.drop.drop.drop.drop.drop, fun h => ?_, fun h => ?_, fun h h' => ?_⟩
   ·rw [hno (fun h => q3 h.2.2.1)] at h; exact absurd h (by show ¬ 400 < wk + 1; omega)
   ·rw [hno (fun h => q3 h.2.2.1)]; exact ⟨by show (400 : Int) - (wk : Nat) - 1 = 400 - ((wk + 1 : Nat) : Int); omega, rfl⟩
   ·rw [hno (fun h => q3 h.2.2.1)] at h'; cases h'
  replace q3 := Decidable.not_not.1 q3
  by_cases q4 : ¬ (u.ar.len = v.ar.len)
  ·skip
   refine goes_seq ?_
   refine goes_seq ?_
   refine goes_region ?_
   refine lst_run (run_fieldAddr (off := 0) rfl rfl) rfl ?_
   refine lst_run (run_load1_own hS rfl rfl (by exact .head) (by repeat constructor)) rfl ?_
   refine lst_run (run_eql_no rfl rfl (by assumption)) rfl ?_
   refine lst_run (run_move (by conv=>lhs;whnf)) rfl ?_
   refine lst_pass rfl rfl rfl ?_
   refine lst_pass rfl rfl rfl ?_
   refine lst_pass rfl rfl rfl ?_
   refine lst_run (run_pick_f rfl (by conv=>lhs;whnf)) rfl ?_
   refine lst_done ?_
   refine goes_false rfl ?_
   refine goes_skip ?_
   refine goes_seq ?_
   refine goes_seq ?_
   refine goes_region ?_
   refine lst_run (run_fieldAddr (off := 0) rfl rfl) rfl ?_
   refine lst_run (run_load1_own hS rfl rfl (by exact .tail .head) (by repeat constructor)) rfl ?_
   refine lst_run (run_eql_no rfl rfl (by assumption)) rfl ?_
   refine lst_done ?_
   refine goes_false rfl ?_
   refine goes_skip ?_
   refine goes_seq ?_
   refine goes_seq ?_
   refine goes_region ?_
   refine lst_run (run_fieldAddr (off := 0) rfl rfl) rfl ?_
   refine lst_run (run_load1_own hS rfl rfl (by exact .head) (by repeat constructor)) rfl ?_
   refine lst_run (run_eql_no rfl rfl (by assumption)) rfl ?_
   refine lst_done ?_
   refine goes_false rfl ?_
   refine goes_skip ?_
   refine goes_seq ?_
   refine goes_seq ?_
   refine goes_region ?_
   refine lst_run (run_fieldAddr (off := 0) rfl rfl) rfl ?_
   refine lst_run (run_load1_own hS rfl rfl (by exact .head) (by repeat constructor)) rfl ?_
   refine lst_run (run_fieldAddr (off := 0) rfl rfl) rfl ?_
   refine lst_run (run_load1_own hS rfl rfl (by exact .tail .head) (by repeat constructor)) rfl ?_
   refine lst_run (run_neq_yes rfl rfl (by omega)) rfl ?_
   refine lst_run (run_move (by conv=>lhs;whnf)) rfl ?_
   refine lst_guard rfl rfl ?_
   refine lst_run (run_fieldAddr (off := 1) rfl rfl) rfl ?_
   refine lst_guard rfl rfl ?_
   refine lst_run (run_load1_own hS rfl rfl (by exact .head) (by repeat constructor)) rfl ?_
   refine lst_guard rfl rfl ?_
   refine lst_run (run_fieldAddr (off := 1) rfl rfl) rfl ?_
   refine lst_guard rfl rfl ?_
   refine lst_run (run_load1_own hS rfl rfl (by exact .tail .head) (by repeat constructor)) rfl ?_
   refine lst_guard rfl rfl ?_
   refine lst_run (run_neq_yes rfl rfl (by omega)) rfl ?_
   refine lst_run (run_pick_f rfl (by conv=>lhs;whnf)) rfl ?_
   refine lst_run (run_move (by conv=>lhs;whnf)) rfl ?_
   refine lst_guard rfl rfl ?_
   refine lst_run (run_fieldAddr (off := 2) rfl rfl) rfl ?_
   refine lst_guard rfl rfl ?_
   refine lst_run (run_load1_own hS rfl rfl (by exact .head) (by repeat constructor)) rfl ?_
   refine lst_guard rfl rfl ?_
   refine lst_run (run_fieldAddr (off := 2) rfl rfl) rfl ?_
   refine lst_guard rfl rfl ?_
   refine lst_run (run_load1_own hS rfl rfl (by exact .tail .head) (by repeat constructor)) rfl ?_
   refine lst_guard rfl rfl ?_
   refine lst_run (run_neqS_f rfl rfl (by assumption)) rfl ?_
   refine lst_run (run_pick_f rfl (by conv=>lhs;whnf)) rfl ?_
   refine lst_run (run_move (by conv=>lhs;whnf)) rfl ?_
   refine lst_guard rfl rfl ?_
   refine lst_run (run_fieldAddr (off := 3) rfl rfl) rfl ?_
   refine lst_guard rfl rfl ?_
   refine lst_run (run_load1_own hS rfl rfl (by exact .head) (by repeat constructor)) rfl ?_
   refine lst_guard rfl rfl ?_
   refine lst_run (run_len_slice rfl rfl rfl) rfl ?_
   refine lst_guard rfl rfl ?_
   refine lst_run (run_fieldAddr (off := 3) rfl rfl) rfl ?_
   refine lst_guard rfl rfl ?_
   refine lst_run (run_load1_own hS rfl rfl (by exact .tail .head) (by repeat constructor)) rfl ?_
   refine lst_guard rfl rfl ?_
   refine lst_run (run_len_slice rfl rfl rfl) rfl ?_
   refine lst_guard rfl rfl ?_
   refine lst_run (run_neq_no rfl rfl (by omega)) rfl ?_
   refine lst_run (run_pick_f rfl (by conv=>lhs;whnf)) rfl ?_
   refine lst_done ?_
   refine goes_true rfl ?_
   refine goes_seq ?_
   refine goes_region ?_
   refine lst_run (run_move (by conv=>lhs;whnf)) rfl ?_
   refine lst_run (run_move (by conv=>lhs;whnf)) rfl ?_
   refine lst_run (run_assign (by conv=>lhs;whnf)) rfl ?_
   refine lst_run (run_assign (by conv=>lhs;whnf)) rfl ?_
   refine lst_run (run_assign (by conv=>lhs;whnf)) rfl ?_
   refine lst_done ?_
   refine goes_ret3 Tryd.func81 rfl (by conv=>lhs;whnf) (by conv=>lhs;whnf) (by conv=>lhs;whnf) ?_
   refine ⟨E, F', 400 - (wk : Nat) - 1, hF, hS.drop.drop.drop.drop.drop.drop, fun h => ?_, fun h => ?_, fun h h' => ?_⟩
   ·rw [hno (fun h => q4 h.2.2.2)] at h; exact absurd h (by show ¬ 400 < wk + 1; omega)
   ·rw [hno (fun h => q4 h.2.2.2)]; exact ⟨by show (400 : Int) - (wk : Nat) - 1 = 400 - ((wk + 1 : Nat) : Int); omega, rfl⟩
   ·rw [hno (fun h => q4 h.2.2.2)] at h'; cases h'
  replace q4 := Decidable.not_not.1 q4
  clear hno
  have hrd : runD ((u.ar.lts.zip v.ar.lts).map ptm ++ L.reverse.map ptm) (envB E) (wk + 1) = r := by
   have := runD_nn (L.reverse.map ptm) (w := wk) (by omega) ku' kv' (by
    rw [← hu1, ← hv1]
    exact ⟨q1, q2, q3, by show u.ar.ts.length = v.ar.ts.length; rw [TA.len_ts, TA.len_ts]; exact q4⟩)
   rw [← hu1, ← hv1] at this
   rw [zip_ptm, TA.lts_tm, TA.lts_tm]
   exact this.symm.trans hrun2
  have hzl : (u.ar.lts.zip v.ar.lts).length = u.ar.len := by rw [List.length_zip, TA.lts_len, TA.lts_len]; omega
  have hd0 : (u.ar.lts.zip v.ar.lts).drop u.ar.len = [] := by rw [← hzl]; simp
  have htu := tms_tgd (T := u.ar) (tgd_down _ tu)
  have htv := tms_tgd (T := v.ar) (tgd_down _ tv')
  replace hS := hS.perm (List.Perm.append_left [_, _] (List.perm_append_comm_assoc [_, _, _] [_] H))
  refine goes_seq ?_
  refine goes_seq ?_
  refine goes_region ?_
  refine lst_run (run_fieldAddr (off := 0) rfl rfl) rfl ?_
  refine lst_run (run_load1_own hS rfl rfl (by exact .head) (by repeat constructor)) rfl ?_
  refine lst_run (run_eql_no rfl rfl (by assumption)) rfl ?_
  refine lst_run (run_move (by conv=>lhs;whnf)) rfl ?_
  refine lst_pass rfl rfl rfl ?_
  refine lst_pass rfl rfl rfl ?_
  refine lst_pass rfl rfl rfl ?_
  refine lst_run (run_pick_f rfl (by conv=>lhs;whnf)) rfl ?_
  refine lst_done ?_
  refine goes_false rfl ?_
  refine goes_skip ?_
  refine goes_seq ?_
  refine goes_seq ?_
  refine goes_region ?_
  refine lst_run (run_fieldAddr (off := 0) rfl rfl) rfl ?_
  refine lst_run (run_load1_own hS rfl rfl (by exact .tail .head) (by repeat constructor)) rfl ?_
  refine lst_run (run_eql_no rfl rfl (by assumption)) rfl ?_
  refine lst_done ?_
  refine goes_false rfl ?_
  refine goes_skip ?_
  refine goes_seq ?_
  refine goes_seq ?_
  refine goes_region ?_
  refine lst_run (run_fieldAddr (off := 0) rfl rfl) rfl ?_
  refine lst_run (run_load1_own hS rfl rfl (by exact .head) (by repeat constructor)) rfl ?_
  refine lst_run (run_eql_no rfl rfl (by assumption)) rfl ?_
  refine lst_done ?_
  refine goes_false rfl ?_
  refine goes_skip ?_
  refine goes_seq ?_
  refine goes_seq ?_
  refine goes_region ?_
  refine lst_run (run_fieldAddr (off := 0) rfl rfl) rfl ?_
  refine lst_run (run_load1_own hS rfl rfl (by exact .head) (by repeat constructor)) rfl ?_
  refine lst_run (run_fieldAddr (off := 0) rfl rfl) rfl ?_
  refine lst_run (run_load1_own hS rfl rfl (by exact .tail .head) (by repeat constructor)) rfl ?_
  refine lst_run (run_neq_yes rfl rfl (by omega)) rfl ?_
  refine lst_run (run_move (by conv=>lhs;whnf)) rfl ?_
  refine lst_guard rfl rfl ?_
  refine lst_run (run_fieldAddr (off := 1) rfl rfl) rfl ?_
  refine lst_guard rfl rfl ?_
  refine lst_run (run_load1_own hS rfl rfl (by exact .head) (by repeat constructor)) rfl ?_
  refine lst_guard rfl rfl ?_
  refine lst_run (run_fieldAddr (off := 1) rfl rfl) rfl ?_
  refine lst_guard rfl rfl ?_
  refine lst_run (run_load1_own hS rfl rfl (by exact .tail .head) (by repeat constructor)) rfl ?_
  refine lst_guard rfl rfl ?_
  refine lst_run (run_neq_yes rfl rfl (by omega)) rfl ?_
  refine lst_run (run_pick_f rfl (by conv=>lhs;whnf)) rfl ?_
  refine lst_run (run_move (by conv=>lhs;whnf)) rfl ?_
  refine lst_guard rfl rfl ?_
  refine lst_run (run_fieldAddr (off := 2) rfl rfl) rfl ?_
  refine lst_guard rfl rfl ?_
  refine lst_run (run_load1_own hS rfl rfl (by exact .head) (by repeat constructor)) rfl ?_
  refine lst_guard rfl rfl ?_
  refine lst_run (run_fieldAddr (off := 2) rfl rfl) rfl ?_
  refine lst_guard rfl rfl ?_
  refine lst_run (run_load1_own hS rfl rfl (by exact .tail .head) (by repeat constructor)) rfl ?_
  refine lst_guard rfl rfl ?_
  refine lst_run (run_neqS_f rfl rfl (by assumption)) rfl ?_
  refine lst_run (run_pick_f rfl (by conv=>lhs;whnf)) rfl ?_
  refine lst_run (run_move (by conv=>lhs;whnf)) rfl ?_
  refine lst_guard rfl rfl ?_
  refine lst_run (run_fieldAddr (off := 3) rfl rfl) rfl ?_
  refine lst_guard rfl rfl ?_
  refine lst_run (run_load1_own hS rfl rfl (by exact .head) (by repeat constructor)) rfl ?_
  refine lst_guard rfl rfl ?_
  refine lst_run (run_len_slice rfl rfl rfl) rfl ?_
  refine lst_guard rfl rfl ?_
  refine lst_run (run_fieldAddr (off := 3) rfl rfl) rfl ?_
  refine lst_guard rfl rfl ?_
  refine lst_run (run_load1_own hS rfl rfl (by exact .tail .head) (by repeat constructor)) rfl ?_
  refine lst_guard rfl rfl ?_
  refine lst_run (run_len_slice rfl rfl rfl) rfl ?_
  refine lst_guard rfl rfl ?_
  refine lst_run (run_neq_yes rfl rfl (by omega)) rfl ?_
  refine lst_run (run_pick_f rfl (by conv=>lhs;whnf)) rfl ?_
  refine lst_done ?_
  refine goes_false rfl ?_
  refine goes_skip ?_
  refine goes_seq ?_
  refine goes_region ?_
  refine lst_run (run_fieldAddr (off := 3) rfl rfl) rfl ?_
  refine lst_run (run_load1_own hS rfl rfl (by exact .head) (by repeat constructor)) rfl ?_
  refine lst_run (run_len_slice rfl rfl rfl) rfl ?_
  refine lst_run (run_sub rfl rfl (by omega) (by omega)) rfl ?_
  refine lst_run (run_assign (by conv=>lhs;whnf)) rfl ?_
  refine lst_done ?_
  refine goes_block ?_
  rw [show ((((L ++ [p]).length : Nat) : Int) - 1).toNat = (L ++ ((u.ar.lts.zip v.ar.lts).drop u.ar.len).reverse).length by rw [hd0]; simp]
  obtain ⟨uk, un, us, uA, uc, uar⟩ := u
  obtain ⟨vk, vn, vs, vA, vc, var⟩ := v
  dsimp only at hzl hd0 htu htv hrd hul hvl q4
  refine goes_loop2 17 10 (178 :: 179 :: 182 :: 183 :: 184 :: 185 :: 186 :: 187 :: 188 :: 189 :: 190 :: 191 :: 192 :: 193 :: 194 :: 195 :: 180 :: 181 :: []) (fun (j : Nat) i s w' => ∃ (As : Option Addr) (cs : Nat) (Os : List (Nat × Obj)), j ≤ uar.len ∧ i = .int .i64 ((j : Nat) - 1) ∧ s = .slice As (L ++ ((uar.lts.zip var.lts).drop j).reverse).length cs ∧ Rw 153 8 (.slice As (L ++ ((uar.lts.zip var.lts).drop j).reverse).length cs) (L ++ ((uar.lts.zip var.lts).drop j).reverse).length (pcs (L ++ ((uar.lts.zip var.lts).drop j).reverse)) Os ∧ St M w0 ((b5, .cells [.int .i64 uk, .int .i64 un, .string us, .slice uA uar.len uc].toArray 24) :: (b6, .cells [.int .i64 vk, .int .i64 vn, .string vs, .slice vA var.len vc].toArray 24) :: (Os ++ ((b4, .cells (tcs p.1 ++ tcs p.2).toArray 153) :: (b2, .cells (tcs b).toArray 24) :: (b1, .cells (tcs a).toArray 24) :: H))) F' w') (fun j => j) (uar.len) ?_ (by conv=>lhs;whnf) (by conv=>lhs;whnf) ?_
  ·exact ⟨_, _, _, Nat.le_refl _, rfl, rfl, by rw [hd0]; simpa using hrowL, hS⟩
  clear hS
  rintro j i s w10 jv4 ⟨As, cs, Os, hj, hi, hs, hrw, hS⟩ ih3
  subst hi hs
  cases j with
  | zero =>
   have e0 : L ++ ((uar.lts.zip var.lts).drop 0).reverse = L ++ (uar.lts.zip var.lts).reverse := rfl
   rw [e0] at hrw
   refine goes_seq ?_
   refine goes_seq ?_
   refine goes_region ?_
   refine lst_run (run_move (by conv=>lhs;whnf)) rfl ?_
   refine lst_run (run_geq_no rfl rfl (by omega)) rfl ?_
   refine lst_done ?_
   refine goes_false rfl ?_
   refine goes_exit rfl ?_
   refine goes_inBlock ?_
   refine ih (L ++ (uar.lts.zip var.lts).reverse, E, wk + 1) _ _ _ _ _ ?_ ?_ (by conv=>lhs;whnf) (by conv=>lhs;whnf) (by conv=>lhs;whnf) (by kernel_rfl)
   ·show 401 - (wk + 1) < 401 - wk; omega
   ·refine ⟨As, cs, Os, F', rfl, by congr 1; show (400 : Int) - (wk : Nat) - 1 = 400 - ((wk + 1 : Nat) : Int); omega, rfl, ?_, by show wk + 1 ≤ 400; omega, ?_, hF, hE, ?_, hrw, (hS.drop.drop.perm ((List.perm_append_comm_assoc Os [_] _).trans (List.Perm.cons _ (List.perm_append_comm_assoc Os [_, _] H)))).drop⟩
    ·show runD ((L ++ (uar.lts.zip var.lts).reverse).reverse.map ptm) _ _ = r
     rw [List.reverse_append, List.reverse_reverse, List.map_append]; exact hrd
    ·show (L ++ (uar.lts.zip var.lts).reverse).length ≤ 24 * (wk + 1) + 1
     rw [List.length_append, List.length_reverse, hzl]; omega
    ·intro x hx
     rcases List.mem_append.1 hx with hx | hx
     ·exact hAL x hx
     ·have hx := List.mem_reverse.1 hx
      have hx1 := List.of_mem_zip (a := x.1) (b := x.2) hx
      exact ⟨fun w hw => (hu2 w hw).lts x.1 hx1.1, fun w hw => (hv2 w hw).lts x.2 hx1.2, htu x.1 hx1.1, htv x.2 hx1.2⟩
  | succ j =>
   obtain ⟨D, R, x, hDx, hDl⟩ := TA.at_split uar j (by omega)
   obtain ⟨D2, R2, y, hDy, hDl2⟩ := TA.at_split var j (by omega)
   have hA1 : Und F' (ArA uA uc (D.app (.cons x.k x.n x.s x.A x.c x.ar R))) := by rw [← hDx]; exact hu2
   have hA2 : Und F' (ArA vA vc (D2.app (.cons y.k y.n y.s y.A y.c y.ar R2))) := by rw [← hDy]; exact hv2
   obtain ⟨bk, ok, rfl⟩ := (hS.und hA1).some_ (by rw [TA.len_app]; simp only [TA.len]; omega)
   obtain ⟨bk2, ok2, rfl⟩ := (hS.und hA2).some_ (by rw [TA.len_app]; simp only [TA.len]; omega)
   have hcc : ∀ {H'} w', St M w0 H' F' w' → _ := fun w' hS => (hS.und hA1).cells
   have hcd : ∀ {H'} w', St M w0 H' F' w' → _ := fun w' hS => (hS.und hA2).cells
   have eix : (((j + 1 : Nat) : Int) - 1).toNat = D.len := by omega
   have eix2 : (((j + 1 : Nat) : Int) - 1).toNat = D2.len := by omega
   rw [← eix] at hcc
   rw [← eix2] at hcd
   have hxl : uar.lts.drop j = x :: R.lts := by rw [hDx, TA.lts_app, ← hDl, ← TA.lts_len D]; simp [TA.lts]
   have hyl : var.lts.drop j = y :: R2.lts := by rw [hDy, TA.lts_app, ← hDl2, ← TA.lts_len D2]; simp [TA.lts]
   have hdj : (uar.lts.zip var.lts).drop j = (x, y) :: (uar.lts.zip var.lts).drop (j + 1) := by
    have e1 : (uar.lts.zip var.lts).drop j = (x, y) :: R.lts.zip R2.lts := by rw [drop_zip', hxl, hyl]; rfl
    have e2 : (uar.lts.zip var.lts).drop (j + 1) = R.lts.zip R2.lts := by rw [← List.drop_drop, e1]; rfl
    rw [e1, e2]
   have hgj : L ++ ((uar.lts.zip var.lts).drop j).reverse = (L ++ ((uar.lts.zip var.lts).drop (j + 1)).reverse) ++ [(x, y)] := by rw [hdj]; simp
   have hzlen : ((uar.lts.zip var.lts).drop (j + 1)).length ≤ 24 := by rw [List.length_drop, hzl]; omega
   refine goes_seq ?_
   refine goes_seq ?_
   refine goes_region ?_
   refine lst_run (run_move (by conv=>lhs;whnf)) rfl ?_
   refine lst_run (run_geq_yes rfl rfl (by omega)) rfl ?_
   refine lst_done ?_
   refine goes_true rfl ?_
   refine goes_skip ?_
   refine goes_seq ?_
   refine goes_block ?_
   refine goes_meet1 10 (182 :: 183 :: 184 :: 185 :: 186 :: 187 :: 188 :: 189 :: 190 :: 191 :: 192 :: 193 :: 194 :: 195 :: []) (fun s w' => ∃ (A9 : Option Addr) (c9 : Nat) (O9 : List (Nat × Obj)), s = .slice A9 ((L ++ ((uar.lts.zip var.lts).drop (j + 1)).reverse).length + 1) c9 ∧ Rw 153 8 (.slice A9 ((L ++ ((uar.lts.zip var.lts).drop (j + 1)).reverse).length + 1) c9) ((L ++ ((uar.lts.zip var.lts).drop (j + 1)).reverse).length + 1) (pcs (L ++ ((uar.lts.zip var.lts).drop (j + 1)).reverse) ++ pcs [(x, y)]) O9 ∧ St M w0 ((b5, .cells [.int .i64 uk, .int .i64 un, .string us, .slice (some ⟨bk, ok, none⟩) uar.len uc].toArray 24) :: (b6, .cells [.int .i64 vk, .int .i64 vn, .string vs, .slice (some ⟨bk2, ok2, none⟩) var.len vc].toArray 24) :: (O9 ++ ((b4, .cells (tcs p.1 ++ tcs p.2).toArray 153) :: (b2, .cells (tcs b).toArray 24) :: (b1, .cells (tcs a).toArray 24) :: H))) F' w') ?_ ?_
   ·intro hmeet
    refine goes_plan (fun w => ∃ O : List (Nat × Obj), St M w0 ((b5, .cells [.int .i64 uk, .int .i64 un, .string us, .slice (some ⟨bk, ok, none⟩) uar.len uc].toArray 24) :: (b6, .cells [.int .i64 vk, .int .i64 vn, .string vs, .slice (some ⟨bk2, ok2, none⟩) var.len vc].toArray 24) :: (O ++ ((b4, .cells (tcs p.1 ++ tcs p.2).toArray 153) :: (b2, .cells (tcs b).toArray 24) :: (b1, .cells (tcs a).toArray 24) :: H))) F' w) 15 (.read 0 (.read 1 (.read 2 (.read 3 (.read 4 (.read 5 (.read 6 (.read 7 (.read 8 (.read 9 (.read 10 (.read 11 (.pick 12 (.pick 13 (.read 14 .tail) .none) .none))))))))))))) (by kernel_rfl) (by kernel_rfl) ⟨_, hS.drew⟩ ?_
    replace hS := hS.drew
    refine pln_read rfl (fun _ ⟨_, hS⟩ => run_move (by conv=>lhs;whnf)) rfl ?_
    refine pln_read rfl (fun _ ⟨_, hS⟩ => run_fieldAddr (off := 3) rfl rfl) rfl ?_
    refine pln_read rfl (fun _ ⟨_, hS⟩ => run_load1_own hS rfl rfl (by exact .head) (by repeat constructor)) rfl ?_
    refine pln_read rfl (fun _ ⟨_, hS⟩ => run_move (by conv=>lhs;whnf)) rfl ?_
    refine pln_read rfl (fun _ ⟨_, hS⟩ => run_indexAddr (sz := 4) rfl rfl rfl rfl (by omega) (by omega)) rfl ?_
    refine pln_read rfl (fun _ ⟨_, hS⟩ => run_load4 rfl rfl rfl (by exact (hcc _ hS).1) (by exact (hcc _ hS).2.1) (by exact (hcc _ hS).2.2.1) (by exact (hcc _ hS).2.2.2)) rfl ?_
    refine pln_read rfl (fun _ ⟨_, hS⟩ => run_fieldAddr (off := 3) rfl rfl) rfl ?_
    refine pln_read rfl (fun _ ⟨_, hS⟩ => run_load1_own hS rfl rfl (by exact .tail .head) (by repeat constructor)) rfl ?_
    refine pln_read rfl (fun _ ⟨_, hS⟩ => run_move (by conv=>lhs;whnf)) rfl ?_
    refine pln_read rfl (fun _ ⟨_, hS⟩ => run_indexAddr (sz := 4) rfl rfl rfl rfl (by omega) (by omega)) rfl ?_
    refine pln_read rfl (fun _ ⟨_, hS⟩ => run_load4 rfl rfl rfl (by exact (hcd _ hS).1) (by exact (hcd _ hS).2.1) (by exact (hcd _ hS).2.2.1) (by exact (hcd _ hS).2.2.2)) rfl ?_
    refine pln_read rfl (fun _ ⟨_, hS⟩ => run_build (cells := [_, _, _, _, _, _, _, _]) (.cons (by conv=>lhs;whnf) (.cons (by conv=>lhs;whnf) .nil)) rfl) rfl ?_
    refine pln_last rfl ?_
    refine lst_buildSlice (cells := [_, _, _, _, _, _, _, _]) hS (.cons (by conv=>lhs;whnf) .nil) rfl rfl ?_
    clear hS
    intro b23 wx48 hS
    refine lst_pln (by exact ⟨_, hS.drop⟩) ?_
    refine pln_last rfl ?_
    refine lst_appP8 (u := (x, y)) hS (by conv=>lhs;whnf) (by rfl) rfl rfl rfl (Flat.own (sp := []) (hS.own (_, _) (.head _)) rfl (Nat.le_refl _)) hrw (List.perm_append_comm_assoc [_, _, _] Os _) (by rw [List.length_append, List.length_reverse]; omega) rfl ?_
    clear hS
    intro v9 O9 w11 hrow9 hS
    obtain ⟨A9, c9, rfl, _⟩ := hrow9.form
    replace hS := hS.perm (List.perm_append_comm_assoc O9 [_, _, _] _)
    refine lst_pln (by exact ⟨_, hS.drop⟩) ?_
    refine pln_read rfl (fun _ ⟨_, hS⟩ => run_assign (by conv=>lhs;whnf)) rfl ?_
    refine pln_tail ?_
    refine lst_done ?_
    exact hmeet _ _ _ ⟨A9, c9, O9, rfl, hrow9, hS.drop⟩ (by conv=>lhs;whnf) (by kernel_rfl)
   clear hS
   rintro jv5 _ w12 ⟨A9, c9, O9, rfl, hrow9, hS⟩
   refine goes_inBlock ?_
   refine goes_region ?_
   refine lst_run (run_move (by conv=>lhs;whnf)) rfl ?_
   refine lst_run (run_sub rfl rfl (by omega) (by omega)) rfl ?_
   refine lst_run (run_assign (by conv=>lhs;whnf)) rfl ?_
   refine lst_done ?_
   refine ih3 j _ _ _ _ ?_ ?_ (by conv=>lhs;whnf) (by conv=>lhs;whnf) (by kernel_rfl)
   ·omega
   ·refine ⟨A9, c9, O9, by omega, by congr 1; show (((j + 1 : Nat) : Int) - 1) - 1 = (j : Nat) - 1; omega, ?_, ?_, hS⟩
    ·rw [hgj, List.length_append (bs := [(x, y)])]; rfl
    ·rw [hgj, List.length_append (bs := [(x, y)]), pcs_app]; exact hrow9
end
end Go.Proofs.YtehhgmeaggempaaDoor
