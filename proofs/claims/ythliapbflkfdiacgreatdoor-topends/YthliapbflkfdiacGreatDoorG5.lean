/- PWalk, Prn, EModel, EBld, EWalk1, Arr: texts that follow one another, laid into one file. -/
import Derived.Test.YthliapbflkfdiacGreatDoorZ0
import Derived.Test.YthliapbflkfdiacGreatDoorG1
import Derived.Test.YthliapbflkfdiacGreatDoorG4
import Derived.Laws.Runes
import Derived.Lib.ItoaLen
import Derived.Test.YthliapbflkfdiacGreatDoorG0
namespace Go.Proofs.YthliapbflkfdiacGreatDoor
open Go.RowKit Go.Shelf
set_option linter.unusedVariables false
set_option linter.unusedSimpArgs false
set_option maxRecDepth 100000
set_option maxHeartbeats 1000000
def Qcz (n : Int) : Str := if n < 0 ∨ 25 < n then [90, 122] else [UInt8.ofNat (65 + n.toNat)]
def QaC (k n : Int) (s : Str) : Str := if k = 0 then Qcz n else if k = 2 then Lib.itoa n else if k = 1 ∨ k = 3 then s else []
theorem QoW (n : Int) (h0 : 0 ≤ n) (h1 : n ≤ 25) : Value.string (Utf8.encode (IntKind.i32.wrap (65 + n))) = sv (Qcz n) := by
 obtain ⟨m, rfl⟩ : ∃ m : Nat, n = m := ⟨n.toNat, by omega⟩
 have h : ∀ i : Fin 26, Utf8.encode (IntKind.i32.wrap (65 + ((i.val : Nat) : Int))) = ⟨(Qcz (i.val : Nat)).toArray⟩ := by decide +kernel
 rw [h ⟨m, by omega⟩]
section
variable {M : List Nat} {w0 : World} {H : List (Nat × Obj)} {F : List (World → Prop)} {b : Nat}
theorem QoN (n : Int) (w : World) (hn : -9223372036854775808 ≤ n ∧ n ≤ 9223372036854775807) : Calls Tryz.prog 203 #[.int .i64 n] w fun e w' => e = .returned (sv (Qcz n)) ∧ w' = w := by
 by_cases h0 : n < 0
 ·have e1 : Qcz n = [90, 122] := by simp [Qcz, h0]
  rw [e1]
  refine Qh Tryz.func203 rfl Tryz.ntmps203 rfl ?_
  refine ZX ?_
  refine Zx ?_
  refine Zaj ?_
  refine Za4 ?_
  refine ZeU ?_
  exact ⟨rfl, rfl⟩
 ·by_cases h1 : n > 25
  ·have e1 : Qcz n = [90, 122] := by simp [Qcz]; omega
   rw [e1]
   refine Qh Tryz.func203 rfl Tryz.ntmps203 rfl ?_
   refine ZX ?_
   refine ZeL ?_
   refine ZS ?_
   refine Za4 ?_
   refine ZeU ?_
   exact ⟨rfl, rfl⟩
  ·refine Qh Tryz.func203 rfl Tryz.ntmps203 rfl ?_
   refine ZX ?_
   refine ZeL ?_
   refine ZS ?_
   refine Zap ?_
   refine Zk ?_
   refine Zu ?_
   first
    | refine Qa (Qeo rfl rfl rfl) rfl ?_
    | refine Qa (rfl) rfl ?_
   first
    | refine Qa (Qeo rfl rfl rfl) rfl ?_
    | refine Qa (rfl) rfl ?_
   refine Zg ?_
   refine ZeU ?_
   exact ⟨by rw [QoW n Ya Ya], rfl⟩
def QuU (n : Int) (w : World) : Prop := Calls Tryz.prog 67 #[.int .i64 n] w fun e w' => e = .returned (sv (Lib.itoa n)) ∧ Below w.heap.size w w'
theorem Qte (n : Int) (w : World) (hn : -9223372036854775808 ≤ n ∧ n ≤ 9223372036854775807) (g : Qdb w) : QuU n w := by
 refine Calls.mono (Any.strconv_Itoa Tryz.laysM171 n hn.1 hn.2 w g.tab) ?_
 rintro e w'' ⟨rfl, k, os, rfl⟩
 exact ⟨rfl, Qjb _ _ _⟩
theorem QqF (k n : Int) (s : Str) (v : Value) (w : World) (hn : -9223372036854775808 ≤ n ∧ n ≤ 9223372036854775807) (hG : ∀ w', Ext M w0 w' → Qdb w') (hS : St M w0 H F w) :
  Calls Tryz.prog 166 #[.agg #[.int .i64 k, .int .i64 n, sv s, v]] w fun e w' => e = .returned (sv (QaC k n s)) ∧ St M w0 H F w' := by
 by_cases h0 : k = 0
 ·subst h0
  rw [show QaC 0 n s = Qcz n by simp [QaC]]
  refine ZdD ?_
  refine Zi ?_
  clear hS
  intro b1 wx1 hS
  refine ZcS ?_
  refine ZbV ?_
  refine Zj ?_
  refine Calls.mono (QoN n _ hn) ?_
  rintro _ w1 ⟨rfl, rfl⟩
  refine ZO ?_
  refine ZdE ?_
  exact ⟨rfl, hS.drop⟩
 by_cases h2 : k = 2
 ·subst h2
  rw [show QaC 2 n s = Lib.itoa n by simp [QaC]]
  refine ZdD ?_
  refine Zi ?_
  clear hS
  intro b1 wx1 hS
  refine ZdW ?_
  refine ZbV ?_
  refine Zj ?_
  refine Calls.mono (Qte n _ hn (hG _ hS.ext)) ?_
  rintro _ w1 ⟨rfl, hb1⟩
  refine Za ?_
  replace hS := hS.grow hb1
  refine Zg ?_
  refine ZdE ?_
  exact ⟨rfl, hS.drop⟩
 by_cases h1 : k = 1
 ·subst h1
  rw [show QaC 1 n s = s by simp [QaC]]
  refine ZdD ?_
  refine Zi ?_
  clear hS
  intro b1 wx1 hS
  refine ZcW ?_
  refine Zm ?_
  refine ZcQ ?_
  refine Zai ?_
  refine ZJ ?_
  refine Zc ?_
  refine Zbq ?_
  refine Zg ?_
  refine ZdE ?_
  exact ⟨rfl, hS.drop⟩
 by_cases h3 : k = 3
 ·subst h3
  rw [show QaC 3 n s = s by simp [QaC]]
  refine ZdD ?_
  refine Zi ?_
  clear hS
  intro b1 wx1 hS
  refine ZcW ?_
  refine Zm ?_
  refine Zao ?_
  refine Zaz ?_
  refine Zcf ?_
  refine ZJ ?_
  refine Zc ?_
  refine Zbq ?_
  refine Zg ?_
  refine ZdE ?_
  exact ⟨rfl, hS.drop⟩
 rw [show QaC k n s = [] by simp [QaC, h0, h1, h2, h3]]
 refine ZdD ?_
 refine Zi ?_
 clear hS
 intro b1 wx1 hS
 refine ZcW ?_
 refine Zm ?_
 refine Zao ?_
 refine Zaz ?_
 refine Zcf ?_
 refine ZT ?_
 refine Zbu ?_
 refine ZD ?_
 refine ZdE ?_
 exact ⟨rfl, hS.drop⟩
structure Lv where
 v : Value
 T : Ts
 i : Nat
def lvs (L : List Lv) : List Value := L.flatMap fun x => [x.v, .int .i64 (x.i : Nat)]
theorem Qmz (L L' : List Lv) : lvs (L ++ L') = lvs L ++ lvs L' := by simp [lvs]
theorem Qqt (L : List Lv) : (lvs L).length = L.length * 2 := by
 induction L with
 | nil => rfl
 | cons x L ih => simp [lvs] at ih ⊢; omega
abbrev Opn (L : List Lv) (V : Value) (O : List (Nat × Obj)) : Prop := Row 227 2 V L.length (lvs L) O
def QcJ (k : Int) (T : Ts) : Bool := QhV k && decide (0 < T.length)
theorem Qh5 (p B V : Value) (l s : Str) (k n : Int) (T : Ts) (L : List Lv) (O O2 : List (Nat × Obj)) (v : Value) (w : World) (hp : QlY b p) (hB : Buf l B O) (hV : Opn L V O2) (hn : -9223372036854775808 ≤ n ∧ n ≤ 9223372036854775807)
  (hG : ∀ w', Ext M w0 w' → Qdb w') (hv : Sl w (fun _ => True) v T) (hl : l.length + (QaC k n s).length + 1 ≤ 1099511627776) (hL : L.length + 1 ≤ 1099511627776) (hS : St M w0 ((b, prn p B V) :: (O ++ (O2 ++ H))) F w) :
  Calls Tryz.prog 109 #[QeB b, .agg #[.int .i64 k, .int .i64 n, sv s, v]] w fun e w' => ∃ B' V' O' O2', e = .returned (.tuple #[]) ∧ Buf (l ++ QaC k n s ++ if QcJ k T then [40] else []) B' O' ∧ Opn (if QcJ k T then L ++ [⟨v, T, 0⟩] else L) V' O2' ∧
   St M w0 ((b, prn (QeB b) B' V') :: (O' ++ (O2' ++ H))) F w' := by
 obtain ⟨A, c, rfl, _⟩ := hv.form
 clear hv
 obtain ⟨A2, c2, rfl⟩ := hV.form
 obtain ⟨A1, c1, rfl⟩ := hB.form
 refine Qf Tryz.func109 rfl Tryz.ntmps109 rfl ?_
 refine Zi ?_
 clear hS
 intro b1 wx1 hS
 refine Zo ?_
 refine QB (St _ w0 [_] _) 6 ((0, true) :: (1, true) :: (2, true) :: (3, true) :: (4, false) :: (5, false) :: []) Yc Yc (hS.drew.only1) ?_
 replace hS := hS.drew
 refine Zav ?_
 refine Zd9 ?_
 refine Zp ?_
 refine Zj ?_
 refine Calls.mono (QqF k n s _ _ hn hG hS) ?_
 rintro _ w1 ⟨rfl, hS'⟩
 refine Za ?_
 replace hS := hS'
 clear hS'
 refine Zea ?_
 refine Zp ?_
 refine Zf ?_
 refine Calls.mono (QgW p _ _ l _ O A2 _ c2 rfl _ hp hB Ya hS.sink1) ?_
 rintro _ w2 ⟨B', O', rfl, hB', hS'⟩
 refine Za ?_
 replace hS := hS'
 clear hS'
 replace hS := hS.raise1
 refine Zea ?_
 refine ZeG ?_
 refine Zc ?_
 refine ZcE ?_
 refine Zj ?_
 refine Calls.mono (Qj9 k n ⟨s.toArray⟩ _ _) ?_
 rintro _ w3 ⟨rfl, hb3⟩
 refine Za ?_
 replace hS := hS.grow hb3
 refine Zd ?_
 generalize hg : QhV k = g
 cases g with
 | false =>
  have e1 : QcJ k T = false := by simp [QcJ, hg]
  refine Z2 ?_
  refine Z2 ?_
  refine Zap ?_
  refine QD Tryz.func109 rfl ?_
  exact ⟨_, _, O', O2, rfl, by rw [e1, if_neg Yd, List.append_nil]; exact hB', by rw [e1, if_neg Yd]; exact hV, hS.drop⟩
 | true =>
  by_cases hT : 0 < T.length
  ·have e1 : QcJ k T = true := by simp [QcJ, hg, hT]
   refine Zt ?_
   refine Zca ?_
   refine Zbp ?_
   refine Zb4 ?_
   refine ZaC ?_
   refine ZaD ?_
   refine Zf ?_
   refine Calls.mono (QcV (QeB b) _ _ _ 40 O' A2 _ c2 rfl _ (.inr rfl) hB' Yh hS.sink1) ?_
   rintro _ w4 ⟨B2, O3, rfl, hB2, hS'⟩
   refine Za ?_
   replace hS := hS'
   clear hS'
   replace hS := hS.raise1
   refine Zb ?_
   refine QB (St _ w0 [_, _] _) 12 ((0, true) :: (1, true) :: (2, true) :: (3, true) :: (4, true) :: (5, true) :: (6, true) :: (7, true) :: (8, false) :: (9, false) :: (10, true) :: (11, true) :: []) Yc Yc (hS.drew.only2) ?_
   replace hS := hS.drew
   refine Zcu ?_
   refine ZbM ?_
   refine ZL ?_
   refine ZeQ ?_
   refine ZL ?_
   refine Qd rfl (fun _ hS => QM (cells := [_, _]) (.cons Yb .nil) rfl) rfl ?_
   refine Zp ?_
   refine ZeV ?_
   clear hS
   intro b2 wx2 hS
   refine ZfG ?_
   refine Zp ?_
   refine Qa6 (sz := 2) (bts := 32) hS Yb rfl rfl rfl rfl (hV) rfl rfl (.cons _ (List.perm_append_comm_assoc (_ :: _ :: O3) O2 H)) Ya Ya rfl ?_
   clear hS
   intro V2 O4 w5 hV2 hS
   replace hS := hS.perm (List.perm_append_comm_assoc O4 (_ :: _ :: O3) H)
   obtain ⟨A3, c3, rfl⟩ := hV2.form
   refine ZfG ?_
   refine ZaJ ?_
   refine ZbM ?_
   refine Zbw ?_
   clear hS
   intro wx3 hS
   refine Zb ?_
   refine QD Tryz.func109 rfl ?_
   exact ⟨_, _, O3, O4, rfl, by rw [e1, if_pos rfl]; exact hB2, by rw [e1, if_pos rfl]; show Row _ _ _ (L ++ [_]).length (lvs (L ++ [_])) _; rw [List.length_append, Qmz]; exact hV2, hS.drop⟩
  ·have e1 : QcJ k T = false := by simp [QcJ, hT]
   refine Zt ?_
   refine Zca ?_
   refine Zbp ?_
   refine Zb4 ?_
   refine Zap ?_
   refine QD Tryz.func109 rfl ?_
   exact ⟨_, _, O', O2, rfl, by rw [e1, if_neg Yd, List.append_nil]; exact hB', by rw [e1, if_neg Yd]; exact hV, hS.drop⟩
theorem Qqu (L0 : List Lv) : 0 + ((((L0.length + 1 : Nat) : Int)) - 1).toNat * 2 = (lvs L0).length := by rw [Qqt]; omega
theorem Qy {g : Nat} {ct : TypeId} {w : World} {L0 : List Lv} {v i : Value} {sp : List Value} (hS : St M w0 ((g, .cells (lvs L0 ++ v :: i :: sp).toArray ct) :: H) F w) : w.cell? ⟨g, 0 + ((((L0.length + 1 : Nat) : Int)) - 1).toNat * 2, none⟩ = some v := by
 rw [Qqu, Qu (hS.at_ .head)]
 simp
theorem Qx {g : Nat} {ct : TypeId} {w : World} {L0 : List Lv} {v i : Value} {sp : List Value} (hS : St M w0 ((g, .cells (lvs L0 ++ v :: i :: sp).toArray ct) :: H) F w) : w.cell? ⟨g, 0 + ((((L0.length + 1 : Nat) : Int)) - 1).toNat * 2 + 1, none⟩ = some i := by
 rw [Qqu, Qu (hS.at_ .head)]
 simp
theorem Put.at_ {i v u : Value} {sp : List Value} : ∀ (l : List Value), Put (l ++ v :: i :: sp) (l.length + 1) u (l ++ v :: u :: sp)
 | [] => .s .z
 | x :: l => .s (Put.at_ l)
theorem Qs7 {v i u : Value} {sp : List Value} (L0 : List Lv) : Put (lvs L0 ++ v :: i :: sp) (0 + ((((L0.length + 1 : Nat) : Int)) - 1).toNat * 2 + 1) u (lvs L0 ++ v :: u :: sp) := by
 rw [Qqu]; exact Put.at_ _
theorem Opn.top {L0 : List Lv} {v V : Value} {T : Ts} {i : Nat} {O2 : List (Nat × Obj)} (h : Opn (L0 ++ [⟨v, T, i⟩]) V O2) : ∃ g cap sp, V = .slice (some ⟨g, 0, none⟩) (L0.length + 1) cap ∧ O2 = [(g, .cells (lvs L0 ++ v :: .int .i64 (i : Nat) :: sp).toArray 227)] ∧ L0.length + 1 ≤ cap ∧
  (∀ j : Nat, Opn (L0 ++ [⟨v, T, j⟩]) V [(g, .cells (lvs L0 ++ v :: .int .i64 (j : Nat) :: sp).toArray 227)]) ∧ Opn L0 (.slice (some ⟨g, 0, none⟩) L0.length cap) O2 := by
 have h' : Row 227 2 V (L0.length + 1) (lvs L0 ++ [v, .int .i64 (i : Nat)]) O2 := by
  have := h; unfold Opn at this; rw [List.length_append, Qmz] at this; exact this
 clear h
 generalize hn : L0.length + 1 = nn at h'
 generalize hx : lvs L0 ++ [v, .int .i64 (i : Nat)] = xs at h'
 cases h' with
 | nil_ => omega
 | own_ h1 h2 h3 h4 =>
  rename_i g cap sp
  subst hx
  have hl := Qqt L0
  refine ⟨g, cap, sp, by first | rfl | rw [hn], by simp, h3, fun j => ?_, ?_⟩
  ·have : Row 227 2 (.slice (some ⟨g, 0, none⟩) nn cap) nn (lvs L0 ++ [v, .int .i64 (j : Nat)]) [(g, .cells ((lvs L0 ++ [v, .int .i64 (j : Nat)]) ++ sp).toArray 227)] := .own_ Yh (by simp at h2 ⊢; omega) h3 h4
   show Row _ _ _ (L0 ++ [_]).length (lvs (L0 ++ [_])) _
   rw [List.length_append, Qmz, show L0.length + [Lv.mk v T j].length = nn from hn]
   simpa [lvs] using this
  ·have : Row 227 2 (.slice (some ⟨g, 0, none⟩) L0.length cap) L0.length (lvs L0) [(g, .cells (lvs L0 ++ (v :: .int .i64 (i : Nat) :: sp)).toArray 227)] := .own_ hl (by simp at h2 ⊢; omega) Ya h4
   simpa using this
theorem Qol (B V v : Value) (l : Str) (T : Ts) (L0 : List Lv) (O O2 : List (Nat × Obj)) (A : Option Addr) (c : Nat) (w : World) (hB : Buf l B O) (hV : Opn (L0 ++ [⟨v, T, T.length⟩]) V O2) (hv : v = .slice A T.length c) (hl : l.length + 1 ≤ 1099511627776) (hL : L0.length + 1 ≤ 1099511627776)
  (hS : St M w0 ((b, prn (QeB b) B V) :: (O ++ (O2 ++ H))) F w) :
  Calls Tryz.prog 110 #[QeB b] w fun e w' => ∃ B' V' O', e = .returned (.tuple #[]) ∧ Buf (l ++ [41]) B' O' ∧ Opn L0 V' O2 ∧ St M w0 ((b, prn (QeB b) B' V') :: (O' ++ (O2 ++ H))) F w' := by
 subst hv
 obtain ⟨g, cap, sp, rfl, rfl, hcap, _, hV0⟩ := hV.top
 obtain ⟨A1, c1, rfl⟩ := hB.form
 replace hS := St.raise1 hS
 refine Qh Tryz.func110 rfl Tryz.ntmps110 rfl ?_
 refine ZaU ?_
 refine ZaQ ?_
 refine Zn ?_
 refine ZbY ?_
 refine Zd ?_
 refine Zeb ?_
 refine ZcX ?_
 refine ZeW ?_
 replace hS := hS.drew
 refine ZaG ?_
 refine Zav ?_
 refine ZL ?_
 refine Za1 ?_
 refine ZdF ?_
 refine ZK ?_
 refine ZH ?_
 refine ZaD ?_
 refine Zf ?_
 refine Calls.mono (QcV (QeB b) _ _ l 41 O _ _ _ rfl _ (.inr rfl) hB Ya hS.sink1) ?_
 rintro _ w4 ⟨B2, O3, rfl, hB2, hS'⟩
 refine Za ?_
 replace hS := hS'
 clear hS'
 replace hS := hS.raise1
 refine Zbt ?_
 refine ZbY ?_
 refine Zd ?_
 refine Qa (Q2 (sz := 2) rfl rfl rfl rfl Ya Ya) rfl ?_
 refine Zc7 ?_
 refine Zs ?_
 clear hS
 intro wx1 hS
 refine Zb ?_
 refine Qly Tryz.func110 rfl  ?_
 rw [show ((((L0.length + 1 : Nat) : Int)) - 1).toNat = L0.length by omega] at hS
 exact ⟨_, _, O3, rfl, hB2, hV0, hS.sink1⟩
theorem QpJ (B V v : Value) (l : Str) (k n : Int) (s : Str) (D a r : Ts) (L0 : List Lv) (O O2 : List (Nat × Obj)) (w : World) (hB : Buf l B O) (hV : Opn (L0 ++ [⟨v, D.app (.cons k n ⟨s.toArray⟩ a r), D.length⟩]) V O2) (hv : Sl w0 (fun _ => True) v (D.app (.cons k n ⟨s.toArray⟩ a r)))
  (hn : -9223372036854775808 ≤ n ∧ n ≤ 9223372036854775807) (hG : ∀ w', Ext [] w0 w' → Qdb w') (hl : l.length + (QaC k n s).length + 2 ≤ 1099511627776) (hL : L0.length + 2 ≤ 1099511627776) (hD : D.length + 1 ≤ 1099511627776)
  (hS : St [] w0 ((b, prn (QeB b) B V) :: (O ++ (O2 ++ H))) F w) :
  Calls Tryz.prog 110 #[QeB b] w fun e w' => ∃ va B' V' O' O2', e = .returned (.tuple #[]) ∧ Sl w0 (fun _ => True) va a ∧ Buf (l ++ (if 0 < D.length then [44] else []) ++ QaC k n s ++ if QcJ k a then [40] else []) B' O' ∧
   Opn (if QcJ k a then (L0 ++ [⟨v, D.app (.cons k n ⟨s.toArray⟩ a r), D.length + 1⟩]) ++ [⟨va, a, 0⟩] else L0 ++ [⟨v, D.app (.cons k n ⟨s.toArray⟩ a r), D.length + 1⟩]) V' O2' ∧ St [] w0 ((b, prn (QeB b) B' V') :: (O' ++ (O2' ++ H))) F w' := by
 obtain ⟨A, c, rfl, hv⟩ := hv.form
 obtain ⟨bb, o, rfl, hseg⟩ := Sl.at_ hv (by simp [Ts.length])
 obtain ⟨_, q0, q1, q2, ⟨va, q3, hva⟩, _⟩ := QaQ.1 hseg
 have hlen : (D.app (.cons k n ⟨s.toArray⟩ a r)).length = D.length + (r.length + 1) := by rw [Ts.length_app]; rfl
 rw [show o + D.length * 4 = o + (((D.length : Nat) : Int) + 1 - 1).toNat * 4 by omega] at q0 q1 q2 q3
 obtain ⟨g, cap, sp, rfl, rfl, hcap, hup, _⟩ := hV.top
 obtain ⟨A1, c1, rfl⟩ := hB.form
 replace hS := St.raise1 hS
 by_cases hD0 : 0 < D.length
 ·rw [if_pos hD0]
  refine Qh Tryz.func110 rfl Tryz.ntmps110 rfl ?_
  refine ZaU ?_
  refine ZaQ ?_
  refine Zn ?_
  refine ZbY ?_
  refine Zd ?_
  refine Zeb ?_
  refine ZcX ?_
  refine ZeW ?_
  replace hS := hS.drew
  refine ZaG ?_
  refine Zav ?_
  refine ZL ?_
  refine Za1 ?_
  refine ZdF ?_
  refine ZK ?_
  refine Z4 ?_
  refine Zae ?_
  refine Zc4 ?_
  refine ZS ?_
  refine Zbx ?_
  refine Z8 ?_
  refine Zf ?_
  refine Calls.mono (QcV (QeB b) _ _ l 44 O _ _ _ rfl _ (.inr rfl) hB Ya hS.sink1) ?_
  rintro _ w4 ⟨B2, O3, rfl, hB2, hS'⟩
  refine Za ?_
  replace hS := hS'
  clear hS'
  replace hS := hS.raise1
  obtain ⟨A2, c2, rfl⟩ := hB2.form
  refine Zb ?_
  refine Zae ?_
  refine Zc4 ?_
  refine Zu ?_
  refine Zbs ?_
  refine Q8 hS rfl Yb rfl rfl .head (Qs7 L0) .head ?_
  clear hS
  intro w5 hS
  refine Zb ?_
  refine ZfH ?_
  replace hS := hS.drew
  refine ZV ?_
  refine Zav ?_
  refine ZL ?_
  refine ZaG ?_
  refine ZfI ?_
  refine Zec ?_
  refine Zd9 ?_
  refine ZK ?_
  refine Zf ?_
  refine Calls.mono (Qh5 (QeB b) _ _ _ s k n a _ O3 _ va _ (.inr rfl) hB2 (hup (D.length + 1)) hn hG (hva.below hS.ext.below) Yh Yh hS.sink1) ?_
  rintro _ w6 ⟨B3, V3, O4, O5, rfl, hB3, hV3, hS'⟩
  refine Za ?_
  replace hS := hS'
  clear hS'
  refine Zb ?_
  refine QD Tryz.func110 rfl ?_
  refine ⟨va, B3, V3, O4, O5, rfl, hva, ?_, hV3, hS⟩
  exact hB3
 ·rw [if_neg hD0, List.append_nil]
  refine Qh Tryz.func110 rfl Tryz.ntmps110 rfl ?_
  refine ZaU ?_
  refine ZaQ ?_
  refine Zn ?_
  refine ZbY ?_
  refine Zd ?_
  refine Zeb ?_
  refine ZcX ?_
  refine ZeW ?_
  replace hS := hS.drew
  refine ZaG ?_
  refine Zav ?_
  refine ZL ?_
  refine Za1 ?_
  refine ZdF ?_
  refine ZK ?_
  refine Z4 ?_
  refine Zae ?_
  refine Zc4 ?_
  refine ZS ?_
  refine Zq ?_
  refine Zae ?_
  refine Zc4 ?_
  refine Zu ?_
  refine Zbs ?_
  refine Q8 hS rfl Yb rfl rfl .head (Qs7 L0) .head ?_
  clear hS
  intro w5 hS
  refine Zb ?_
  refine ZfH ?_
  replace hS := hS.drew
  refine ZV ?_
  refine Zav ?_
  refine ZL ?_
  refine ZaG ?_
  refine ZfI ?_
  refine Zec ?_
  refine Zd9 ?_
  refine ZK ?_
  refine Zf ?_
  refine Calls.mono (Qh5 (QeB b) _ _ _ s k n a _ O _ va _ (.inr rfl) hB (hup (D.length + 1)) hn hG (hva.below hS.ext.below) Yh Yh hS.sink1) ?_
  rintro _ w6 ⟨B3, V3, O4, O5, rfl, hB3, hV3, hS'⟩
  refine Za ?_
  replace hS := hS'
  clear hS'
  refine Zb ?_
  refine QD Tryz.func110 rfl ?_
  refine ⟨va, B3, V3, O4, O5, rfl, hva, ?_, hV3, hS⟩
  exact hB3
end
def QgH (c : Bool) : Ts → Str
 | .nil => []
 | .cons k n s a r => (if c then [44] else []) ++ QaC k n s.data.toList ++ (if QcJ k a then 40 :: (QgH false a ++ [41]) else []) ++ QgH true r
def rng : Ts → Prop
 | .nil => True
 | .cons k n s a r => (-9223372036854775808 ≤ n ∧ n ≤ 9223372036854775807) ∧ rng a ∧ rng r
abbrev Lw := Value × Ts × Ts
def lev : List Lw → List Lv
 | [] => []
 | (v, D, R) :: K => lev K ++ [⟨v, D.app R, D.length⟩]
def QbU : List Lw → Str
 | [] => []
 | (v, D, R) :: K => QgH (decide (0 < D.length)) R ++ 41 :: QbU K
def work : List Lw → Nat
 | [] => 0
 | (v, D, R) :: K => 1 + 2 * R.nodes + work K
theorem QqC : ∀ K : List Lw, (lev K).length ≤ (QbU K).length
 | [] => Nat.le_refl _
 | (v, D, R) :: K => by have := QqC K; simp [lev, QbU]; omega
theorem QsS (D : Ts) (k n : Int) (s : ByteArray) (a : Ts) : (D.app (.cons k n s a .nil)).length = D.length + 1 := by rw [Ts.length_app]; rfl
def QuR (w0 : World) (N : Nat) (x : Lw) : Prop := Sl w0 (fun _ => True) x.1 (x.2.1.app x.2.2) ∧ (x.2.1.app x.2.2).nodes ≤ N ∧ rng x.2.2
theorem Qp2 (k n : Int) (s : Str) (a : Ts) (v : Value) (w0 : World) (hG : ∀ w', Ext [] w0 w' → Qdb w') (hv : Sl w0 (fun _ => True) v a) (hn : -9223372036854775808 ≤ n ∧ n ≤ 9223372036854775807) (hr : rng a) (hN : a.nodes ≤ 1048576)
  (hlen : (QgH false (.cons k n ⟨s.toArray⟩ a .nil)).length ≤ 1073741824) :
  Calls Tryz.prog 68 #[.agg #[.int .i64 k, .int .i64 n, sv s, v]] w0 fun e w' => e = .returned (sv (QgH false (.cons k n ⟨s.toArray⟩ a .nil))) ∧ Below w0.heap.size w0 w' := by
 have hS := St.start w0
 have e0 : QgH false (.cons k n ⟨s.toArray⟩ a .nil) = QaC k n s ++ if QcJ k a then 40 :: (QgH false a ++ [41]) else [] := by simp [QgH]
 rw [e0] at hlen ⊢
 have hlab : (QaC k n s).length ≤ 1073741824 := by simp at hlen; omega
 obtain ⟨A, c, rfl, hv⟩ := hv.form
 refine Qh Tryz.func68 rfl Tryz.ntmps68 rfl ?_
 refine Zi ?_
 clear hS
 intro b1 wx1 hS
 refine ZbA ?_
 refine Qa (QM (cells := [_, _, _]) .nil rfl) rfl ?_
 refine Zb9 ?_
 clear hS
 intro b2 wx2 hS
 refine Zn ?_
 refine ZcE ?_
 refine Zf ?_
 refine Calls.mono (Qh5 (.pointer none) _ _ [] s k n a [] [] [] _ _ (.inl rfl) .nil_ .nil_ hn hG (hv.below hS.ext.below) Yh Yd hS) ?_
 rintro _ w1 ⟨B1, V1, O1, O2, rfl, hB1, hV1, hS'⟩
 refine Za ?_
 replace hS := hS'
 clear hS'
 generalize htot : QaC k n s ++ (if QcJ k a then 40 :: (QgH false a ++ [41]) else []) = tot at hlen ⊢
 obtain ⟨H, hS⟩ : ∃ H, St [] w0 ((b2, prn (QeB b2) B1 V1) :: (O1 ++ (O2 ++ H))) [] w1 := ⟨_, hS⟩
 refine Zo ?_
 refine Zbk ?_
 refine Qjh  (9 :: 10 :: 11 :: 12 :: 13 :: 14 :: 15 :: 16 :: []) (fun (x : Str × List Lw) w' => ∃ B V O O2, Buf x.1 B O ∧ Opn (lev x.2) V O2 ∧ St [] w0 ((b2, prn (QeB b2) B V) :: (O ++ (O2 ++ H))) [] w' ∧ x.1 ++ QbU x.2 = tot ∧ ∀ y ∈ x.2, QuR w0 a.nodes y) (fun x => work x.2) ((QaC k n s ++ (if QcJ k a then [40] else []), if QcJ k a then [(.slice A a.length c, .nil, a)] else [])) ?_ ?_
 ·refine ⟨B1, V1, O1, O2, hB1, ?_, hS, ?_, ?_⟩
  ·generalize QcJ k a = g at hV1 ⊢
   cases g <;> exact hV1
  ·rw [← htot]
   generalize QcJ k a = g
   cases g <;> simp [QbU, Ts.length]
  ·generalize QcJ k a = g
   cases g with
   | false => simp
   | true =>
    intro y hy
    obtain rfl : y = _ := by simpa using hy
    exact ⟨hv, Nat.le_refl _, hr⟩
 clear hS hB1 hV1
 rintro ⟨l, K⟩ w2 jv ⟨B, V, O, O2, hB, hV, hS, htl, hK⟩ ih
 simp only at hB hV hS htl hK ih
 obtain ⟨A1, c1, rfl⟩ := hB.form
 cases K with
 | nil =>
  obtain ⟨A2, c2, hVe⟩ := Row.form hV
  obtain rfl : V = .slice A2 0 c2 := hVe
  refine Zm ?_
  refine ZaU ?_
  refine Zay ?_
  refine Zbe ?_
  refine ZaD ?_
  have hl : l.length ≤ 1099511627776 := by rw [← htl] at hlen; simp at hlen; omega
  refine Zj ?_
  refine Calls.mono (Qok (QeB b2) _ _ l O A2 0 c2 rfl _ hB hl hS) ?_
  rintro _ w3 ⟨rfl, hS'⟩
  refine Za ?_
  replace hS := hS'
  clear hS'
  refine Zg ?_
  refine Qc Tryz.func68 rfl Yb ?_
  exact ⟨by rw [← htl]; simp [QbU], hS.ext.below⟩
 | cons x K =>
  obtain ⟨u, D, R⟩ := x
  have hV' : Opn (lev K ++ [⟨u, D.app R, D.length⟩]) V O2 := hV
  obtain ⟨hu, hN1, hR⟩ := hK (u, D, R) (.head _)
  simp only at hu hN1 hR
  have hlk := QqC K
  have hkl : l.length + ((QgH (decide (0 < D.length)) R).length + (QbU K).length + 1) ≤ 1073741824 := by rw [← htl] at hlen; simp [QbU] at hlen; omega
  have hDn := D.length_le
  rw [Ts.nodes_app] at hN1
  obtain ⟨g, cap, sp, rfl, _, hcap, _⟩ := hV'.top
  cases R with
  | nil =>
   rw [Ts.app_nil] at hV' hu
   obtain ⟨A3, c3, rfl, _⟩ := hu.form
   refine Zm ?_
   refine ZaU ?_
   refine Zay ?_
   refine ZH ?_
   refine ZbX ?_
   refine Zad ?_
   refine Zj ?_
   refine Calls.mono (Qol _ _ _ l D (lev K) O O2 A3 c3 _ hB hV' rfl Ya Ya hS) ?_
   rintro _ w3 ⟨B', V', O', rfl, hB', hV2, hS'⟩
   refine Za ?_
   replace hS := hS'
   clear hS'
   refine Zb ?_
   refine Za5 ?_
   refine ih ((l ++ [41], K)) _ _ ?_ ?_ Yc
   ·simp only [work]; omega
   ·exact ⟨B', V', O', O2, hB', hV2, hS, by rw [← htl]; simp [QbU, QgH], fun y hy => hK y (.tail _ hy)⟩
  | cons k1 n1 s1 a1 r1 =>
   obtain ⟨s1, rfl⟩ := Qs3 s1
   refine Zm ?_
   refine ZaU ?_
   refine Zay ?_
   refine ZH ?_
   refine ZbX ?_
   refine Zad ?_
   have hlab1 : (QaC k1 n1 s1).length ≤ (QgH (decide (0 < D.length)) (.cons k1 n1 ⟨s1.toArray⟩ a1 r1)).length := by simp [QgH]; omega
   refine Zj ?_
   refine Calls.mono (QpJ _ _ _ l k1 n1 s1 D a1 r1 (lev K) O O2 _ hB hV' hu hR.1 hG Ya Ya Ya hS) ?_
   rintro _ w3 ⟨va, B', V', O', O3, rfl, hva, hB', hV2, hS'⟩
   refine Za ?_
   replace hS := hS'
   clear hS'
   refine Zb ?_
   refine Za5 ?_
   have hD1 : (D.app (.cons k1 n1 ⟨s1.toArray⟩ a1 .nil)).app r1 = D.app (.cons k1 n1 ⟨s1.toArray⟩ a1 r1) := by rw [Ts.app_assoc]; rfl
   have hD2 := QsS D k1 n1 ⟨s1.toArray⟩ a1
   generalize D.app (.cons k1 n1 ⟨s1.toArray⟩ a1 .nil) = D1 at hD1 hD2
   have hu1 : QuR w0 a.nodes (u, D1, r1) := ⟨by rw [hD1]; exact hu, by show (D1.app r1).nodes ≤ _; rw [hD1, Ts.nodes_app]; exact hN1, hR.2.2⟩
   have hnod : (Ts.cons k1 n1 ⟨s1.toArray⟩ a1 r1).nodes = a1.nodes + r1.nodes + 1 := rfl
   have hL1 : lev ((u, D1, r1) :: K) = lev K ++ [⟨u, D.app (.cons k1 n1 ⟨s1.toArray⟩ a1 r1), D.length + 1⟩] := by simp only [lev]; rw [hD1, hD2]
   have hpos : decide (0 < D1.length) = true := by simp; omega
   generalize hg : QcJ k1 a1 = g1 at hV2 hB'
   have htl' : l ++ (QgH (decide (0 < D.length)) (.cons k1 n1 ⟨s1.toArray⟩ a1 r1) ++ 41 :: QbU K) = tot := htl
   cases g1 with
   | true =>
    refine ih ((l ++ (if 0 < D.length then [44] else []) ++ QaC k1 n1 s1 ++ [40], (va, .nil, a1) :: (u, D1, r1) :: K)) _ _ ?_ ?_ Yc
    ·simp only [work, hnod]; omega
    ·refine ⟨B', V', O', O3, hB', ?_, hS, ?_, ?_⟩
     ·show Opn (lev ((u, D1, r1) :: K) ++ [_]) V' O3
      rw [hL1]; exact hV2
     ·rw [← htl']; simp only [QbU, hpos, QgH, hg]; simp [Ts.length]
     ·intro y hy
      rcases List.mem_cons.1 hy with rfl | hy
      ·exact ⟨hva, by show a1.nodes ≤ _; omega, hR.2.1⟩
      rcases List.mem_cons.1 hy with rfl | hy
      ·exact hu1
      ·exact hK y (.tail _ hy)
   | false =>
    refine ih ((l ++ (if 0 < D.length then [44] else []) ++ QaC k1 n1 s1, (u, D1, r1) :: K)) _ _ ?_ ?_ Yc
    ·simp only [work, hnod]; omega
    ·refine ⟨B', V', O', O3, ?_, ?_, hS, ?_, ?_⟩
     ·simpa only [Bool.false_eq_true, if_false, List.append_nil] using hB'
     ·show Opn (lev ((u, D1, r1) :: K)) V' O3
      rw [hL1]; exact hV2
     ·rw [← htl']; simp only [QbU, hpos, QgH, hg]; simp [Ts.length]
     ·intro y hy
      rcases List.mem_cons.1 hy with rfl | hy
      ·exact hu1
      ·exact hK y (.tail _ hy)
def QbG : Nat → Ts → Str
 | _, .nil => []
 | i, .cons k n s a r => (([32] ++ Lib.itoa (i : Nat)) ++ [61]) ++ QgH false (.cons k n s a .nil) ++ QbG (i + 1) r
def QeR (k : Int) : Str :=
 if k = 1 then [121, 101, 115] else if k = 2 then [100, 111, 110, 101] else if k = 3 then [102, 117, 101, 108] else if k = 4 then [108, 97, 114, 103, 101] else if k = 5 then [102, 97, 117, 108, 116] else if k = 6 then [101, 110, 111, 117, 103, 104] else []
def QbT (k : Int) (T : Ts) : Str := if k = 1 then [121, 101, 115] ++ QbG 0 T else QeR k
theorem Qjz : ∀ (i : Nat) (D R : Ts), QbG i (D.app R) = QbG i D ++ QbG (i + D.length) R
 | i, .nil, R => by simp [Ts.app, QbG, Ts.length]
 | i, .cons k n s a r, R => by
  have := Qjz (i + 1) r R
  simp only [Ts.app, QbG, this, Ts.length]
  rw [show i + 1 + r.length = i + (r.length + 1) by omega]
  simp
theorem QrR (i : Nat) (k n : Int) (s : ByteArray) (a : Ts) : QbG i (.cons k n s a .nil) = (([32] ++ Lib.itoa (i : Nat)) ++ [61]) ++ QgH false (.cons k n s a .nil) := by simp [QbG]
abbrev Qtl (p B : Value) : Obj := .cells [p, B].toArray 118
section
variable {M : List Nat} {w0 : World} {H : List (Nat × Obj)} {F : List (World → Prop)} {b : Nat}
theorem Qeq (p : Value) (A : Option Addr) (l c : Nat) (w : World) (hp : QlY b p) (hS : St M w0 ((b, Qtl p (.slice A l c)) :: H) F w) :
  Calls Tryz.prog 107 #[QeB b] w fun e w' => e = .returned (.tuple #[]) ∧ St M w0 ((b, Qtl (QeB b) (.slice A l c)) :: H) F w' := by
 have hsh := QeY (hS.at_ .head)
 rcases hp with rfl | rfl
 ·refine Zd4 ?_
  refine ZaS ?_
  refine Zd5 ?_
  refine Zcm ?_
  refine Zfu ?_
  refine Zfv ?_
  refine Zfw ?_
  refine Z8 ?_
  refine Zs ?_
  clear hS
  intro wx1 hS
  refine Zb ?_
  refine QD Tryz.func107 rfl ?_
  exact ⟨rfl, hS⟩
 ·refine Zd4 ?_
  refine ZaS ?_
  refine Zd5 ?_
  refine ZeC ?_
  refine ZaS ?_
  refine Zd ?_
  refine Zfx ?_
  refine Zq ?_
  refine QD Tryz.func107 rfl ?_
  exact ⟨rfl, hS⟩
theorem Qdc (p B : Value) (l x : Str) (O : List (Nat × Obj)) (w : World) (hp : QlY b p) (hB : Buf l B O) (hl : l.length + x.length ≤ 1099511627776) (hS : St M w0 ((b, Qtl p B) :: (O ++ H)) F w) :
  Calls Tryz.prog 66 #[QeB b, sv x] w fun e w' => ∃ B' O', e = .returned (.tuple #[.int .i64 (x.length : Nat), .nilIface]) ∧ Buf (l ++ x) B' O' ∧ St M w0 ((b, Qtl (QeB b) B') :: (O' ++ H)) F w' := by
 obtain ⟨A, c, rfl⟩ := hB.form
 refine Qf Tryz.func66 rfl Tryz.ntmps66 rfl ?_
 refine Zc ?_
 refine Zag ?_
 refine Zj ?_
 refine Calls.mono (Qeq p A _ c _ hp hS) ?_
 rintro _ w1 ⟨rfl, hS'⟩
 refine Za ?_
 replace hS := hS'
 clear hS'
 refine Zbt ?_
 refine Zbs ?_
 refine Zr ?_
 refine Zd ?_
 refine Qi7 hS Yb rfl rfl rfl rfl hB List.perm_middle.symm Ya rfl ?_
 clear hS
 intro B' O' w2 hB' hS
 replace hS := hS.raise
 obtain ⟨A', c', rfl⟩ := hB'.form
 refine ZcY ?_
 clear hS
 intro wx1 hS
 refine Zbc ?_
 refine ZaZ ?_
 refine Zv ?_
 refine Qa1 Tryz.func66 rfl Yb Yb ?_
 refine ⟨_, O', rfl, ?_, hS⟩
 show Row _ _ _ (l ++ x).length (QY (l ++ x)) _
 rw [List.length_append, show QY (l ++ x) = QY l ++ QY x by simp [QY]]; exact hB'
theorem Qek (p B : Value) (l : Str) (c : UInt8) (O : List (Nat × Obj)) (w : World) (hp : QlY b p) (hB : Buf l B O) (hl : l.length + 1 ≤ 1099511627776) (hS : St M w0 ((b, Qtl p B) :: (O ++ H)) F w) :
  Calls Tryz.prog 65 #[QeB b, .int .u8 c.toNat] w fun e w' => ∃ B' O', e = .returned .nilIface ∧ Buf (l ++ [c]) B' O' ∧ St M w0 ((b, Qtl (QeB b) B') :: (O' ++ H)) F w' := by
 obtain ⟨A, cc, rfl⟩ := hB.form
 refine Qf Tryz.func65 rfl Tryz.ntmps65 rfl ?_
 refine ZcZ ?_
 refine Calls.mono (Qeq p A _ cc _ hp hS) ?_
 rintro _ w1 ⟨rfl, hS'⟩
 refine Za ?_
 replace hS := hS'
 clear hS'
 refine Zbt ?_
 refine Zbs ?_
 refine Zr ?_
 refine Zd ?_
 refine ZaK ?_
 clear hS
 intro b1 wx1 hS
 refine Zfy ?_
 clear hS
 intro B' O' w2 hB' hS
 replace hS := hS.raise
 obtain ⟨A', c', rfl⟩ := hB'.form
 refine ZcY ?_
 clear hS
 intro wx2 hS
 refine Zbd ?_
 refine Qc Tryz.func65 rfl Yb ?_
 refine ⟨_, O', rfl, ?_, hS⟩
 show Row _ _ _ (l ++ [c]).length (QY (l ++ [c])) _
 rw [List.length_append, show QY (l ++ [c]) = QY l ++ QY [c] by simp [QY]]; exact hB'
theorem Qme (p B : Value) (l : Str) (O : List (Nat × Obj)) (w : World) (hB : Buf l B O) (hl : l.length ≤ 1099511627776) (hS : St M w0 ((b, Qtl p B) :: (O ++ H)) F w) :
  Calls Tryz.prog 69 #[QeB b] w fun e w' => e = .returned (sv l) ∧ St M w0 H F w' := by
 have hF := hS
 have hB2 : Row 5 1 B l.length (QY l) O := hB
 clear hB
 generalize hll : l.length = ll at hB2
 generalize hbl : QY l = bl at hB2
 cases hB2 with
 | nil_ =>
  obtain rfl : l = [] := List.eq_nil_of_length_eq_zero hll
  clear hF
  refine Zd6 ?_
  refine Zc ?_
  refine ZM ?_
  refine Zd7 ?_
  replace hS := hS.drew
  refine ZaG ?_
  refine ZaG ?_
  refine Za1 ?_
  refine Zp ?_
  refine Qa (Qb2 rfl rfl) rfl ?_
  refine QaP hS ?_
  refine Zp ?_
  refine Zd8 ?_
  refine QaP hS ?_
  refine Zc0 ?_
  exact ⟨rfl, hS.drop⟩
 | own_ h1 h2 h3 h4 =>
  rename_i g cap sp
  have hg : w.heap[g]? = some (.cells (bl ++ sp).toArray 5) := hF.own (g, _) Yd
  replace hS := St.dropMid' hS
  refine Zd6 ?_
  refine Zc ?_
  refine ZM ?_
  refine Zd7 ?_
  replace hS := hS.drew
  refine ZaG ?_
  refine ZaG ?_
  refine Za1 ?_
  refine Zp ?_
  refine Qa (Qb2 rfl (Lib.run_unsafeSliceData_row _ _ _ _ _ _ Ya)) rfl ?_
  refine QaP hS ?_
  refine Zp ?_
  by_cases hl0 : l = []
  ·subst hl0
   obtain rfl : 0 = ll := hll
   refine Zd8 ?_
   refine QaP hS ?_
   refine Zc0 ?_
   exact ⟨rfl, hS.drop⟩
  ·have hus := Lib.run_unsafeString_row (P := Tryz.prog) w.drew 167 3 9 5 Yc Yc g (bl ++ sp).length (QeY (w := w.drew) hg) l hl0 (by simp at h2 ⊢; omega) Ya ?_
   ·rw [hll] at hus
    replace hS := (St.swap hF.drew).lose (Qjj _ g ll)
    refine Qa (Qc0 rfl rfl hus) rfl ?_
    refine QaP hS ?_
    refine Zc0 ?_
    exact ⟨rfl, hS.drop⟩
   ·intro j x hx
    subst hbl
    have hj : j < l.length := (List.getElem?_eq_some_iff.1 hx).1
    have : (QY l ++ sp)[j]? = some (.int .u8 x.toNat) := by
     rw [List.getElem?_append_left (by simp [QY]; omega)]
     simp [QY, hx]
    rw [← this, ← Qu (w := w.drew) hg j]
    simp only [Addr.add]
    split
    ·rename_i h0; subst h0; rfl
    ·simp
end
theorem QdE {α : Type} (a b : α) (O H : List α) : (a :: b :: (O ++ H)).Perm (b :: (O ++ a :: H)) := (List.Perm.swap b a _).trans (.cons b List.perm_middle.symm)
theorem Qsa {D R : Ts} (h : rng (D.app R)) : rng R := by
 induction D with
 | nil => exact h
 | cons k n s a r _ ih => exact ih h.2.2
theorem Qoh (T : Ts) (v : Value) (w0 : World) (hG : ∀ w', Ext [] w0 w' → Qdb w') (hv : Sl w0 (fun _ => True) v T) (hr : rng T) (hN : T.nodes ≤ 1048576) (hl : (QbG 0 T).length ≤ 1073741824) :
  Calls Tryz.prog 36 #[v] w0 fun e w' => e = .returned (sv (QbG 0 T)) ∧ Below w0.heap.size w0 w' := by
 have hS := St.start w0
 obtain ⟨A, c, rfl, hv⟩ := hv.form
 have hTl := T.length_le
 refine Qh Tryz.func36 rfl Tryz.ntmps36 rfl ?_
 refine ZD ?_
 refine Zc ?_
 refine ZaY ?_
 clear hS
 intro b1 wx1 hS
 refine Zo ?_
 refine Zk ?_
 refine Z6 ?_
 refine Qo 8 (9 :: 10 :: 11 :: 12 :: 5 :: 4 :: 13 :: 14 :: 15 :: 16 :: 17 :: 18 :: 19 :: 20 :: 21 :: []) (fun (R : Ts) v w' => ∃ (D : Ts) (p B : Value) (O : List (Nat × Obj)), T = D.app R ∧ v = .int .i64 (D.length : Nat) ∧ QlY b1 p ∧ Buf (QbG 0 D) B O ∧ St [] w0 ((b1, Qtl p B) :: (O ++ [])) [] w') (fun R => R.length) (T) ?_ Yb ?_
 ·exact ⟨.nil, _, _, [], rfl, rfl, .inl rfl, Row.nil_, hS⟩
 clear hS
 rintro R _ w2 jv ⟨D, p, B, O, hD, rfl, hp, hB, hS⟩ ih
 have hlD : T.length = D.length + R.length := by rw [hD, Ts.length_app]
 cases R with
 | nil =>
  rw [Ts.app_nil] at hD
  subst hD
  simp only [Ts.length] at hlD
  refine ZI ?_
  refine Zc ?_
  refine Zj ?_
  refine Calls.mono (Qme p B (QbG 0 T) O _ hB Ya hS) ?_
  rintro _ w3 ⟨rfl, hS'⟩
  refine Za ?_
  replace hS := hS'
  clear hS'
  refine Zg ?_
  refine Qc Tryz.func36 rfl Yb ?_
  exact ⟨rfl, hS.ext.below⟩
 | cons k n s a R =>
  obtain ⟨s, rfl⟩ := Qs3 s
  simp only [Ts.length] at hlD
  obtain ⟨b5, o5, rfl, hsq⟩ := Sl.at_ (D := D) (R := .cons k n ⟨s.toArray⟩ a R) (by rw [← hD]; exact hv) (by simp [Ts.length])
  obtain ⟨_, p0, p1, p2, ⟨v', p3, hsl⟩, _⟩ := QaQ.1 hsq
  obtain ⟨A6, c6, rfl, hsl⟩ := hsl.form
  have hrr : rng (.cons k n ⟨s.toArray⟩ a R) := Qsa (D := D) (by rw [← hD]; exact hr)
  have hnod : T.nodes = D.nodes + (Ts.cons k n ⟨s.toArray⟩ a R).nodes := by rw [hD, Ts.nodes_app]
  simp only [Ts.nodes] at hnod
  have hvl : (QbG 0 T).length = (QbG 0 D).length + (QbG (0 + D.length) (.cons k n ⟨s.toArray⟩ a R)).length := by rw [hD, Qjz, List.length_append]
  simp only [QbG, List.length_append, List.length_cons, List.length_nil, Nat.zero_add] at hvl
  have hbyte : (Value.int .u8 32) = .int .u8 ((32 : UInt8).toNat : Nat) := rfl
  have hbyte2 : (Value.int .u8 61) = .int .u8 ((61 : UInt8).toNat : Nat) := rfl
  refine Z7 ?_
  refine ZaL ?_
  refine ZcE ?_
  refine Z1 ?_
  clear hS
  intro b2 wx2 hS
  refine ZbB ?_
  clear hS
  intro wx3 hS
  refine ZaV ?_
  refine Zf ?_
  refine Calls.mono (Qek p B (QbG 0 D) 32 O _ hp hB Ya (hS.perm (QdE _ _ _ _))) ?_
  rintro _ w3 ⟨B3, O3, rfl, hB3, hS'⟩
  refine Za ?_
  replace hS := hS'
  clear hS'
  replace hS := hS.perm (QdE _ _ _ _).symm
  refine Zb ?_
  refine Z9 ?_
  refine Calls.mono (Qte (D.length : Nat) _ Ya (hG _ hS.ext)) ?_
  rintro _ w4 ⟨rfl, hb4⟩
  refine Za ?_
  replace hS := hS.grow hb4
  refine Zf ?_
  refine Calls.mono (Qdc _ B3 (QbG 0 D ++ [32]) (Lib.itoa (D.length : Nat)) O3 _ (.inr rfl) hB3 Yj (hS.perm (QdE _ _ _ _))) ?_
  rintro _ w5 ⟨B5, O5, rfl, hB5, hS'⟩
  refine Za ?_
  replace hS := hS'
  clear hS'
  replace hS := hS.perm (QdE _ _ _ _).symm
  refine ZaV ?_
  refine Zf ?_
  refine Calls.mono (Qek _ B5 ((QbG 0 D ++ [32]) ++ Lib.itoa (D.length : Nat)) 61 O5 _ (.inr rfl) hB5 Yj (hS.perm (QdE _ _ _ _))) ?_
  rintro _ w6 ⟨B6, O6, rfl, hB6, hS'⟩
  refine Za ?_
  replace hS := hS'
  clear hS'
  replace hS := hS.perm (QdE _ _ _ _).symm
  refine Zb ?_
  refine Zaz ?_
  refine ZcE ?_
  refine Zj ?_
  refine Calls.mono (Qp2 k n s a _ w6 (fun w' h => hG w' (hS.ext.trans h)) (hsl.below hS.ext.below) hrr.1 hrr.2.1 Ya Ya) ?_
  rintro _ w7 ⟨rfl, hb7⟩
  refine Za ?_
  replace hS := hS.grow hb7
  refine Zf ?_
  refine Calls.mono (Qdc _ B6 ((QbG 0 D ++ [32]) ++ Lib.itoa (D.length : Nat) ++ [61]) (QgH false (.cons k n ⟨s.toArray⟩ a .nil)) O6 _ (.inr rfl) hB6 Yj (hS.perm (QdE _ _ _ _))) ?_
  rintro _ w8 ⟨B8, O8, rfl, hB8, hS'⟩
  refine Za ?_
  replace hS := hS'
  clear hS'
  replace hS := (hS.perm (QdE _ _ _ _).symm).drop
  refine Zak ?_
  refine ih (R) _ _ _ ?_ ?_ Yb Yc
  ·simp [Ts.length]
  ·refine ⟨D.app (.cons k n ⟨s.toArray⟩ a .nil), _, B8, O8, by rw [Ts.app_assoc]; exact hD, by rw [Ts.length_app]; simp [Ts.length], .inr rfl, ?_, hS⟩
   rw [Qjz, Nat.zero_add, QrR]
   simpa using hB8
section
variable {P : Program} {n : Nat} {e : Env} {w : World} {ty : TypeId} {pos : String} {after : Array Edge} {x y : Operand} {dst : Option Nat} {t : TypeId} {b o : Nat}
def Qtf (P : Program) (t : TypeId) : Option (Nat × TypeId) := match P.underlying t with | some (.array n el) => some (n, el) | _ => none
theorem QkO {el sz len : Nat} {i : Int} (hx : ev n e x = .pointer (some ⟨b, o, none⟩)) (hy : ev n e y = .int .i64 i) (hT : Qtf P t = some (len, el)) (hs : QaB P el = some sz) (h0 : 0 ≤ i) (h1 : i < len) :
  (execOp (ev n e) ⟨dst, .indexAddr t x y, ty, pos, after, none⟩).run P w = .ok (.value (.pointer (some ⟨b, o + i.toNat * sz, none⟩))) w := by
 have hu : P.underlying t = some (.array len el) := by
  unfold Qtf at hT
  split at hT
  ·rename_i h; simp only [Option.some.injEq, Prod.mk.injEq] at hT; rw [h, hT.1, hT.2]
  ·cases hT
 have h2 := run_underlying hu w
 have h3 := Qac (w := w) hs
 simp only [execOp, Instr.indexAt, Instr.sureAddr, hx, hy, asIntOf, bind, pure, Sem.bind]
 rw [Sem.run_bind', Sem.run_bind', h2]
 simp only [Result.andThen_ok, Sem.bind]
 rw [Sem.run_bind', h2]
 simp only [Result.andThen_ok, if_pos (And.intro h0 h1)]
 rw [Sem.run_bind', h3]
 simp only [Result.andThen_ok, Qaa, Sem.run]
end
end Go.Proofs.YthliapbflkfdiacGreatDoor
