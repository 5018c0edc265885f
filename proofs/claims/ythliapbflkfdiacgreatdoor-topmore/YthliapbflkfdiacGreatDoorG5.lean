/- Steps of the proof. -/
import Derived.Test.YthliapbflkfdiacGreatDoorG4
import Derived.Lib.ItoaLen
namespace Go.Proofs.YthliapbflkfdiacGreatDoor
open Go.RowKit Go.Shelf
set_option linter.unusedVariables false
set_option linter.unusedSimpArgs false
set_option maxRecDepth 100000
set_option maxHeartbeats 1000000
def QcC (n : Int) : Str := if n < 0 ∨ 25 < n then [90, 122] else [UInt8.ofNat (65 + n.toNat)]
def QaE (k n : Int) (s : Str) : Str := if k = 0 then QcC n else if k = 2 then Lib.itoa n else if k = 1 ∨ k = 3 then s else []
theorem Qo5 (n : Int) (h0 : 0 ≤ n) (h1 : n ≤ 25) : Value.string (Utf8.encode (IntKind.i32.wrap (65 + n))) = sv (QcC n) := by
 obtain ⟨m, rfl⟩ : ∃ m : Nat, n = m := ⟨n.toNat, by omega⟩
 have h : ∀ i : Fin 26, Utf8.encode (IntKind.i32.wrap (65 + ((i.val : Nat) : Int))) = ⟨(QcC (i.val : Nat)).toArray⟩ := by decide +kernel
 rw [h ⟨m, by omega⟩]
section
variable {M : List Nat} {w0 : World} {H : List (Nat × Obj)} {F : List (World → Prop)} {b : Nat}
theorem QoW (n : Int) (w : World) (hn : -9223372036854775808 ≤ n ∧ n ≤ 9223372036854775807) : Calls Tryz.prog 203 #[.int .i64 n] w fun e w' => e = .returned (sv (QcC n)) ∧ w' = w := by
 by_cases h0 : n < 0
 ·have e1 : QcC n = [90, 122] := by simp [QcC, h0]
  rw [e1]
  refine Qh Tryz.func203 rfl Tryz.ntmps203 rfl ?_
  refine ZD ?_
  refine Zr ?_
  refine Zaq ?_
  refine Zbc ?_
  refine ZeU ?_
  exact ⟨rfl, rfl⟩
 ·by_cases h1 : n > 25
  ·have e1 : QcC n = [90, 122] := by simp [QcC]; omega
   rw [e1]
   refine Qh Tryz.func203 rfl Tryz.ntmps203 rfl ?_
   refine ZD ?_
   refine ZaM ?_
   refine ZP ?_
   refine Zbc ?_
   refine ZeU ?_
   exact ⟨rfl, rfl⟩
  ·refine Qh Tryz.func203 rfl Tryz.ntmps203 rfl ?_
   refine ZD ?_
   refine ZaM ?_
   refine ZP ?_
   refine Z8 ?_
   refine Zm ?_
   refine Zz ?_
   first
    | refine Qa (Qey rfl rfl rfl) rfl ?_
    | refine Qa (rfl) rfl ?_
   first
    | refine Qa (Qey rfl rfl rfl) rfl ?_
    | refine Qa (rfl) rfl ?_
   refine Zc ?_
   refine ZeU ?_
   exact ⟨by rw [Qo5 n Ya Ya], rfl⟩
def Qu4 (n : Int) (w : World) : Prop := Calls Tryz.prog 67 #[.int .i64 n] w fun e w' => e = .returned (sv (Lib.itoa n)) ∧ Below w.heap.size w w'
theorem Qtn (n : Int) (w : World) (hn : -9223372036854775808 ≤ n ∧ n ≤ 9223372036854775807) (g : QcZ w) : Qu4 n w := by
 refine Calls.mono (Any.strconv_Itoa Tryz.laysM171 n hn.1 hn.2 w g.tab) ?_
 rintro e w'' ⟨rfl, k, os, rfl⟩
 exact ⟨rfl, Qjh _ _ _⟩
theorem QqS (k n : Int) (s : Str) (v : Value) (w : World) (hn : -9223372036854775808 ≤ n ∧ n ≤ 9223372036854775807) (hG : ∀ w', Ext M w0 w' → QcZ w') (hS : St M w0 H F w) :
  Calls Tryz.prog 166 #[.agg #[.int .i64 k, .int .i64 n, sv s, v]] w fun e w' => e = .returned (sv (QaE k n s)) ∧ St M w0 H F w' := by
 by_cases h0 : k = 0
 ·subst h0
  rw [show QaE 0 n s = QcC n by simp [QaE]]
  refine ZdE ?_
  refine Zi ?_
  clear hS
  intro b1 wx1 hS
  refine ZcV ?_
  refine Zb1 ?_
  refine Zk ?_
  refine Calls.mono (QoW n _ hn) ?_
  rintro _ w1 ⟨rfl, rfl⟩
  refine ZH ?_
  refine ZdF ?_
  exact ⟨rfl, hS.drop⟩
 by_cases h2 : k = 2
 ·subst h2
  rw [show QaE 2 n s = Lib.itoa n by simp [QaE]]
  refine ZdE ?_
  refine Zi ?_
  clear hS
  intro b1 wx1 hS
  refine ZdY ?_
  refine Zb1 ?_
  refine Zk ?_
  refine Calls.mono (Qtn n _ hn (hG _ hS.ext)) ?_
  rintro _ w1 ⟨rfl, hb1⟩
  refine Za ?_
  replace hS := hS.grow hb1
  refine Zc ?_
  refine ZdF ?_
  exact ⟨rfl, hS.drop⟩
 by_cases h1 : k = 1
 ·subst h1
  rw [show QaE 1 n s = s by simp [QaE]]
  refine ZdE ?_
  refine Zi ?_
  clear hS
  intro b1 wx1 hS
  refine ZcX ?_
  refine Zu ?_
  refine ZcU ?_
  refine Zag ?_
  refine ZI ?_
  refine Zg ?_
  refine Zby ?_
  refine Zc ?_
  refine ZdF ?_
  exact ⟨rfl, hS.drop⟩
 by_cases h3 : k = 3
 ·subst h3
  rw [show QaE 3 n s = s by simp [QaE]]
  refine ZdE ?_
  refine Zi ?_
  clear hS
  intro b1 wx1 hS
  refine ZcX ?_
  refine Zu ?_
  refine Zar ?_
  refine Zbe ?_
  refine Zci ?_
  refine ZI ?_
  refine Zg ?_
  refine Zby ?_
  refine Zc ?_
  refine ZdF ?_
  exact ⟨rfl, hS.drop⟩
 rw [show QaE k n s = [] by simp [QaE, h0, h1, h2, h3]]
 refine ZdE ?_
 refine Zi ?_
 clear hS
 intro b1 wx1 hS
 refine ZcX ?_
 refine Zu ?_
 refine Zar ?_
 refine Zbe ?_
 refine Zci ?_
 refine ZR ?_
 refine ZbD ?_
 refine Zj ?_
 refine ZdF ?_
 exact ⟨rfl, hS.drop⟩
structure Lv where
 v : Value
 T : Ts
 i : Nat
def lvs (L : List Lv) : List Value := L.flatMap fun x => [x.v, .int .i64 (x.i : Nat)]
theorem QmF (L L' : List Lv) : lvs (L ++ L') = lvs L ++ lvs L' := by simp [lvs]
theorem QqG (L : List Lv) : (lvs L).length = L.length * 2 := by
 induction L with
 | nil => rfl
 | cons x L ih => simp [lvs] at ih ⊢; omega
abbrev Opn (L : List Lv) (V : Value) (O : List (Nat × Obj)) : Prop := Row 227 2 V L.length (lvs L) O
def QcM (k : Int) (T : Ts) : Bool := Qh1 k && decide (0 < T.length)
theorem Qib (p B V : Value) (l s : Str) (k n : Int) (T : Ts) (L : List Lv) (O O2 : List (Nat × Obj)) (v : Value) (w : World) (hp : Ql6 b p) (hB : Buf l B O) (hV : Opn L V O2) (hn : -9223372036854775808 ≤ n ∧ n ≤ 9223372036854775807)
  (hG : ∀ w', Ext M w0 w' → QcZ w') (hv : Sl w (fun _ => True) v T) (hl : l.length + (QaE k n s).length + 1 ≤ 1099511627776) (hL : L.length + 1 ≤ 1099511627776) (hS : St M w0 ((b, prn p B V) :: (O ++ (O2 ++ H))) F w) :
  Calls Tryz.prog 109 #[QeM b, .agg #[.int .i64 k, .int .i64 n, sv s, v]] w fun e w' => ∃ B' V' O' O2', e = .returned (.tuple #[]) ∧ Buf (l ++ QaE k n s ++ if QcM k T then [40] else []) B' O' ∧ Opn (if QcM k T then L ++ [⟨v, T, 0⟩] else L) V' O2' ∧
   St M w0 ((b, prn (QeM b) B' V') :: (O' ++ (O2' ++ H))) F w' := by
 obtain ⟨A, c, rfl, _⟩ := hv.form
 clear hv
 obtain ⟨A2, c2, rfl⟩ := hV.form
 obtain ⟨A1, c1, rfl⟩ := hB.form
 refine Qg Tryz.func109 rfl Tryz.ntmps109 rfl ?_
 refine Zi ?_
 clear hS
 intro b1 wx1 hS
 refine ZK ?_
 refine QB (St _ w0 [_] _) 6 ((0, true) :: (1, true) :: (2, true) :: (3, true) :: (4, false) :: (5, false) :: []) Yc Yc (hS.drew.only1) ?_
 replace hS := hS.drew
 refine ZaC ?_
 refine Zec ?_
 refine Zp ?_
 refine Zk ?_
 refine Calls.mono (QqS k n s _ _ hn hG hS) ?_
 rintro _ w1 ⟨rfl, hS'⟩
 refine Za ?_
 replace hS := hS'
 clear hS'
 refine Zed ?_
 refine Zp ?_
 refine Zf ?_
 refine Calls.mono (Qg2 p _ _ l _ O A2 _ c2 rfl _ hp hB Ya hS.sink1) ?_
 rintro _ w2 ⟨B', O', rfl, hB', hS'⟩
 refine Za ?_
 replace hS := hS'
 clear hS'
 replace hS := hS.raise1
 refine Zed ?_
 refine ZeJ ?_
 refine Zg ?_
 refine ZcG ?_
 refine Zk ?_
 refine Calls.mono (Qkf k n ⟨s.toArray⟩ _ _) ?_
 rintro _ w3 ⟨rfl, hb3⟩
 refine Za ?_
 replace hS := hS.grow hb3
 refine Ze ?_
 generalize hg : Qh1 k = g
 cases g with
 | false =>
  have e1 : QcM k T = false := by simp [QcM, hg]
  refine ZY ?_
  refine ZY ?_
  refine Z8 ?_
  refine QD Tryz.func109 rfl ?_
  exact ⟨_, _, O', O2, rfl, by rw [e1, if_neg Yd, List.append_nil]; exact hB', by rw [e1, if_neg Yd]; exact hV, hS.drop⟩
 | true =>
  by_cases hT : 0 < T.length
  ·have e1 : QcM k T = true := by simp [QcM, hg, hT]
   refine Zv ?_
   refine ZaQ ?_
   refine Zbx ?_
   refine Zb6 ?_
   refine ZaK ?_
   refine Zak ?_
   refine Zf ?_
   refine Calls.mono (Qc0 (QeM b) _ _ _ 40 O' A2 _ c2 rfl _ (.inr rfl) hB' Yh hS.sink1) ?_
   rintro _ w4 ⟨B2, O3, rfl, hB2, hS'⟩
   refine Za ?_
   replace hS := hS'
   clear hS'
   replace hS := hS.raise1
   refine Zb ?_
   refine QB (St _ w0 [_, _] _) 12 ((0, true) :: (1, true) :: (2, true) :: (3, true) :: (4, true) :: (5, true) :: (6, true) :: (7, true) :: (8, false) :: (9, false) :: (10, true) :: (11, true) :: []) Yc Yc (hS.drew.only2) ?_
   replace hS := hS.drew
   refine Zcv ?_
   refine ZbR ?_
   refine ZB ?_
   refine ZeQ ?_
   refine ZB ?_
   refine Qd rfl (fun _ hS => QN (cells := [_, _]) (.cons Yb .nil) rfl) rfl ?_
   refine Zp ?_
   refine ZeV ?_
   clear hS
   intro b2 wx2 hS
   refine ZfB ?_
   refine Zp ?_
   refine Qa8 (sz := 2) (bts := 32) hS Yb rfl rfl rfl rfl (hV) rfl rfl (.cons _ (List.perm_append_comm_assoc (_ :: _ :: O3) O2 H)) Ya Ya rfl ?_
   clear hS
   intro V2 O4 w5 hV2 hS
   replace hS := hS.perm (List.perm_append_comm_assoc O4 (_ :: _ :: O3) H)
   obtain ⟨A3, c3, rfl⟩ := hV2.form
   refine ZfB ?_
   refine ZaO ?_
   refine ZbR ?_
   refine ZbE ?_
   clear hS
   intro wx3 hS
   refine Zb ?_
   refine QD Tryz.func109 rfl ?_
   exact ⟨_, _, O3, O4, rfl, by rw [e1, if_pos rfl]; exact hB2, by rw [e1, if_pos rfl]; show Row _ _ _ (L ++ [_]).length (lvs (L ++ [_])) _; rw [List.length_append, QmF]; exact hV2, hS.drop⟩
  ·have e1 : QcM k T = false := by simp [QcM, hT]
   refine Zv ?_
   refine ZaQ ?_
   refine Zbx ?_
   refine Zb6 ?_
   refine Z8 ?_
   refine QD Tryz.func109 rfl ?_
   exact ⟨_, _, O', O2, rfl, by rw [e1, if_neg Yd, List.append_nil]; exact hB', by rw [e1, if_neg Yd]; exact hV, hS.drop⟩
theorem QqH (L0 : List Lv) : 0 + ((((L0.length + 1 : Nat) : Int)) - 1).toNat * 2 = (lvs L0).length := by rw [QqG]; omega
theorem Qy {g : Nat} {ct : TypeId} {w : World} {L0 : List Lv} {v i : Value} {sp : List Value} (hS : St M w0 ((g, .cells (lvs L0 ++ v :: i :: sp).toArray ct) :: H) F w) : w.cell? ⟨g, 0 + ((((L0.length + 1 : Nat) : Int)) - 1).toNat * 2, none⟩ = some v := by
 rw [QqH, Qu (hS.at_ .head)]
 simp
theorem Qx {g : Nat} {ct : TypeId} {w : World} {L0 : List Lv} {v i : Value} {sp : List Value} (hS : St M w0 ((g, .cells (lvs L0 ++ v :: i :: sp).toArray ct) :: H) F w) : w.cell? ⟨g, 0 + ((((L0.length + 1 : Nat) : Int)) - 1).toNat * 2 + 1, none⟩ = some i := by
 rw [QqH, Qu (hS.at_ .head)]
 simp
theorem Put.at_ {i v u : Value} {sp : List Value} : ∀ (l : List Value), Put (l ++ v :: i :: sp) (l.length + 1) u (l ++ v :: u :: sp)
 | [] => .s .z
 | x :: l => .s (Put.at_ l)
theorem Qtg {v i u : Value} {sp : List Value} (L0 : List Lv) : Put (lvs L0 ++ v :: i :: sp) (0 + ((((L0.length + 1 : Nat) : Int)) - 1).toNat * 2 + 1) u (lvs L0 ++ v :: u :: sp) := by
 rw [QqH]; exact Put.at_ _
theorem Opn.top {L0 : List Lv} {v V : Value} {T : Ts} {i : Nat} {O2 : List (Nat × Obj)} (h : Opn (L0 ++ [⟨v, T, i⟩]) V O2) : ∃ g cap sp, V = .slice (some ⟨g, 0, none⟩) (L0.length + 1) cap ∧ O2 = [(g, .cells (lvs L0 ++ v :: .int .i64 (i : Nat) :: sp).toArray 227)] ∧ L0.length + 1 ≤ cap ∧
  (∀ j : Nat, Opn (L0 ++ [⟨v, T, j⟩]) V [(g, .cells (lvs L0 ++ v :: .int .i64 (j : Nat) :: sp).toArray 227)]) ∧ Opn L0 (.slice (some ⟨g, 0, none⟩) L0.length cap) O2 := by
 have h' : Row 227 2 V (L0.length + 1) (lvs L0 ++ [v, .int .i64 (i : Nat)]) O2 := by
  have := h; unfold Opn at this; rw [List.length_append, QmF] at this; exact this
 clear h
 generalize hn : L0.length + 1 = nn at h'
 generalize hx : lvs L0 ++ [v, .int .i64 (i : Nat)] = xs at h'
 cases h' with
 | nil_ => omega
 | own_ h1 h2 h3 h4 =>
  rename_i g cap sp
  subst hx
  have hl := QqG L0
  refine ⟨g, cap, sp, by first | rfl | rw [hn], by simp, h3, fun j => ?_, ?_⟩
  ·have : Row 227 2 (.slice (some ⟨g, 0, none⟩) nn cap) nn (lvs L0 ++ [v, .int .i64 (j : Nat)]) [(g, .cells ((lvs L0 ++ [v, .int .i64 (j : Nat)]) ++ sp).toArray 227)] := .own_ Yh (by simp at h2 ⊢; omega) h3 h4
   show Row _ _ _ (L0 ++ [_]).length (lvs (L0 ++ [_])) _
   rw [List.length_append, QmF, show L0.length + [Lv.mk v T j].length = nn from hn]
   simpa [lvs] using this
  ·have : Row 227 2 (.slice (some ⟨g, 0, none⟩) L0.length cap) L0.length (lvs L0) [(g, .cells (lvs L0 ++ (v :: .int .i64 (i : Nat) :: sp)).toArray 227)] := .own_ hl (by simp at h2 ⊢; omega) Ya h4
   simpa using this
theorem Qov (B V v : Value) (l : Str) (T : Ts) (L0 : List Lv) (O O2 : List (Nat × Obj)) (A : Option Addr) (c : Nat) (w : World) (hB : Buf l B O) (hV : Opn (L0 ++ [⟨v, T, T.length⟩]) V O2) (hv : v = .slice A T.length c) (hl : l.length + 1 ≤ 1099511627776) (hL : L0.length + 1 ≤ 1099511627776)
  (hS : St M w0 ((b, prn (QeM b) B V) :: (O ++ (O2 ++ H))) F w) :
  Calls Tryz.prog 110 #[QeM b] w fun e w' => ∃ B' V' O', e = .returned (.tuple #[]) ∧ Buf (l ++ [41]) B' O' ∧ Opn L0 V' O2 ∧ St M w0 ((b, prn (QeM b) B' V') :: (O' ++ (O2 ++ H))) F w' := by
 subst hv
 obtain ⟨g, cap, sp, rfl, rfl, hcap, _, hV0⟩ := hV.top
 obtain ⟨A1, c1, rfl⟩ := hB.form
 replace hS := St.raise1 hS
 refine Qh Tryz.func110 rfl Tryz.ntmps110 rfl ?_
 refine ZaE ?_
 refine Zb7 ?_
 refine Zc ?_
 refine ZaE ?_
 refine Ze ?_
 refine Zee ?_
 refine Zd0 ?_
 refine ZeW ?_
 replace hS := hS.drew
 refine ZaL ?_
 refine ZaC ?_
 refine ZB ?_
 refine ZaJ ?_
 refine ZdG ?_
 refine ZJ ?_
 refine ZC ?_
 refine Zak ?_
 refine Zf ?_
 refine Calls.mono (Qc0 (QeM b) _ _ l 41 O _ _ _ rfl _ (.inr rfl) hB Ya hS.sink1) ?_
 rintro _ w4 ⟨B2, O3, rfl, hB2, hS'⟩
 refine Za ?_
 replace hS := hS'
 clear hS'
 replace hS := hS.raise1
 refine ZbC ?_
 refine Zc7 ?_
 refine Ze ?_
 refine Qa (QM (sz := 2) rfl rfl rfl rfl Ya Ya) rfl ?_
 refine ZbG ?_
 refine Zt ?_
 clear hS
 intro wx1 hS
 refine Zb ?_
 refine QlF Tryz.func110 rfl  ?_
 rw [show ((((L0.length + 1 : Nat) : Int)) - 1).toNat = L0.length by omega] at hS
 exact ⟨_, _, O3, rfl, hB2, hV0, hS.sink1⟩
theorem QpU (B V v : Value) (l : Str) (k n : Int) (s : Str) (D a r : Ts) (L0 : List Lv) (O O2 : List (Nat × Obj)) (w : World) (hB : Buf l B O) (hV : Opn (L0 ++ [⟨v, D.app (.cons k n ⟨s.toArray⟩ a r), D.length⟩]) V O2) (hv : Sl w0 (fun _ => True) v (D.app (.cons k n ⟨s.toArray⟩ a r)))
  (hn : -9223372036854775808 ≤ n ∧ n ≤ 9223372036854775807) (hG : ∀ w', Ext [] w0 w' → QcZ w') (hl : l.length + (QaE k n s).length + 2 ≤ 1099511627776) (hL : L0.length + 2 ≤ 1099511627776) (hD : D.length + 1 ≤ 1099511627776)
  (hS : St [] w0 ((b, prn (QeM b) B V) :: (O ++ (O2 ++ H))) F w) :
  Calls Tryz.prog 110 #[QeM b] w fun e w' => ∃ va B' V' O' O2', e = .returned (.tuple #[]) ∧ Sl w0 (fun _ => True) va a ∧ Buf (l ++ (if 0 < D.length then [44] else []) ++ QaE k n s ++ if QcM k a then [40] else []) B' O' ∧
   Opn (if QcM k a then (L0 ++ [⟨v, D.app (.cons k n ⟨s.toArray⟩ a r), D.length + 1⟩]) ++ [⟨va, a, 0⟩] else L0 ++ [⟨v, D.app (.cons k n ⟨s.toArray⟩ a r), D.length + 1⟩]) V' O2' ∧ St [] w0 ((b, prn (QeM b) B' V') :: (O' ++ (O2' ++ H))) F w' := by
 obtain ⟨A, c, rfl, hv⟩ := hv.form
 obtain ⟨bb, o, rfl, hseg⟩ := Sl.at_ hv (by simp [Ts.length])
 obtain ⟨_, q0, q1, q2, ⟨va, q3, hva⟩, _⟩ := QaT.1 hseg
 have hlen : (D.app (.cons k n ⟨s.toArray⟩ a r)).length = D.length + (r.length + 1) := by rw [Ts.length_app]; rfl
 rw [show o + D.length * 4 = o + (((D.length : Nat) : Int) + 1 - 1).toNat * 4 by omega] at q0 q1 q2 q3
 obtain ⟨g, cap, sp, rfl, rfl, hcap, hup, _⟩ := hV.top
 obtain ⟨A1, c1, rfl⟩ := hB.form
 replace hS := St.raise1 hS
 by_cases hD0 : 0 < D.length
 ·rw [if_pos hD0]
  refine Qh Tryz.func110 rfl Tryz.ntmps110 rfl ?_
  refine ZaE ?_
  refine Zb7 ?_
  refine Zc ?_
  refine ZaE ?_
  refine Ze ?_
  refine Zee ?_
  refine Zd0 ?_
  refine ZeW ?_
  replace hS := hS.drew
  refine ZaL ?_
  refine ZaC ?_
  refine ZB ?_
  refine ZaJ ?_
  refine ZdG ?_
  refine ZJ ?_
  refine Zab ?_
  refine Za8 ?_
  refine Zo ?_
  refine ZP ?_
  refine ZbF ?_
  refine Zal ?_
  refine Zf ?_
  refine Calls.mono (Qc0 (QeM b) _ _ l 44 O _ _ _ rfl _ (.inr rfl) hB Ya hS.sink1) ?_
  rintro _ w4 ⟨B2, O3, rfl, hB2, hS'⟩
  refine Za ?_
  replace hS := hS'
  clear hS'
  replace hS := hS.raise1
  obtain ⟨A2, c2, rfl⟩ := hB2.form
  refine Zb ?_
  refine ZZ ?_
  refine ZE ?_
  refine Zo ?_
  refine Zz ?_
  refine Za8 ?_
  refine Q8 hS rfl Yb rfl rfl .head (Qtg L0) .head ?_
  clear hS
  intro w5 hS
  refine Zb ?_
  refine ZfC ?_
  replace hS := hS.drew
  refine ZT ?_
  refine ZaC ?_
  refine ZB ?_
  refine ZaL ?_
  refine Zef ?_
  refine Zeg ?_
  refine Zec ?_
  refine ZJ ?_
  refine Zf ?_
  refine Calls.mono (Qib (QeM b) _ _ _ s k n a _ O3 _ va _ (.inr rfl) hB2 (hup (D.length + 1)) hn hG (hva.below hS.ext.below) Yh Yh hS.sink1) ?_
  rintro _ w6 ⟨B3, V3, O4, O5, rfl, hB3, hV3, hS'⟩
  refine Za ?_
  replace hS := hS'
  clear hS'
  refine Zb ?_
  refine QD Tryz.func110 rfl ?_
  refine ⟨va, B3, V3, O4, O5, rfl, hva, ?_, hV3, hS⟩
  exact hB3
 ·rw [if_neg hD0, List.append_nil]
  refine Qh Tryz.func110 rfl Tryz.ntmps110 rfl ?_
  refine ZaE ?_
  refine Zb7 ?_
  refine Zc ?_
  refine ZaE ?_
  refine Ze ?_
  refine Zee ?_
  refine Zd0 ?_
  refine ZeW ?_
  replace hS := hS.drew
  refine ZaL ?_
  refine ZaC ?_
  refine ZB ?_
  refine ZaJ ?_
  refine ZdG ?_
  refine ZJ ?_
  refine Zab ?_
  refine Za8 ?_
  refine Zo ?_
  refine ZP ?_
  refine Zq ?_
  refine ZZ ?_
  refine ZE ?_
  refine Zo ?_
  refine Zz ?_
  refine Za8 ?_
  refine Q8 hS rfl Yb rfl rfl .head (Qtg L0) .head ?_
  clear hS
  intro w5 hS
  refine Zb ?_
  refine ZfC ?_
  replace hS := hS.drew
  refine ZT ?_
  refine ZaC ?_
  refine ZB ?_
  refine ZaL ?_
  refine Zef ?_
  refine Zeg ?_
  refine Zec ?_
  refine ZJ ?_
  refine Zf ?_
  refine Calls.mono (Qib (QeM b) _ _ _ s k n a _ O _ va _ (.inr rfl) hB (hup (D.length + 1)) hn hG (hva.below hS.ext.below) Yh Yh hS.sink1) ?_
  rintro _ w6 ⟨B3, V3, O4, O5, rfl, hB3, hV3, hS'⟩
  refine Za ?_
  replace hS := hS'
  clear hS'
  refine Zb ?_
  refine QD Tryz.func110 rfl ?_
  refine ⟨va, B3, V3, O4, O5, rfl, hva, ?_, hV3, hS⟩
  exact hB3
end
def QgO (c : Bool) : Ts → Str
 | .nil => []
 | .cons k n s a r => (if c then [44] else []) ++ QaE k n s.data.toList ++ (if QcM k a then 40 :: (QgO false a ++ [41]) else []) ++ QgO true r
def rng : Ts → Prop
 | .nil => True
 | .cons k n s a r => (-9223372036854775808 ≤ n ∧ n ≤ 9223372036854775807) ∧ rng a ∧ rng r
abbrev Lw := Value × Ts × Ts
def lev : List Lw → List Lv
 | [] => []
 | (v, D, R) :: K => lev K ++ [⟨v, D.app R, D.length⟩]
def QbX : List Lw → Str
 | [] => []
 | (v, D, R) :: K => QgO (decide (0 < D.length)) R ++ 41 :: QbX K
def work : List Lw → Nat
 | [] => 0
 | (v, D, R) :: K => 1 + 2 * R.nodes + work K
theorem QqP : ∀ K : List Lw, (lev K).length ≤ (QbX K).length
 | [] => Nat.le_refl _
 | (v, D, R) :: K => by have := QqP K; simp [lev, QbX]; omega
theorem Qs2 (D : Ts) (k n : Int) (s : ByteArray) (a : Ts) : (D.app (.cons k n s a .nil)).length = D.length + 1 := by rw [Ts.length_app]; rfl
def Qu1 (w0 : World) (N : Nat) (x : Lw) : Prop := Sl w0 (fun _ => True) x.1 (x.2.1.app x.2.2) ∧ (x.2.1.app x.2.2).nodes ≤ N ∧ rng x.2.2
theorem Qqf (k n : Int) (s : Str) (a : Ts) (v : Value) (w0 : World) (hG : ∀ w', Ext [] w0 w' → QcZ w') (hv : Sl w0 (fun _ => True) v a) (hn : -9223372036854775808 ≤ n ∧ n ≤ 9223372036854775807) (hr : rng a) (hN : a.nodes ≤ 1048576)
  (hlen : (QgO false (.cons k n ⟨s.toArray⟩ a .nil)).length ≤ 1073741824) :
  Calls Tryz.prog 68 #[.agg #[.int .i64 k, .int .i64 n, sv s, v]] w0 fun e w' => e = .returned (sv (QgO false (.cons k n ⟨s.toArray⟩ a .nil))) ∧ Below w0.heap.size w0 w' := by
 have hS := St.start w0
 have e0 : QgO false (.cons k n ⟨s.toArray⟩ a .nil) = QaE k n s ++ if QcM k a then 40 :: (QgO false a ++ [41]) else [] := by simp [QgO]
 rw [e0] at hlen ⊢
 have hlab : (QaE k n s).length ≤ 1073741824 := by simp at hlen; omega
 obtain ⟨A, c, rfl, hv⟩ := hv.form
 refine Qh Tryz.func68 rfl Tryz.ntmps68 rfl ?_
 refine Zi ?_
 clear hS
 intro b1 wx1 hS
 refine Zcw ?_
 refine Qa (QN (cells := [_, _, _]) .nil rfl) rfl ?_
 refine Zcb ?_
 clear hS
 intro b2 wx2 hS
 refine Z2 ?_
 refine ZcG ?_
 refine Zf ?_
 refine Calls.mono (Qib (.pointer none) _ _ [] s k n a [] [] [] _ _ (.inl rfl) .nil_ .nil_ hn hG (hv.below hS.ext.below) Yh Yd hS) ?_
 rintro _ w1 ⟨B1, V1, O1, O2, rfl, hB1, hV1, hS'⟩
 refine Za ?_
 replace hS := hS'
 clear hS'
 generalize htot : QaE k n s ++ (if QcM k a then 40 :: (QgO false a ++ [41]) else []) = tot at hlen ⊢
 obtain ⟨H, hS⟩ : ∃ H, St [] w0 ((b2, prn (QeM b2) B1 V1) :: (O1 ++ (O2 ++ H))) [] w1 := ⟨_, hS⟩
 refine ZK ?_
 refine ZbQ ?_
 refine Qjn  (9 :: 10 :: 11 :: 12 :: 13 :: 14 :: 15 :: 16 :: []) (fun (x : Str × List Lw) w' => ∃ B V O O2, Buf x.1 B O ∧ Opn (lev x.2) V O2 ∧ St [] w0 ((b2, prn (QeM b2) B V) :: (O ++ (O2 ++ H))) [] w' ∧ x.1 ++ QbX x.2 = tot ∧ ∀ y ∈ x.2, Qu1 w0 a.nodes y) (fun x => work x.2) ((QaE k n s ++ (if QcM k a then [40] else []), if QcM k a then [(.slice A a.length c, .nil, a)] else [])) ?_ ?_
 ·refine ⟨B1, V1, O1, O2, hB1, ?_, hS, ?_, ?_⟩
  ·generalize QcM k a = g at hV1 ⊢
   cases g <;> exact hV1
  ·rw [← htot]
   generalize QcM k a = g
   cases g <;> simp [QbX, Ts.length]
  ·generalize QcM k a = g
   cases g with
   | false => simp
   | true =>
    intro y hy
    obtain rfl : y = _ := by simpa using hy
    exact ⟨hv, Nat.le_refl _, hr⟩
 clear hS hB1 hV1
 rintro ⟨l, K⟩ w2 jv ⟨B, V, O, O2, hB, hV, hS, htl, hK⟩ ih
 simp only at hB hV hS htl hK ih
 obtain ⟨A1, c1, rfl⟩ := hB.form
 cases K with
 | nil =>
  obtain ⟨A2, c2, hVe⟩ := Row.form hV
  obtain rfl : V = .slice A2 0 c2 := hVe
  refine Zw ?_
  refine Zc7 ?_
  refine ZaF ?_
  refine Zbp ?_
  refine Zak ?_
  have hl : l.length ≤ 1099511627776 := by rw [← htl] at hlen; simp at hlen; omega
  refine Zk ?_
  refine Calls.mono (Qou (QeM b2) _ _ l O A2 0 c2 rfl _ hB hl hS) ?_
  rintro _ w3 ⟨rfl, hS'⟩
  refine Za ?_
  replace hS := hS'
  clear hS'
  refine Zc ?_
  refine Qc Tryz.func68 rfl Yb ?_
  exact ⟨by rw [← htl]; simp [QbX], hS.ext.below⟩
 | cons x K =>
  obtain ⟨u, D, R⟩ := x
  have hV' : Opn (lev K ++ [⟨u, D.app R, D.length⟩]) V O2 := hV
  obtain ⟨hu, hN1, hR⟩ := hK (u, D, R) (.head _)
  simp only at hu hN1 hR
  have hlk := QqP K
  have hkl : l.length + ((QgO (decide (0 < D.length)) R).length + (QbX K).length + 1) ≤ 1073741824 := by rw [← htl] at hlen; simp [QbX] at hlen; omega
  have hDn := D.length_le
  rw [Ts.nodes_app] at hN1
  obtain ⟨g, cap, sp, rfl, _, hcap, _⟩ := hV'.top
  cases R with
  | nil =>
   rw [Ts.app_nil] at hV' hu
   obtain ⟨A3, c3, rfl, _⟩ := hu.form
   refine Zw ?_
   refine Zc7 ?_
   refine ZaF ?_
   refine ZC ?_
   refine Zb2 ?_
   refine ZU ?_
   refine Zk ?_
   refine Calls.mono (Qov _ _ _ l D (lev K) O O2 A3 c3 _ hB hV' rfl Ya Ya hS) ?_
   rintro _ w3 ⟨B', V', O', rfl, hB', hV2, hS'⟩
   refine Za ?_
   replace hS := hS'
   clear hS'
   refine Zb ?_
   refine ZaH ?_
   refine ih ((l ++ [41], K)) _ _ ?_ ?_ Yc
   ·simp only [work]; omega
   ·exact ⟨B', V', O', O2, hB', hV2, hS, by rw [← htl]; simp [QbX, QgO], fun y hy => hK y (.tail _ hy)⟩
  | cons k1 n1 s1 a1 r1 =>
   obtain ⟨s1, rfl⟩ := Qtd s1
   refine Zw ?_
   refine Zc7 ?_
   refine ZaF ?_
   refine ZC ?_
   refine Zb2 ?_
   refine ZU ?_
   have hlab1 : (QaE k1 n1 s1).length ≤ (QgO (decide (0 < D.length)) (.cons k1 n1 ⟨s1.toArray⟩ a1 r1)).length := by simp [QgO]; omega
   refine Zk ?_
   refine Calls.mono (QpU _ _ _ l k1 n1 s1 D a1 r1 (lev K) O O2 _ hB hV' hu hR.1 hG Ya Ya Ya hS) ?_
   rintro _ w3 ⟨va, B', V', O', O3, rfl, hva, hB', hV2, hS'⟩
   refine Za ?_
   replace hS := hS'
   clear hS'
   refine Zb ?_
   refine ZaH ?_
   have hD1 : (D.app (.cons k1 n1 ⟨s1.toArray⟩ a1 .nil)).app r1 = D.app (.cons k1 n1 ⟨s1.toArray⟩ a1 r1) := by rw [Ts.app_assoc]; rfl
   have hD2 := Qs2 D k1 n1 ⟨s1.toArray⟩ a1
   generalize D.app (.cons k1 n1 ⟨s1.toArray⟩ a1 .nil) = D1 at hD1 hD2
   have hu1 : Qu1 w0 a.nodes (u, D1, r1) := ⟨by rw [hD1]; exact hu, by show (D1.app r1).nodes ≤ _; rw [hD1, Ts.nodes_app]; exact hN1, hR.2.2⟩
   have hnod : (Ts.cons k1 n1 ⟨s1.toArray⟩ a1 r1).nodes = a1.nodes + r1.nodes + 1 := rfl
   have hL1 : lev ((u, D1, r1) :: K) = lev K ++ [⟨u, D.app (.cons k1 n1 ⟨s1.toArray⟩ a1 r1), D.length + 1⟩] := by simp only [lev]; rw [hD1, hD2]
   have hpos : decide (0 < D1.length) = true := by simp; omega
   generalize hg : QcM k1 a1 = g1 at hV2 hB'
   have htl' : l ++ (QgO (decide (0 < D.length)) (.cons k1 n1 ⟨s1.toArray⟩ a1 r1) ++ 41 :: QbX K) = tot := htl
   cases g1 with
   | true =>
    refine ih ((l ++ (if 0 < D.length then [44] else []) ++ QaE k1 n1 s1 ++ [40], (va, .nil, a1) :: (u, D1, r1) :: K)) _ _ ?_ ?_ Yc
    ·simp only [work, hnod]; omega
    ·refine ⟨B', V', O', O3, hB', ?_, hS, ?_, ?_⟩
     ·show Opn (lev ((u, D1, r1) :: K) ++ [_]) V' O3
      rw [hL1]; exact hV2
     ·rw [← htl']; simp only [QbX, hpos, QgO, hg]; simp [Ts.length]
     ·intro y hy
      rcases List.mem_cons.1 hy with rfl | hy
      ·exact ⟨hva, by show a1.nodes ≤ _; omega, hR.2.1⟩
      rcases List.mem_cons.1 hy with rfl | hy
      ·exact hu1
      ·exact hK y (.tail _ hy)
   | false =>
    refine ih ((l ++ (if 0 < D.length then [44] else []) ++ QaE k1 n1 s1, (u, D1, r1) :: K)) _ _ ?_ ?_ Yc
    ·simp only [work, hnod]; omega
    ·refine ⟨B', V', O', O3, ?_, ?_, hS, ?_, ?_⟩
     ·simpa only [Bool.false_eq_true, if_false, List.append_nil] using hB'
     ·show Opn (lev ((u, D1, r1) :: K)) V' O3
      rw [hL1]; exact hV2
     ·rw [← htl']; simp only [QbX, hpos, QgO, hg]; simp [Ts.length]
     ·intro y hy
      rcases List.mem_cons.1 hy with rfl | hy
      ·exact hu1
      ·exact hK y (.tail _ hy)
def QbU : Nat → Ts → Str
 | _, .nil => []
 | i, .cons k n s a r => (([32] ++ Lib.itoa (i : Nat)) ++ [61]) ++ QgO false (.cons k n s a .nil) ++ QbU (i + 1) r
def Qc1 (k : Int) : Str :=
 if k = 1 then [121, 101, 115] else if k = 2 then [100, 111, 110, 101] else if k = 3 then [102, 117, 101, 108] else if k = 4 then [108, 97, 114, 103, 101] else if k = 5 then [102, 97, 117, 108, 116] else if k = 6 then [101, 110, 111, 117, 103, 104] else []
def QbB (k : Int) (T : Ts) : Str := if k = 1 then [121, 101, 115] ++ QbU 0 T else Qc1 k
theorem QjG : ∀ (i : Nat) (D R : Ts), QbU i (D.app R) = QbU i D ++ QbU (i + D.length) R
 | i, .nil, R => by simp [Ts.app, QbU, Ts.length]
 | i, .cons k n s a r, R => by
  have := QjG (i + 1) r R
  simp only [Ts.app, QbU, this, Ts.length]
  rw [show i + 1 + r.length = i + (r.length + 1) by omega]
  simp
theorem Qr4 (i : Nat) (k n : Int) (s : ByteArray) (a : Ts) : QbU i (.cons k n s a .nil) = (([32] ++ Lib.itoa (i : Nat)) ++ [61]) ++ QgO false (.cons k n s a .nil) := by simp [QbU]
abbrev Qtu (p B : Value) : Obj := .cells [p, B].toArray 118
section
variable {M : List Nat} {w0 : World} {H : List (Nat × Obj)} {F : List (World → Prop)} {b : Nat}
theorem QeA (p : Value) (A : Option Addr) (l c : Nat) (w : World) (hp : Ql6 b p) (hS : St M w0 ((b, Qtu p (.slice A l c)) :: H) F w) :
  Calls Tryz.prog 107 #[QeM b] w fun e w' => e = .returned (.tuple #[]) ∧ St M w0 ((b, Qtu (QeM b) (.slice A l c)) :: H) F w' := by
 have hsh := Qe9 (hS.at_ .head)
 rcases hp with rfl | rfl
 ·refine Zd7 ?_
  refine ZcY ?_
  refine Zd8 ?_
  refine Zcm ?_
  refine Zfp ?_
  refine Zfq ?_
  refine Zfr ?_
  refine Zal ?_
  refine Zt ?_
  clear hS
  intro wx1 hS
  refine Zb ?_
  refine QD Tryz.func107 rfl ?_
  exact ⟨rfl, hS⟩
 ·refine Zd7 ?_
  refine ZcY ?_
  refine Zd8 ?_
  refine ZeF ?_
  refine Zak ?_
  refine ZbB ?_
  refine Zfs ?_
  refine Zq ?_
  refine QD Tryz.func107 rfl ?_
  exact ⟨rfl, hS⟩
theorem Qdh (p B : Value) (l x : Str) (O : List (Nat × Obj)) (w : World) (hp : Ql6 b p) (hB : Buf l B O) (hl : l.length + x.length ≤ 1099511627776) (hS : St M w0 ((b, Qtu p B) :: (O ++ H)) F w) :
  Calls Tryz.prog 66 #[QeM b, sv x] w fun e w' => ∃ B' O', e = .returned (.tuple #[.int .i64 (x.length : Nat), .nilIface]) ∧ Buf (l ++ x) B' O' ∧ St M w0 ((b, Qtu (QeM b) B') :: (O' ++ H)) F w' := by
 obtain ⟨A, c, rfl⟩ := hB.form
 refine Qg Tryz.func66 rfl Tryz.ntmps66 rfl ?_
 refine ZcZ ?_
 refine ZG ?_
 refine Calls.mono (QeA p A _ c _ hp hS) ?_
 rintro _ w1 ⟨rfl, hS'⟩
 refine Za ?_
 replace hS := hS'
 clear hS'
 refine ZbC ?_
 refine Za8 ?_
 refine ZbB ?_
 refine Qjd hS Yb rfl rfl rfl rfl hB List.perm_middle.symm Ya rfl ?_
 clear hS
 intro B' O' w2 hB' hS
 replace hS := hS.raise
 obtain ⟨A', c', rfl⟩ := hB'.form
 refine Zc0 ?_
 clear hS
 intro wx1 hS
 refine Zbn ?_
 refine Za5 ?_
 refine Zl ?_
 refine Qa3 Tryz.func66 rfl Yb Yb ?_
 refine ⟨_, O', rfl, ?_, hS⟩
 show Row _ _ _ (l ++ x).length (QZ (l ++ x)) _
 rw [List.length_append, show QZ (l ++ x) = QZ l ++ QZ x by simp [QZ]]; exact hB'
theorem Qeu (p B : Value) (l : Str) (c : UInt8) (O : List (Nat × Obj)) (w : World) (hp : Ql6 b p) (hB : Buf l B O) (hl : l.length + 1 ≤ 1099511627776) (hS : St M w0 ((b, Qtu p B) :: (O ++ H)) F w) :
  Calls Tryz.prog 65 #[QeM b, .int .u8 c.toNat] w fun e w' => ∃ B' O', e = .returned .nilIface ∧ Buf (l ++ [c]) B' O' ∧ St M w0 ((b, Qtu (QeM b) B') :: (O' ++ H)) F w' := by
 obtain ⟨A, cc, rfl⟩ := hB.form
 refine Qg Tryz.func65 rfl Tryz.ntmps65 rfl ?_
 refine Zc1 ?_
 refine Calls.mono (QeA p A _ cc _ hp hS) ?_
 rintro _ w1 ⟨rfl, hS'⟩
 refine Za ?_
 replace hS := hS'
 clear hS'
 refine ZbC ?_
 refine Za8 ?_
 refine ZbB ?_
 refine ZaR ?_
 clear hS
 intro b1 wx1 hS
 refine Zft ?_
 clear hS
 intro B' O' w2 hB' hS
 replace hS := hS.raise
 obtain ⟨A', c', rfl⟩ := hB'.form
 refine Zc0 ?_
 clear hS
 intro wx2 hS
 refine Zbo ?_
 refine Qc Tryz.func65 rfl Yb ?_
 refine ⟨_, O', rfl, ?_, hS⟩
 show Row _ _ _ (l ++ [c]).length (QZ (l ++ [c])) _
 rw [List.length_append, show QZ (l ++ [c]) = QZ l ++ QZ [c] by simp [QZ]]; exact hB'
theorem Qmm (p B : Value) (l : Str) (O : List (Nat × Obj)) (w : World) (hB : Buf l B O) (hl : l.length ≤ 1099511627776) (hS : St M w0 ((b, Qtu p B) :: (O ++ H)) F w) :
  Calls Tryz.prog 69 #[QeM b] w fun e w' => e = .returned (sv l) ∧ St M w0 H F w' := by
 have hF := hS
 have hB2 : Row 5 1 B l.length (QZ l) O := hB
 clear hB
 generalize hll : l.length = ll at hB2
 generalize hbl : QZ l = bl at hB2
 cases hB2 with
 | nil_ =>
  obtain rfl : l = [] := List.eq_nil_of_length_eq_zero hll
  clear hF
  refine Zd9 ?_
  refine Zc2 ?_
  refine Zea ?_
  replace hS := hS.drew
  refine ZaL ?_
  refine ZaL ?_
  refine ZaJ ?_
  refine Zp ?_
  refine Qa (Qb7 rfl rfl) rfl ?_
  refine QaR hS ?_
  refine Zp ?_
  refine Zeb ?_
  refine QaR hS ?_
  refine Zc3 ?_
  exact ⟨rfl, hS.drop⟩
 | own_ h1 h2 h3 h4 =>
  rename_i g cap sp
  have hg : w.heap[g]? = some (.cells (bl ++ sp).toArray 5) := hF.own (g, _) Yd
  replace hS := St.dropMid' hS
  refine Zd9 ?_
  refine Zc2 ?_
  refine Zea ?_
  replace hS := hS.drew
  refine ZaL ?_
  refine ZaL ?_
  refine ZaJ ?_
  refine Zp ?_
  refine Qa (Qb7 rfl (Lib.run_unsafeSliceData_row _ _ _ _ _ _ Ya)) rfl ?_
  refine QaR hS ?_
  refine Zp ?_
  by_cases hl0 : l = []
  ·subst hl0
   obtain rfl : 0 = ll := hll
   refine Zeb ?_
   refine QaR hS ?_
   refine Zc3 ?_
   exact ⟨rfl, hS.drop⟩
  ·have hus := Lib.run_unsafeString_row (P := Tryz.prog) w.drew 167 3 9 5 Yc Yc g (bl ++ sp).length (Qe9 (w := w.drew) hg) l hl0 (by simp at h2 ⊢; omega) Ya ?_
   ·rw [hll] at hus
    replace hS := (St.swap hF.drew).lose (Qjp _ g ll)
    refine Qa (Qc5 rfl rfl hus) rfl ?_
    refine QaR hS ?_
    refine Zc3 ?_
    exact ⟨rfl, hS.drop⟩
   ·intro j x hx
    subst hbl
    have hj : j < l.length := (List.getElem?_eq_some_iff.1 hx).1
    have : (QZ l ++ sp)[j]? = some (.int .u8 x.toNat) := by
     rw [List.getElem?_append_left (by simp [QZ]; omega)]
     simp [QZ, hx]
    rw [← this, ← Qu (w := w.drew) hg j]
    simp only [Addr.add]
    split
    ·rename_i h0; subst h0; rfl
    ·simp
end
theorem QdM {α : Type} (a b : α) (O H : List α) : (a :: b :: (O ++ H)).Perm (b :: (O ++ a :: H)) := (List.Perm.swap b a _).trans (.cons b List.perm_middle.symm)
theorem Qsl {D R : Ts} (h : rng (D.app R)) : rng R := by
 induction D with
 | nil => exact h
 | cons k n s a r _ ih => exact ih h.2.2
theorem Qor (T : Ts) (v : Value) (w0 : World) (hG : ∀ w', Ext [] w0 w' → QcZ w') (hv : Sl w0 (fun _ => True) v T) (hr : rng T) (hN : T.nodes ≤ 1048576) (hl : (QbU 0 T).length ≤ 1073741824) :
  Calls Tryz.prog 36 #[v] w0 fun e w' => e = .returned (sv (QbU 0 T)) ∧ Below w0.heap.size w0 w' := by
 have hS := St.start w0
 obtain ⟨A, c, rfl, hv⟩ := hv.form
 have hTl := T.length_le
 refine Qh Tryz.func36 rfl Tryz.ntmps36 rfl ?_
 refine Zj ?_
 refine Zg ?_
 refine Za3 ?_
 clear hS
 intro b1 wx1 hS
 refine ZaZ ?_
 refine Z6 ?_
 refine Qo 8 (9 :: 10 :: 11 :: 12 :: 5 :: 4 :: 13 :: 14 :: 15 :: 16 :: 17 :: 18 :: 19 :: 20 :: 21 :: []) (fun (R : Ts) v w' => ∃ (D : Ts) (p B : Value) (O : List (Nat × Obj)), T = D.app R ∧ v = .int .i64 (D.length : Nat) ∧ Ql6 b1 p ∧ Buf (QbU 0 D) B O ∧ St [] w0 ((b1, Qtu p B) :: (O ++ [])) [] w') (fun R => R.length) (T) ?_ Yb ?_
 ·exact ⟨.nil, _, _, [], rfl, rfl, .inl rfl, Row.nil_, hS⟩
 clear hS
 rintro R _ w2 jv ⟨D, p, B, O, hD, rfl, hp, hB, hS⟩ ih
 have hlD : T.length = D.length + R.length := by rw [hD, Ts.length_app]
 cases R with
 | nil =>
  rw [Ts.app_nil] at hD
  subst hD
  simp only [Ts.length] at hlD
  refine ZL ?_
  refine Zg ?_
  refine Zk ?_
  refine Calls.mono (Qmm p B (QbU 0 T) O _ hB Ya hS) ?_
  rintro _ w3 ⟨rfl, hS'⟩
  refine Za ?_
  replace hS := hS'
  clear hS'
  refine Zc ?_
  refine Qc Tryz.func36 rfl Yb ?_
  exact ⟨rfl, hS.ext.below⟩
 | cons k n s a R =>
  obtain ⟨s, rfl⟩ := Qtd s
  simp only [Ts.length] at hlD
  obtain ⟨b5, o5, rfl, hsq⟩ := Sl.at_ (D := D) (R := .cons k n ⟨s.toArray⟩ a R) (by rw [← hD]; exact hv) (by simp [Ts.length])
  obtain ⟨_, p0, p1, p2, ⟨v', p3, hsl⟩, _⟩ := QaT.1 hsq
  obtain ⟨A6, c6, rfl, hsl⟩ := hsl.form
  have hrr : rng (.cons k n ⟨s.toArray⟩ a R) := Qsl (D := D) (by rw [← hD]; exact hr)
  have hnod : T.nodes = D.nodes + (Ts.cons k n ⟨s.toArray⟩ a R).nodes := by rw [hD, Ts.nodes_app]
  simp only [Ts.nodes] at hnod
  have hvl : (QbU 0 T).length = (QbU 0 D).length + (QbU (0 + D.length) (.cons k n ⟨s.toArray⟩ a R)).length := by rw [hD, QjG, List.length_append]
  simp only [QbU, List.length_append, List.length_cons, List.length_nil, Nat.zero_add] at hvl
  have hbyte : (Value.int .u8 32) = .int .u8 ((32 : UInt8).toNat : Nat) := rfl
  have hbyte2 : (Value.int .u8 61) = .int .u8 ((61 : UInt8).toNat : Nat) := rfl
  refine ZaV ?_
  refine ZaS ?_
  refine ZcG ?_
  refine ZX ?_
  clear hS
  intro b2 wx2 hS
  refine ZbJ ?_
  clear hS
  intro wx3 hS
  refine Za0 ?_
  refine Zf ?_
  refine Calls.mono (Qeu p B (QbU 0 D) 32 O _ hp hB Ya (hS.perm (QdM _ _ _ _))) ?_
  rintro _ w3 ⟨B3, O3, rfl, hB3, hS'⟩
  refine Za ?_
  replace hS := hS'
  clear hS'
  replace hS := hS.perm (QdM _ _ _ _).symm
  refine Zb ?_
  refine ZG ?_
  refine Calls.mono (Qtn (D.length : Nat) _ Ya (hG _ hS.ext)) ?_
  rintro _ w4 ⟨rfl, hb4⟩
  refine Za ?_
  replace hS := hS.grow hb4
  refine Zf ?_
  refine Calls.mono (Qdh _ B3 (QbU 0 D ++ [32]) (Lib.itoa (D.length : Nat)) O3 _ (.inr rfl) hB3 Yj (hS.perm (QdM _ _ _ _))) ?_
  rintro _ w5 ⟨B5, O5, rfl, hB5, hS'⟩
  refine Za ?_
  replace hS := hS'
  clear hS'
  replace hS := hS.perm (QdM _ _ _ _).symm
  refine Za0 ?_
  refine Zf ?_
  refine Calls.mono (Qeu _ B5 ((QbU 0 D ++ [32]) ++ Lib.itoa (D.length : Nat)) 61 O5 _ (.inr rfl) hB5 Yj (hS.perm (QdM _ _ _ _))) ?_
  rintro _ w6 ⟨B6, O6, rfl, hB6, hS'⟩
  refine Za ?_
  replace hS := hS'
  clear hS'
  replace hS := hS.perm (QdM _ _ _ _).symm
  refine Zb ?_
  refine Zbe ?_
  refine ZcG ?_
  refine Zk ?_
  refine Calls.mono (Qqf k n s a _ w6 (fun w' h => hG w' (hS.ext.trans h)) (hsl.below hS.ext.below) hrr.1 hrr.2.1 Ya Ya) ?_
  rintro _ w7 ⟨rfl, hb7⟩
  refine Za ?_
  replace hS := hS.grow hb7
  refine Zf ?_
  refine Calls.mono (Qdh _ B6 ((QbU 0 D ++ [32]) ++ Lib.itoa (D.length : Nat) ++ [61]) (QgO false (.cons k n ⟨s.toArray⟩ a .nil)) O6 _ (.inr rfl) hB6 Yj (hS.perm (QdM _ _ _ _))) ?_
  rintro _ w8 ⟨B8, O8, rfl, hB8, hS'⟩
  refine Za ?_
  replace hS := hS'
  clear hS'
  replace hS := (hS.perm (QdM _ _ _ _).symm).drop
  refine Zam ?_
  refine ih (R) _ _ _ ?_ ?_ Yb Yc
  ·simp [Ts.length]
  ·refine ⟨D.app (.cons k n ⟨s.toArray⟩ a .nil), _, B8, O8, by rw [Ts.app_assoc]; exact hD, by rw [Ts.length_app]; simp [Ts.length], .inr rfl, ?_, hS⟩
   rw [QjG, Nat.zero_add, Qr4]
   simpa using hB8
section
variable {P : Program} {n : Nat} {e : Env} {w : World} {ty : TypeId} {pos : String} {after : Array Edge} {x y : Operand} {dst : Option Nat} {t : TypeId} {b o : Nat}
def Qto (P : Program) (t : TypeId) : Option (Nat × TypeId) := match P.underlying t with | some (.array n el) => some (n, el) | _ => none
theorem QkX {el sz len : Nat} {i : Int} (hx : ev n e x = .pointer (some ⟨b, o, none⟩)) (hy : ev n e y = .int .i64 i) (hT : Qto P t = some (len, el)) (hs : QaD P el = some sz) (h0 : 0 ≤ i) (h1 : i < len) :
  (execOp (ev n e) ⟨dst, .indexAddr t x y, ty, pos, after, none⟩).run P w = .ok (.value (.pointer (some ⟨b, o + i.toNat * sz, none⟩))) w := by
 have hu : P.underlying t = some (.array len el) := by
  unfold Qto at hT
  split at hT
  ·rename_i h; simp only [Option.some.injEq, Prod.mk.injEq] at hT; rw [h, hT.1, hT.2]
  ·cases hT
 have h2 := run_underlying hu w
 have h3 := Qac (w := w) hs
 simp only [execOp, Instr.indexAt, Instr.sureAddr, hx, hy, asIntOf, bind, pure, Sem.bind]
 rw [Sem.run_bind', Sem.run_bind', h2]
 simp only [Result.andThen_ok, Sem.bind]
 rw [Sem.run_bind', h2]
 simp only [Result.andThen_ok, if_pos (And.intro h0 h1)]
 rw [Sem.run_bind', h3]
 simp only [Result.andThen_ok, Qaa, Sem.run]
end
end Go.Proofs.YthliapbflkfdiacGreatDoor
