/- Steps of the proof. -/
import Derived.Test.YthliapbflkfdiacGreatDoorG1
import Derived.Test.YthliapbflkfdiacGreatDoorRows
import Derived.Shelf.Strings.SlTrimAscii
namespace Go.Proofs.YthliapbflkfdiacGreatDoor
open Go.RowKit
set_option linter.unusedVariables false
set_option maxRecDepth 100000
set_option maxHeartbeats 1000000
abbrev rdr (s : RS) (V : Value) : Obj := .cells [sv s.token, sv s.rest, V, .int .i64 s.err].toArray 77
abbrev ptr (b : Nat) : Value := .pointer (some ⟨b, 0, none⟩)
section
variable {M : List Nat} {w0 : World} {H : List (Nat × Obj)} {F : List (World → Prop)} {b : Nat} {A : Option Addr} {vl vc : Nat}
theorem Qcw (s : RS) (x : Int) (w : World) (hS : St M w0 ((b, rdr s (.slice A vl vc)) :: H) F w) :
  Calls Tryz.prog 42 #[ptr b, .int .i64 x] w fun e w' => e = .returned (.tuple #[]) ∧ St M w0 ((b, rdr (s.fail x) (.slice A vl vc)) :: H) F w' := by
 refine Qg Tryz.func42 rfl Tryz.ntmps42 rfl ?_
 refine Zw ?_
 refine ZaD ?_
 refine Zn ?_
 refine Zb ?_
 refine Qcn rfl (fun h => ?_) (fun h => ?_)
 ·have h' : s.err = 0 := by simpa using h
  refine Z1 ?_
  refine Zbj ?_
  refine Zt ?_
  clear hS
  intro wx1 hS
  refine Zb ?_
  refine Z1 ?_
  refine Zal ?_
  refine Zt ?_
  clear hS
  intro wx2 hS
  refine Zc0 ?_
  clear hS
  intro wx3 hS
  refine Zb ?_
  refine QD Tryz.func42 rfl ?_
  refine ⟨rfl, ?_⟩
  show St M w0 ((b, rdr ⟨[], [], s.vars, if s.err = 0 then x else s.err⟩ _) :: H) F _
  rw [if_pos h']; exact hS
 ·have h' : ¬ s.err = 0 := by simpa using h
  refine Zag ?_
  refine Z1 ?_
  refine Zal ?_
  refine Zt ?_
  clear hS
  intro wx1 hS
  refine Zc0 ?_
  clear hS
  intro wx2 hS
  refine Zb ?_
  refine QD Tryz.func42 rfl ?_
  refine ⟨rfl, ?_⟩
  show St M w0 ((b, rdr ⟨[], [], s.vars, if s.err = 0 then x else s.err⟩ _) :: H) F _
  rw [if_neg h']; exact hS
def Qpv : Prop := ∀ (l : Str) (w : World), l.length ≤ 1048576 → Calls Tryz.prog 112 #[sv l, sv [32, 10, 13, 9]] w fun e w' => e = .returned (sv (Qb5 l)) ∧ Below w.heap.size w w'
theorem QeX (L1 : Qpp) (L2 : Qpv) (s : RS) (w : World) (hl : s.rest.length ≤ 1048576) (hS : St M w0 ((b, rdr s (.slice A vl vc)) :: H) F w) :
  Calls Tryz.prog 71 #[ptr b] w fun e w' => e = .returned (.tuple #[]) ∧ St M w0 ((b, rdr s.adv (.slice A vl vc)) :: H) F w' := by
 have h1 := Qnk s.rest
 have h2 := QkP (Qb5 s.rest)
 refine Qh Tryz.func71 rfl Tryz.ntmps71 rfl ?_
 refine ZZ ?_
 refine ZE ?_
 refine Zo ?_
 refine Zf ?_
 refine Calls.mono (L2 s.rest _ hl) ?_
 rintro _ w1 ⟨rfl, hb1⟩
 refine Za ?_
 replace hS := hS.grow hb1
 refine Z2 ?_
 by_cases h0 : Q7 (Qb5 s.rest) = 0
 ·refine Zk ?_
  refine Calls.mono (QdA L1 (Qb5 s.rest) _ Ya) ?_
  rintro _ w2 ⟨rfl, rfl⟩
  refine Za ?_
  refine ZA ?_
  refine Zco ?_
  refine Za6 ?_
  refine ZS ?_
  refine Zb ?_
  refine Qcn rfl (fun h => ?_) (fun h => ?_)
  ·have h' : Qb5 s.rest ≠ [] := by simpa using h
   refine Zbq ?_
   refine Zcd ?_
   rintro _ w3 ⟨rfl, hS'⟩
   refine Za ?_
   replace hS := hS'
   clear hS'
   refine Zb ?_
   refine QlF Tryz.func71 rfl  ?_
   refine ⟨rfl, ?_⟩
   have e : s.adv = s.fail 1 := by simp only [RS.adv]; rw [if_pos ⟨h0, h'⟩]
   rw [e]; exact hS
  ·have h' : Qb5 s.rest = [] := by simpa using h
   refine Zag ?_
   refine Zfu ?_
   replace hS := hS.drew
   refine Z7 ?_
   refine Z7 ?_
   refine Zfv ?_
   refine Z7 ?_
   refine Zfw ?_
   refine ZaO ?_
   refine Zax ?_
   refine Zp ?_
   refine Zt ?_
   clear hS
   intro wx1 hS
   refine QaR trivial ?_
   refine ZaO ?_
   refine Zdx ?_
   refine ZbE ?_
   clear hS
   intro wx2 hS
   refine Zb ?_
   refine QD Tryz.func71 rfl ?_
   refine ⟨rfl, ?_⟩
   have e : s.adv = ⟨(Qb5 s.rest).take (Q7 (Qb5 s.rest)), (Qb5 s.rest).drop (Q7 (Qb5 s.rest)), s.vars, s.err⟩ := by simp only [RS.adv]; rw [if_neg (fun h => h.2 h')]
   rw [e]; exact hS
 ·refine Zk ?_
  refine Calls.mono (QdA L1 (Qb5 s.rest) _ Ya) ?_
  rintro _ w2 ⟨rfl, rfl⟩
  refine Za ?_
  refine ZA ?_
  refine Zn ?_
  refine Zaq ?_
  refine Z8 ?_
  refine Zfu ?_
  replace hS := hS.drew
  refine Z7 ?_
  refine Z7 ?_
  refine Zfv ?_
  refine Z7 ?_
  refine Zfw ?_
  refine ZaO ?_
  refine Zax ?_
  refine Zp ?_
  refine Zt ?_
  clear hS
  intro wx1 hS
  refine QaR trivial ?_
  refine ZaO ?_
  refine Zdx ?_
  refine ZbE ?_
  clear hS
  intro wx2 hS
  refine Zb ?_
  refine QD Tryz.func71 rfl ?_
  refine ⟨rfl, ?_⟩
  have e : s.adv = ⟨(Qb5 s.rest).take (Q7 (Qb5 s.rest)), (Qb5 s.rest).drop (Q7 (Qb5 s.rest)), s.vars, s.err⟩ := by simp only [RS.adv]; rw [if_neg (fun h => h0 h.1)]
  rw [e]; exact hS
theorem QgG (L1 : Qpp) (L2 : Qpv) (s : RS) (tok : Str) (w : World) (hl : s.rest.length ≤ 1048576) (hS : St M w0 ((b, rdr s (.slice A vl vc)) :: H) F w) :
  Calls Tryz.prog 44 #[ptr b, sv tok] w fun e w' => e = .returned (.tuple #[]) ∧ St M w0 ((b, rdr (s.take tok) (.slice A vl vc)) :: H) F w' := by
 refine Qg Tryz.func44 rfl Tryz.ntmps44 rfl ?_
 refine Zw ?_
 refine Zal ?_
 refine ZbB ?_
 refine Za6 ?_
 refine Zb ?_
 refine Qcn rfl (fun h => ?_) (fun h => ?_)
 ·have h' : ¬ s.token = tok := by simpa using h
  refine ZU ?_
  refine Zf ?_
  refine Zcd ?_
  rintro _ w3 ⟨rfl, hS'⟩
  refine Za ?_
  replace hS := hS'
  clear hS'
  refine Zcp ?_
  refine Zk ?_
  refine Calls.mono (QeX L1 L2 (s.fail 1) _ (by simp [RS.fail]) hS) ?_
  rintro _ w4 ⟨rfl, hS'⟩
  refine Za ?_
  replace hS := hS'
  clear hS'
  refine Zb ?_
  refine QD Tryz.func44 rfl ?_
  refine ⟨rfl, ?_⟩
  have e : s.take tok = (s.fail 1).adv := by simp only [RS.take]; rw [if_neg h']
  rw [e]; exact hS
 ·have h' : s.token = tok := by simpa using h
  refine Zag ?_
  refine ZU ?_
  refine Zk ?_
  refine Calls.mono (QeX L1 L2 s _ hl hS) ?_
  rintro _ w4 ⟨rfl, hS'⟩
  refine Za ?_
  replace hS := hS'
  clear hS'
  refine Zb ?_
  refine QD Tryz.func44 rfl ?_
  refine ⟨rfl, ?_⟩
  have e : s.take tok = s.adv := by simp only [RS.take]; rw [if_pos h']
  rw [e]; exact hS
def RS.start (l : Str) : RS := if 2000 < l.length then (RS.fail ⟨[], l, [], 0⟩ 3).adv else (RS.adv ⟨[], l, [], 0⟩)
theorem Qfl (L1 : Qpp) (L2 : Qpv) (l : Str) (w : World) (hl : l.length ≤ 1125899906842624) (hS : St M w0 H F w) :
  Calls Tryz.prog 40 #[sv l] w fun e w' => ∃ b, e = .returned (ptr b) ∧ St M w0 ((b, rdr (RS.start l) (.slice none 0 0)) :: H) F w' := by
 by_cases h : 2000 < l.length
 ·have e : RS.start l = (RS.fail ⟨[], l, [], 0⟩ 3).adv := by simp only [RS.start]; rw [if_pos h]
  rw [e]
  refine Qh Tryz.func40 rfl Tryz.ntmps40 rfl ?_
  refine Za9 ?_
  refine Qa (QN (cells := [_, _, _, _]) (.cons Yb .nil) rfl) rfl ?_
  refine Zcb ?_
  clear hS
  intro b1 wx1 hS
  refine ZA ?_
  refine Za5 ?_
  refine ZP ?_
  refine ZbF ?_
  refine Zf ?_
  refine Calls.mono (Qcw ⟨[], l, [], 0⟩ 3 _ hS) ?_
  rintro _ w3 ⟨rfl, hS'⟩
  refine Za ?_
  replace hS := hS'
  clear hS'
  refine Zb ?_
  refine ZG ?_
  refine Calls.mono (QeX L1 L2 (RS.fail ⟨[], l, [], 0⟩ 3) _ (by simp [RS.fail]) hS) ?_
  rintro _ w4 ⟨rfl, hS'⟩
  refine Za ?_
  replace hS := hS'
  clear hS'
  refine Zcq ?_
  refine Qc Tryz.func40 rfl Yb ?_
  exact ⟨_, rfl, hS⟩
 ·have e : RS.start l = RS.adv ⟨[], l, [], 0⟩ := by simp only [RS.start]; rw [if_neg h]
  rw [e]
  refine Qh Tryz.func40 rfl Tryz.ntmps40 rfl ?_
  refine Za9 ?_
  refine Qa (QN (cells := [_, _, _, _]) (.cons Yb .nil) rfl) rfl ?_
  refine Zcb ?_
  clear hS
  intro b1 wx1 hS
  refine ZA ?_
  refine Za5 ?_
  refine ZP ?_
  refine Zq ?_
  refine ZG ?_
  refine Calls.mono (QeX L1 L2 ⟨[], l, [], 0⟩ _ (by show l.length ≤ 1048576; omega) hS) ?_
  rintro _ w4 ⟨rfl, hS'⟩
  refine Za ?_
  replace hS := hS'
  clear hS'
  refine Zcq ?_
  refine Qc Tryz.func40 rfl Yb ?_
  exact ⟨_, rfl, hS⟩
end
theorem QhD : ∀ (m l : Str), (decide (m.length ≤ l.length) && (l.take m.length == m)) = m.isPrefixOf l
 | [], l => by simp [List.isPrefixOf]
 | c :: m, [] => by simp [List.isPrefixOf]
 | c :: m, d :: l => by
  have ih := QhD m l
  simp only [List.isPrefixOf, List.length_cons, List.take_succ_cons, Nat.add_le_add_iff_right]
  rw [← ih]
  have : (d :: l.take m.length == c :: m) = ((c == d) && (l.take m.length == m)) := by
   rw [List.cons_beq_cons]; congr 1; exact BEq.comm
  rw [this]
  cases decide (m.length ≤ l.length) <;> cases (c == d) <;> simp
theorem QiA (l m : Str) (w : World) : Calls Tryz.prog 207 #[sv l, sv m] w fun e w' => e = .returned (.bool (m.isPrefixOf l)) ∧ w' = w := by
 have hp := QhD m l
 by_cases h : m.length ≤ l.length
 ·refine Qg Tryz.func207 rfl Tryz.ntmps207 rfl ?_
  refine Za9 ?_
  refine Za5 ?_
  refine Ze ?_
  refine Za5 ?_
  refine ZW ?_
  refine Zaj ?_
  refine Zx ?_
  refine Za5 ?_
  refine Zv ?_
  refine Qa (Qgj rfl rfl rfl Ya (by first | omega | (simp; done) | (simp; omega))) rfl ?_
  refine ZO ?_
  refine ZaP ?_
  refine ZN ?_
  refine Qc Tryz.func207 rfl Yb ?_
  rw [← hp, decide_eq_true h]
  exact ⟨rfl, rfl⟩
 ·refine Qg Tryz.func207 rfl Tryz.ntmps207 rfl ?_
  refine Za9 ?_
  refine Za5 ?_
  refine Ze ?_
  refine Za5 ?_
  refine ZW ?_
  refine ZaX ?_
  refine ZY ?_
  refine ZN ?_
  refine Qc Tryz.func207 rfl Yb ?_
  rw [← hp, decide_eq_false h]
  exact ⟨rfl, rfl⟩
theorem Qkc (l m : Str) (w : World) : Calls Tryz.prog 173 #[sv l, sv m] w fun e w' => e = .returned (.bool (m.isPrefixOf l)) ∧ w' = w := by
 refine Qg Tryz.func173 rfl Tryz.ntmps173 rfl ?_
 refine Zj ?_
 refine Zac ?_
 refine Calls.mono (QiA l m _) ?_
 rintro _ w1 ⟨rfl, rfl⟩
 refine ZH ?_
 refine Qc Tryz.func173 rfl Yb ?_
 exact ⟨rfl, rfl⟩
def Qui (vs : List Str) (x : Str) : Int := if x ∈ vs then (Qfq vs x : Nat) else -1
theorem QqW {x : Str} : ∀ {D : List Str} (R : List Str), x ∉ D → Qfq (D ++ x :: R) x = D.length
 | [], R, _ => by simp [Qfq]
 | v :: D, R, h => by
  have h1 : ¬ v = x := fun e => h (by simp [e])
  have h2 : x ∉ D := fun e => h (by simp [e])
  simp only [List.cons_append, Qfq, if_neg h1, List.length_cons]
  rw [QqW R h2]
section
variable {M : List Nat} {w0 : World} {H : List (Nat × Obj)} {F : List (World → Prop)} {b : Nat}
theorem Qlw (vs : List Str) (x : Str) (V : Value) (O : List (Nat × Obj)) (w : World) (hr : Row 9 1 V vs.length (vs.map sv) O) (hS : St M w0 (O ++ H) F w) (hb : vs.length ≤ 1048576) :
  Calls Tryz.prog 174 #[V, sv x] w fun e w' => e = .returned (.int .i64 (Qui vs x)) ∧ w' = w := by
 obtain ⟨A, c, rfl⟩ := hr.form
 refine Qg Tryz.func174 rfl Tryz.ntmps174 rfl ?_
 refine Zc6 ?_
 refine Qo 8 (9 :: 10 :: 5 :: 11 :: 12 :: 13 :: 14 :: 15 :: 16 :: 17 :: 4 :: 18 :: []) (fun (R : List Str) v w' => w' = w ∧ ∃ D, vs = D ++ R ∧ v = .int .i64 (D.length : Nat) ∧ x ∉ D) (fun R => R.length) (vs) ?_ Yb ?_
 ·exact ⟨rfl, [], rfl, rfl, by simp⟩
 rintro R _ w1 jv ⟨rfl, D, hD, rfl, hx⟩ ih
 have hlen : vs.length = D.length + R.length := by rw [hD, List.length_append]
 cases R with
 | nil =>
  simp only [List.length_nil] at hlen
  refine Zcr ?_
  refine Qc Tryz.func174 rfl Yb ?_
  refine ⟨?_, rfl⟩
  have : x ∉ vs := by rw [hD, List.append_nil]; exact hx
  simp only [Qui, if_neg this]
 | cons y r =>
  simp only [List.length_cons] at hlen
  generalize hxs : vs.map sv = xs at hr
  generalize hvl : vs.length = vl at *
  cases hr with
  | nil_ => omega
  | own_ h1 h2 h3 hcp =>
   rename_i bl sp
   have hcell : w1.cell? ⟨bl, 0 + ((D.length : Nat) : Int).toNat * 1, none⟩ = some (sv y) := by
    have hbl : w1.heap[bl]? = some (.cells (xs ++ sp).toArray 9) := hS.own (bl, _) Yd
    rw [Qu hbl, ← hxs, hD]
    simp
   refine ZaY ?_
   refine Zbz ?_
   refine ZM ?_
   refine Zo ?_
   refine ZaP ?_
   refine Zb ?_
   refine Qcn rfl (fun h => ?_) (fun h => ?_)
   ·obtain rfl : x = y := by simpa using h
    refine ZQ ?_
    refine Qc Tryz.func174 rfl Yb ?_
    refine ⟨?_, rfl⟩
    have : x ∈ vs := by rw [hD]; simp
    simp only [Qui, if_pos this]
    rw [hD, QqW r hx]
   ·have h' : ¬ x = y := by simpa using h
    refine Zag ?_
    refine ZbZ ?_
    refine ih (r) _ _ _ ?_ ?_ Yb Yc
    ·simp
    ·exact ⟨rfl, D ++ [y], by rw [hD, List.append_assoc]; rfl, by simp, by simp [hx, h']⟩
end
section
variable {M : List Nat} {w0 w w' : World} {H : List (Nat × Obj)} {F : List (World → Prop)} {v : Value} {T : Ts} {p : Nat → Prop}
theorem St.keys_lt (hS : St M w0 H F w) {k : Nat} (hk : k ∈ H.map (·.1)) : k < w.heap.size := by
 obtain ⟨q, hq, rfl⟩ := List.mem_map.1 hk
 exact QcL (hS.own q hq)
end
abbrev Qol (vs : List Str) (V : Value) (VH : List (Nat × Obj)) : Prop := Row 9 1 V vs.length (vs.map sv) VH
section
variable {M : List Nat} {w0 : World} {H : List (Nat × Obj)} {F : List (World → Prop)} {b : Nat}
theorem QkG (s : RS) (x : Str) (V : Value) (VH : List (Nat × Obj)) (w : World) (hV : Qol s.vars V VH) (hb : s.vars.length ≤ 1048576) (hS : St M w0 ((b, rdr s V) :: (VH ++ H)) F w) :
  Calls Tryz.prog 115 #[ptr b, sv x] w fun e w' => ∃ V' VH', e = .returned (.int .i64 ((s.var x).1 : Nat)) ∧ Qol (s.var x).2.vars V' VH' ∧ St M w0 ((b, rdr (s.var x).2 V') :: (VH' ++ H)) F w' := by
 obtain ⟨A, c, rfl⟩ := hV.form
 by_cases hx : x ∈ s.vars
 ·have hI : Qui s.vars x = (Qfq s.vars x : Nat) := by simp only [Qui, if_pos hx]
  have e : s.var x = (Qfq s.vars x, s) := by simp only [RS.var, if_pos hx]
  have hc := Qlw s.vars x _ VH w hV hS.drop hb
  rw [hI] at hc
  rw [e]
  refine Qg Tryz.func115 rfl Tryz.ntmps115 rfl ?_
  refine Zj ?_
  refine ZaE ?_
  refine Z3 ?_
  refine Calls.mono (hc) ?_
  rintro _ w1 ⟨rfl, rfl⟩
  refine Za ?_
  refine Zcs ?_
  refine ZQ ?_
  refine Qc Tryz.func115 rfl Yb ?_
  exact ⟨_, _, rfl, hV, hS⟩
 ·have hI : Qui s.vars x = -1 := by simp only [Qui, if_neg hx]
  have e : s.var x = (s.vars.length, { s with vars := s.vars ++ [x] }) := by simp only [RS.var, if_neg hx]
  have hc := Qlw s.vars x _ VH w hV hS.drop hb
  rw [hI] at hc
  rw [e]
  refine Qg Tryz.func115 rfl Tryz.ntmps115 rfl ?_
  refine Zj ?_
  refine ZaE ?_
  refine Z3 ?_
  refine Calls.mono (hc) ?_
  rintro _ w1 ⟨rfl, rfl⟩
  refine Za ?_
  refine Zck ?_
  refine ZC ?_
  refine ZaE ?_
  refine Zs ?_
  refine Zc ?_
  refine Z1 ?_
  refine Zc7 ?_
  refine Ze ?_
  refine ZaR ?_
  clear hS
  intro b1 wx1 hS
  refine Qa8 (sz := 1) (bts := 16) hS Yb rfl rfl rfl rfl (hV) rfl rfl (.cons _ List.perm_middle.symm) Ya Ya rfl ?_
  clear hS
  intro V' VH' w2 hV' hS
  replace hS := hS.raise
  obtain ⟨A', c', rfl⟩ := hV'.form
  refine ZbG ?_
  refine Zt ?_
  clear hS
  intro wx2 hS
  refine Zcq ?_
  refine Qc Tryz.func115 rfl Yb ?_
  refine ⟨_, VH', rfl, ?_, hS⟩
  show Row _ _ _ (s.vars ++ [x]).length ((s.vars ++ [x]).map sv) _
  rw [List.map_append, List.length_append]; exact hV'
def Quz (num : Str → Option Int) (G : World → Prop) : Prop := ∀ (tok : Str) (s : RS) (A : Option Addr) (vl vc : Nat) (M : List Nat) (w0 w : World) (H : List (Nat × Obj)) (F : List (World → Prop)) (b : Nat), (∀ w', Ext M w0 w' → G w') → tok.length ≤ 1048576 → St M w0 ((b, rdr s (.slice A vl vc)) :: H) F w →
    Calls Tryz.prog 119 #[ptr b, sv tok] w fun e w' => e = .returned (.int .i64 (s.number num tok).1) ∧ St M w0 ((b, rdr (s.number num tok).2 (.slice A vl vc)) :: H) F w'
def Qkv (num : Str → Option Int) (G : World → Prop) (d : Nat) : Prop := ∀ (s : RS) (V : Value) (VH : List (Nat × Obj)) (M : List Nat) (w0 w : World) (H : List (Nat × Obj)) (F : List (World → Prop)) (b : Nat), (∀ w', Ext M w0 w' → G w') →
    s.left ≤ 1048576 → s.vars.length + s.left ≤ 1048576 → Qol s.vars V VH → St M w0 ((b, rdr s V) :: (VH ++ H)) F w →
    Calls Tryz.prog 72 #[ptr b, .int .i64 (d : Nat)] w fun e w' => ∃ v V' VH', e = .returned (.agg #[.int .i64 (Qw num d s).1.k, .int .i64 (Qw num d s).1.n, sv (Qw num d s).1.s, v]) ∧
     Qol (Qw num d s).2.vars V' VH' ∧ St M w0 ((b, rdr (Qw num d s).2 V') :: (VH' ++ H)) ((fun w => Sl w (fun _ => True) v (Qw num d s).1.ar) :: F) w'
def QfJ (num : Str → Option Int) (G : World → Prop) (d : Nat) : Prop := ∀ (s : RS) (V : Value) (VH : List (Nat × Obj)) (M : List Nat) (w0 w : World) (H : List (Nat × Obj)) (F : List (World → Prop)) (b : Nat), (∀ w', Ext M w0 w' → G w') →
    s.left ≤ 1048576 → s.vars.length + s.left ≤ 1048576 → Qol s.vars V VH → St M w0 ((b, rdr s V) :: (VH ++ H)) F w →
    Calls Tryz.prog 43 #[ptr b, .int .i64 (d : Nat)] w fun e w' => ∃ v V' VH', e = .returned v ∧
     Qol (QL (Qw num d) s).2.vars V' VH' ∧ St M w0 ((b, rdr (QL (Qw num d) s).2 V') :: (VH' ++ H)) ((fun w => Sl w (fun _ => True) v (Qbw (QL (Qw num d) s).1)) :: F) w'
theorem QgE (s : RS) (x : Str) : (s.var x).2.left = s.left ∧ (s.var x).2.vars.length ≤ s.vars.length + 1 := by
 unfold RS.var RS.left
 split
 ·simp
 ·simp
theorem Qcj (num : Str → Option Int) (s : RS) (x : Str) : (s.number num x).2.left ≤ s.left ∧ (s.number num x).2.vars = s.vars := by
 unfold RS.number
 split
 ·simp
 ·simp [RS.fail, RS.left]
theorem QbH (s : RS) : s.adv.vars = s.vars := by
 unfold RS.adv
 simp only
 split <;> rfl
theorem QbJ (s : RS) (t : Str) : (s.take t).vars = s.vars := by
 unfold RS.take
 split
 ·exact QbH s
 ·rw [QbH]; rfl
def QuA (f : RS → Nd × RS) : Prop := ∀ s, (f s).2.left ≤ s.left ∧ (f s).2.vars.length + (f s).2.left ≤ s.vars.length + s.left
theorem Qlp {f : RS → Nd × RS} (hf : QuA f) : ∀ (n : Nat) (s : RS), (QaV f n s).2.left ≤ s.left ∧ (QaV f n s).2.vars.length + (QaV f n s).2.left ≤ s.vars.length + s.left
 | 0, s => by simp [QaV]
 | n + 1, s => by
  unfold QaV
  split
  ·rename_i h
   have h1 := QcY s (by rw [h]; simp)
   have h2 := hf s.adv
   have h3 := Qlp hf n (f s.adv).2
   rw [QbH] at h2
   simp only
   omega
  ·simp
theorem QcI {f : RS → Nd × RS} (hf : QuA f) (s : RS) : (QL f s).2.left ≤ s.left ∧ (QL f s).2.vars.length + (QL f s).2.left ≤ s.vars.length + s.left := by
 unfold QL
 have h2 := hf s
 have h3 := Qlp hf (f s).2.left (f s).2
 simp only
 omega
theorem QaY (num : Str → Option Int) : ∀ d, QuA (Qw num d)
 | 0, s => by simp [Qw, RS.fail, RS.left]
 | d + 1, s => by
  unfold Qw
  split
  ·simp [RS.fail, RS.left]
  ·rename_i ht
   have h1 := QcY s ht
   have hv := QbH s
   simp only
   split
   ·have := QgE s.adv s.token
    rw [hv] at this
    simp only
    omega
   split
   ·have h4 := take_left s.adv [40]
    have h5 := QbJ s.adv [40]
    have h6 := QcI (QaY num d) (s.adv.take [40])
    have h7 := take_left (QL (Qw num d) (s.adv.take [40])).2 [41]
    have h8 := QbJ (QL (Qw num d) (s.adv.take [40])).2 [41]
    rw [h5, hv] at h6
    simp only
    rw [h8]
    omega
   split
   ·simp only
    rw [hv]; omega
   split
   ·have := Qcj num s.adv s.token
    simp only
    rw [this.2, hv]
    omega
   ·simp [RS.fail, RS.left, hv]
theorem QqJ {f : RS → Nd × RS} (hf : QuA f) : ∀ (n : Nat) (s : RS), s.left ≤ n → QaV f n s = QaV f s.left s := by
 intro n
 induction n using Nat.strongRecOn with
 | _ n ih =>
  intro s hn
  by_cases ht : s.token = [44]
  ·have h1 := QcY s (by rw [ht]; simp)
   have h2 := hf s.adv
   obtain ⟨m, rfl⟩ : ∃ m, n = m + 1 := ⟨n - 1, by omega⟩
   obtain ⟨l, hl⟩ : ∃ l, s.left = l + 1 := ⟨s.left - 1, by omega⟩
   rw [hl]
   simp only [QaV, if_pos ht]
   rw [ih m Ya (f s.adv).2 Ya, ih l Ya (f s.adv).2 Ya]
  ·have h0 : ∀ k, QaV f k s = ([], s) := fun k => by cases k <;> simp [QaV, ht]
   rw [h0, h0]
theorem Qlo {f : RS → Nd × RS} (hf : QuA f) {s : RS} (ht : s.token = [44]) : QaV f s.left s = ((f s.adv).1 :: (QaV f (f s.adv).2.left (f s.adv).2).1, (QaV f (f s.adv).2.left (f s.adv).2).2) := by
 have h1 := QcY s (by rw [ht]; simp)
 have h2 := hf s.adv
 obtain ⟨l, hl⟩ : ∃ l, s.left = l + 1 := ⟨s.left - 1, by omega⟩
 rw [hl]
 simp only [QaV, if_pos ht]
 rw [QqJ hf l (f s.adv).2 Ya]
theorem QcN {f : RS → Nd × RS} {s : RS} (ht : ¬ s.token = [44]) : QaV f s.left s = ([], s) := by
 cases s.left <;> simp [QaV, ht]
theorem Qnj : ∀ (a b : List Nd), Qbw (a ++ b) = (Qbw a).app (Qbw b)
 | [], b => rfl
 | x :: a, b => by simp only [List.cons_append, Qbw, Ts.app, Qnj a b]
theorem QeD : ∀ l : List Nd, (Qbw l).length = l.length
 | [] => rfl
 | x :: r => by simp [Qbw, Ts.length, QeD r]
theorem St.conv {φ ψ : World → Prop} {w : World} (h : St M w0 H (φ :: F) w) (hp : ∀ w, φ w → ψ w) : St M w0 H (ψ :: F) w :=
 ⟨h.own, h.apart, h.ext, h.new, fun χ hχ w2 hw => by
  rcases List.mem_cons.1 hχ with rfl | hχ
  ·exact hp _ (h.facts φ (List.mem_cons_self ..) w2 hw)
  ·exact h.facts χ (List.mem_cons_of_mem _ hχ) w2 hw⟩
theorem St.conv2 {φ χ ψ : World → Prop} {w : World} (h : St M w0 H (φ :: χ :: F) w) (hp : ∀ w, φ w → χ w → ψ w) : St M w0 H (ψ :: F) w :=
 ⟨h.own, h.apart, h.ext, h.new, fun ξ hξ w2 hw => by
  rcases List.mem_cons.1 hξ with rfl | hξ
  ·exact hp _ (h.facts φ (List.mem_cons_self ..) w2 hw) (h.facts χ (List.mem_cons_of_mem _ (List.mem_cons_self ..)) w2 hw)
  ·exact h.facts ξ (List.mem_cons_of_mem _ (List.mem_cons_of_mem _ hξ)) w2 hw⟩
theorem St.shut {v : Value} {xs : List Value} {O : List (Nat × Obj)} {T : Ts} {w : World} {el : Nat} (hr : Row el 4 v T.length xs O) (hS : St M w0 (O ++ H) ((fun w => Cs w (fun _ => True) T xs) :: F) w) :
  St M w0 H ((fun w => Sl w (fun _ => True) v T) :: F) w := by
 have hC := hS.facts _ (List.mem_cons_self ..)
 have hb := (hS.unlearn.dropL).learn (φ := fun w => Sl w (fun _ => True) v T) fun w' hx => ?_
 ·exact hb
 generalize hl : T.length = tl at hr
 cases hr with
 | nil_ => exact ⟨none, 0, by rw [hl], by omega, fun h => by omega⟩
 | own_ h1 h2 h3 hcp =>
  rename_i bl cap sp
  have hbl : w.heap[bl]? = some (.cells (xs ++ sp).toArray el) := hS.own (bl, _) Yd
  have hnk : bl ∉ H.map (·.1) := fun hk => by
   obtain ⟨q, hq, e⟩ := List.mem_map.1 hk
   exact (List.pairwise_cons.1 hS.apart).1 q hq e.symm
  have hbl' : w'.heap[bl]? = some (.cells (xs ++ sp).toArray el) := by rw [hx.block bl (QcL hbl) hnk]; exact hbl
  have hcs := hC w' (hx.mono fun k _ hk => by simp at hk ⊢; exact .inr hk)
  refine ⟨_, cap, by rw [hl], by omega, fun _ => ⟨bl, 0, rfl, Cs.seg hcs (fun _ => trivial) fun j u hj => ?_⟩⟩
  have hjl : j < xs.length := by
   rcases Nat.lt_or_ge j xs.length with h | h
   ·exact h
   ·rw [List.getElem?_eq_none h] at hj; cases hj
  rw [Qu hbl', Nat.zero_add, List.getElem?_append_left hjl]; exact hj
theorem QkR (num : Str → Option Int) (G : World → Prop) (L1 : Qpp) (L2 : Qpv) (d : Nat) (hd : d ≤ 100) (ht : Qkv num G d) : QfJ num G d := by
 intro s V VH M w0 w H F b hG hl hl2 hV hS
 have hf := QaY num d
 obtain ⟨A, c, rfl⟩ := hV.form
 refine Qg Tryz.func43 rfl Tryz.ntmps43 rfl ?_
 refine Zj ?_
 refine Zac ?_
 refine Calls.mono (ht s _ VH M w0 _ H F b hG hl hl2 hV hS) ?_
 rintro _ w1 ⟨v, V1, VH1, rfl, hV1, hS'⟩
 refine Za ?_
 replace hS := hS'
 clear hS'
 obtain ⟨A1, c1, rfl, _⟩ := (hS.fact (.head _)).form
 refine ZdA ?_
 clear hS
 intro b1 wx1 hS
 refine Zc ?_
 refine Zap ?_
 have hi : QL (Qw num d) s = ([(Qw num d s).1] ++ (QaV (Qw num d) (Qw num d s).2.left (Qw num d s).2).1, (QaV (Qw num d) (Qw num d s).2.left (Qw num d s).2).2) := rfl
 have hles := hf s
 generalize hr : Qw num d s = r at *
 obtain ⟨nd, s1⟩ := r
 have hS0 := (St.sink (L := (b, rdr s1 V1) :: VH1) hS).conv (ψ := fun w => Cs w (fun _ => True) (Qbw [nd]) [.int .i64 nd.k, .int .i64 nd.n, sv nd.s, .slice A1 nd.ar.length c1]) fun w h => ⟨_, [], rfl, h, rfl⟩
 clear hS
 have hi' : QL (Qw num d) s = ([nd] ++ (QaV (Qw num d) s1.left s1).1, (QaV (Qw num d) s1.left s1).2) := hi
 clear hi
 refine Qo 5 (10 :: 11 :: 12 :: 13 :: 14 :: 15 :: 16 :: 17 :: 18 :: 19 :: 20 :: 21 :: 22 :: []) (fun (x : List Nd × RS) v w' => ∃ V VH O xs, Qol x.2.vars V VH ∧ Row 63 4 v x.1.length xs O ∧ St M w0 ((b, rdr x.2 V) :: (VH ++ (O ++ H))) ((fun w => Cs w (fun _ => True) (Qbw x.1) xs) :: F) w' ∧ x.1.length + x.2.left ≤ 1048577 ∧ x.2.left ≤ 1048576 ∧ x.2.vars.length + x.2.left ≤ 1048576 ∧ QL (Qw num d) s = (x.1 ++ (QaV (Qw num d) x.2.left x.2).1, (QaV (Qw num d) x.2.left x.2).2)) (fun x => x.2.left) (([nd], s1)) ?_ Yb ?_
 ·exact ⟨V1, VH1, _, _, hV1, Row.built rfl Ya, hS0, by simp at hles ⊢; omega, by simp at hles ⊢; omega, by simp at hles ⊢; omega, hi'⟩
 clear hS0 hi' hV1
 rintro ⟨D, s2⟩ v2 w2 jv ⟨V2, VH2, O2, xs2, hV2, hR2, hS, hD1, hD2, hD3, hi⟩ ih
 simp only at hV2 hR2 hS hD1 hD2 hD3 hi
 obtain ⟨A2, c2, rfl⟩ := hV2.form
 obtain ⟨Ao, co, rfl⟩ := hR2.form
 refine Zw ?_
 refine Zal ?_
 refine Zo ?_
 refine ZaP ?_
 refine Zb ?_
 refine Qcn rfl (fun h => ?_) (fun h => ?_)
 ·have h' : s2.token = [44] := by simpa using h
  have hlt := QcY s2 (by rw [h']; simp)
  have hrest : s2.rest.length ≤ 1048576 := by unfold RS.left at hD2; omega
  have hv := QbH s2
  refine Zb2 ?_
  refine ZG ?_
  refine Calls.mono (QeX L1 L2 s2 _ hrest hS) ?_
  rintro _ w3 ⟨rfl, hS'⟩
  refine Za ?_
  replace hS := hS'
  clear hS'
  refine Zb ?_
  refine Z1 ?_
  refine Z3 ?_
  refine Calls.mono (ht s2.adv _ VH2 M w0 _ (O2 ++ H) _ b hG Ya (by rw [hv]; omega) (by rw [hv]; exact hV2) hS) ?_
  rintro _ w4 ⟨v, V3, VH3, rfl, hV3, hS'⟩
  refine Za ?_
  replace hS := hS'
  clear hS'
  obtain ⟨A3, c3, rfl, _⟩ := (hS.fact (.head _)).form
  have hst := Qlo hf h'
  have hles3 := hf s2.adv
  rw [hv] at hles3
  generalize Qw num d s2.adv = r3 at *
  obtain ⟨nd3, s3⟩ := r3
  simp only at *
  refine ZdA ?_
  clear hS
  intro b2 wx2 hS
  refine Qa8 (sz := 4) (bts := 56) hS Yb rfl rfl rfl rfl (hR2) rfl rfl (.cons _ (List.perm_append_comm_assoc (_ :: VH3) O2 H)) Ya Ya rfl ?_
  clear hS
  intro v4 O4 w5 hR4 hS
  replace hS := (hS.perm (List.perm_append_comm_assoc O4 ((b, rdr s3 V3) :: VH3) H)).conv2 (ψ := fun w => Cs w (fun _ => True) (Qbw (D ++ [nd3])) (xs2 ++ [.int .i64 nd3.k, .int .i64 nd3.n, sv nd3.s, .slice A3 nd3.ar.length c3])) fun w h1 h2 => by
   rw [Qnj]; exact Cs.app h2 ⟨_, [], rfl, h1, rfl⟩
  obtain ⟨A4, c4, rfl⟩ := hR4.form
  refine Zc ?_
  refine ZaH ?_
  refine ih ((D ++ [nd3], s3)) _ _ _ ?_ ?_ Yb Yc
  ·simp only; omega
  ·refine ⟨V3, VH3, O4, _, hV3, ?_, hS, ?_, ?_, ?_, ?_⟩
   ·simp only [List.length_append, List.length_cons, List.length_nil]; exact hR4
   ·simp only [List.length_append, List.length_cons, List.length_nil]; omega
   ·simp only; omega
   ·simp only; omega
   ·simp only; rw [hi, hst]; simp
 ·have h' : ¬ s2.token = [44] := by simpa using h
  rw [QcN h', List.append_nil] at hi
  simp only at hi
  refine Zbf ?_
  refine ZQ ?_
  refine Qc Tryz.func43 rfl Yb ?_
  rw [hi]
  refine ⟨_, _, VH2, rfl, hV2, ?_⟩
  have hS2 := hS.perm (List.perm_append_comm_assoc ((b, rdr s2 (.slice A2 s2.vars.length c2)) :: VH2) O2 H)
  rw [← QeD D] at hR2
  rw [← QeD D]
  exact St.shut hR2 hS2
end
theorem Qkr (num : Str → Option Int) (G : World → Prop) (L1 : Qpp) (L2 : Qpv) (d : Nat) (ht : QfJ num G d) (s : RS) (V : Value) (VH : List (Nat × Obj)) (M : List Nat) (w0 w : World) (H : List (Nat × Obj)) (F : List (World → Prop)) (b : Nat) (hG : ∀ w', Ext M w0 w' → G w')
  (hl : s.left ≤ 1048576) (hl2 : s.vars.length + s.left ≤ 1048576) (hV : Qol s.vars V VH) (hS : St M w0 ((b, rdr s V) :: (VH ++ H)) F w) :
  Calls Tryz.prog 117 #[ptr b, .int .i64 (d : Nat)] w fun e w' => ∃ v V' VH', e = .returned v ∧
   Qol ((QL (Qw num d) (s.take [40])).2.take [41]).vars V' VH' ∧ St M w0 ((b, rdr ((QL (Qw num d) (s.take [40])).2.take [41]) V') :: (VH' ++ H)) ((fun w => Sl w (fun _ => True) v (Qbw (QL (Qw num d) (s.take [40])).1)) :: F) w' := by
 have hrest : s.rest.length ≤ 1048576 := by unfold RS.left at hl; omega
 have h1 := take_left s [40]
 have h2 := QbJ s [40]
 have h3 := QcI (QaY num d) (s.take [40])
 obtain ⟨A, c, rfl⟩ := hV.form
 refine Qg Tryz.func117 rfl Tryz.ntmps117 rfl ?_
 refine Za9 ?_
 refine Zf ?_
 refine Calls.mono (QgG L1 L2 s [40] _ hrest hS) ?_
 rintro _ w1 ⟨rfl, hS'⟩
 refine Za ?_
 replace hS := hS'
 clear hS'
 refine Zb ?_
 refine Zac ?_
 refine Calls.mono (ht (s.take [40]) _ VH M w0 _ H F b hG Ya (by rw [h2]; omega) (by rw [h2]; exact hV) hS) ?_
 rintro _ w2 ⟨v, V1, VH1, rfl, hV1, hS'⟩
 refine Za ?_
 replace hS := hS'
 clear hS'
 obtain ⟨A1, c1, rfl⟩ := hV1.form
 obtain ⟨A2, c2, rfl, _⟩ := (hS.fact (.head _)).form
 refine Z2 ?_
 have hrest2 : (QL (Qw num d) (s.take [40])).2.rest.length ≤ 1048576 := by
  have := h3.1; unfold RS.left at *; omega
 refine Zf ?_
 refine Calls.mono (QgG L1 L2 _ [41] _ hrest2 hS) ?_
 rintro _ w3 ⟨rfl, hS'⟩
 refine Za ?_
 replace hS := hS'
 clear hS'
 refine Zcq ?_
 refine Qc Tryz.func117 rfl Yb ?_
 exact ⟨_, _, VH1, rfl, by rw [QbJ]; exact hV1, hS⟩
theorem QaJ (num : Str → Option Int) (d : Nat) {s : RS} {c : UInt8} {r : Str} (h : s.token = c :: r) : Qw num (d + 1) s =
  if upB c then (⟨0, (s.adv.var (c :: r)).1, [], .nil⟩, (s.adv.var (c :: r)).2)
  else if QdQ c && (s.adv.token == [40]) then (⟨3, 0, c :: r, Qbw (QL (Qw num d) (s.adv.take [40])).1⟩, (QL (Qw num d) (s.adv.take [40])).2.take [41])
  else if QdQ c || (c == 33) then (⟨1, 0, c :: r, .nil⟩, s.adv)
  else if Qbu c || (c == 45) then (⟨2, (s.adv.number num (c :: r)).1, [], .nil⟩, (s.adv.number num (c :: r)).2)
  else (Nd.zero, s.adv.fail 1) := by
 rw [Qw, if_neg (by rw [h]; simp)]
 simp only [h, Qes]
theorem Qnl (num : Str → Option Int) (G : World → Prop) (L1 : Qpp) (L2 : Qpv) (L3 : Quz num G) (d : Nat) (hd : d ≤ 100) (ht : ∀ e, d = e + 1 → QfJ num G e) : Qkv num G d := by
 intro s V VH M w0 w H F b hG hl hl2 hV hS
 obtain ⟨A, vc, rfl⟩ := hV.form
 have hnil : ∀ w : World, Sl w (fun _ => True) (.slice none 0 0) .nil := fun w => ⟨none, 0, rfl, Nat.le_refl _, fun h => by cases h⟩
 cases d with
 | zero =>
  refine Qg Tryz.func72 rfl Tryz.ntmps72 rfl ?_
  refine Zg ?_
  refine ZX ?_
  clear hS
  intro b1 wx1 hS
  refine ZaZ ?_
  refine Zn ?_
  refine Zc5 ?_
  refine ZaK ?_
  refine Zm ?_
  replace hS := hS.swap
  refine Zf ?_
  refine Zcd ?_
  rintro _ w1 ⟨rfl, hS'⟩
  refine Za ?_
  replace hS := hS'
  clear hS'
  refine Za0 ?_
  refine ZbH ?_
  clear hS
  intro wx2 hS
  refine ZbI ?_
  exact ⟨.slice none 0 0, _, VH, rfl, hV, hS.swap.drop.learn fun w _ => hnil w⟩
 | succ d =>
  obtain ⟨tok, rst, vars, er⟩ := s
  cases tok with
  | nil =>
   refine Qg Tryz.func72 rfl Tryz.ntmps72 rfl ?_
   refine Zg ?_
   refine ZX ?_
   clear hS
   intro b1 wx1 hS
   refine ZaZ ?_
   refine Zco ?_
   refine Zb3 ?_
   refine Zb4 ?_
   refine ZaP ?_
   refine ZaK ?_
   refine Zm ?_
   replace hS := hS.swap
   refine Zf ?_
   refine Calls.mono (Qcw ⟨[], rst, vars, er⟩ 1 _ hS) ?_
   rintro _ w1 ⟨rfl, hS'⟩
   refine Za ?_
   replace hS := hS'
   clear hS'
   refine Za0 ?_
   refine ZbH ?_
   clear hS
   intro wx2 hS
   refine ZbI ?_
   exact ⟨.slice none 0 0, _, VH, rfl, hV, hS.swap.drop.learn fun w _ => hnil w⟩
  | cons c r =>
   generalize hs : (⟨c :: r, rst, vars, er⟩ : RS) = s at *
   have htk : s.token = c :: r := by rw [← hs]
   have hhd : Qes s.token = c := by rw [htk]; rfl
   have hne : ¬ s.token = [] := by rw [htk]; simp
   have hlt := QcY s hne
   have hrest : s.rest.length ≤ 1048576 := by unfold RS.left at hl; omega
   have hv := QbH s
   have hvl := QgE s.adv (c :: r)
   have hV1 : Qol s.adv.vars (.slice A s.vars.length vc) VH := by rw [hv]; exact hV
   subst hs
   refine Qg Tryz.func72 rfl Tryz.ntmps72 rfl ?_
   refine Zg ?_
   refine ZX ?_
   clear hS
   intro b1 wx1 hS
   refine ZaZ ?_
   refine Zco ?_
   refine Zb3 ?_
   refine Zb4 ?_
   refine ZaP ?_
   refine Z8 ?_
   refine ZcY ?_
   refine Z2 ?_
   replace hS := hS.sink1
   refine Zk ?_
   refine Calls.mono (QeX L1 L2 ⟨c :: r, rst, vars, er⟩ _ hrest hS) ?_
   rintro _ w1 ⟨rfl, hS'⟩
   refine Za ?_
   replace hS := hS'
   clear hS'
   refine ZaZ ?_
   refine ZbT ?_
   refine Zc ?_
   refine ZbQ ?_
   refine ZG ?_
   refine Calls.mono (QhP c _) ?_
   rintro _ w2 ⟨rfl, rfl⟩
   refine ZH ?_
   generalize hs : (⟨c :: r, rst, vars, er⟩ : RS) = s at *
   rw [htk]
   cases hu : upB c with
   | true =>
    have e : Qw num (d + 1) s = (⟨0, (s.adv.var (c :: r)).1, [], .nil⟩, (s.adv.var (c :: r)).2) := by
     rw [QaJ num d htk]; simp [*]
    refine ZI ?_
    refine Zac ?_
    refine Calls.mono (QkG s.adv (c :: r) _ VH _ hV1 (by rw [hv]; omega) hS) ?_
    rintro _ w3 ⟨V', VH', rfl, hV', hS'⟩
    refine Za ?_
    replace hS := hS'.raise1
    clear hS'
    refine Zb5 ?_
    clear hS
    intro wx2 hS
    refine ZbI ?_
    rw [e]
    exact ⟨.slice none 0 0, V', VH', rfl, hV', hS.drop.learn fun w _ => hnil w⟩
   | false =>
    refine ZR ?_
    refine ZG ?_
    refine Calls.mono (QbD c _) ?_
    rintro _ w3 ⟨rfl, rfl⟩
    refine Za ?_
    refine Ze ?_
    cases hlo : QdQ c with
    | true =>
     refine ZO ?_
     refine Zb3 ?_
     refine Zb4 ?_
     refine ZaP ?_
     refine ZN ?_
     refine Qcn rfl (fun h => ?_) (fun h => ?_)
     ·have h' : (s.adv.token == [40]) = true := h
      have e : Qw num (d + 1) s = (⟨3, 0, c :: r, Qbw (QL (Qw num d) (s.adv.take [40])).1⟩, (QL (Qw num d) (s.adv.take [40])).2.take [41]) := by
       rw [QaJ num d htk]; simp [*]
      refine Zbz ?_
      refine Zay ?_
      refine Zf ?_
      have ha := Qkr num G L1 L2 d (ht d rfl) s.adv _ VH M w0 _ _ F b hG Ya (by rw [hv]; omega) hV1 hS
      rw [show ((d : Nat) : Int) = ((d + 1 : Nat) : Int) - 1 by omega] at ha
      refine Calls.mono ha ?_
      rintro _ w4 ⟨v, V', VH', rfl, hV', hS'⟩
      refine Za ?_
      replace hS := hS'.raise1
      clear hS'
      obtain ⟨A2, c2, rfl, _⟩ := (hS.fact (.head _)).form
      refine Zfx ?_
      refine Zd ?_
      clear hS
      intro wx2 hS
      refine ZbI ?_
      rw [e]
      exact ⟨_, V', VH', rfl, hV', hS.drop⟩
     ·have h' : (s.adv.token == [40]) = false := h
      have e : Qw num (d + 1) s = (⟨1, 0, c :: r, .nil⟩, s.adv) := by
       rw [QaJ num d htk]; simp [*]
      replace hS := hS.raise1
      refine ZG ?_
      refine Calls.mono (QbD c _) ?_
      rintro _ w4 ⟨rfl, rfl⟩
      refine Za ?_
      refine Ze ?_
      rw [hlo]
      refine ZY ?_
      refine Zcn ?_
      refine Zm ?_
      refine Zb5 ?_
      clear hS
      intro wx2 hS
      refine ZbI ?_
      rw [e]
      exact ⟨.slice none 0 0, _, VH, rfl, hV1, hS.drop.learn fun w _ => hnil w⟩
    | false =>
     refine ZY ?_
     refine ZY ?_
     refine Zan ?_
     refine Zc8 ?_
     refine ZG ?_
     refine Calls.mono (QbD c _) ?_
     rintro _ w4 ⟨rfl, rfl⟩
     refine Za ?_
     refine Ze ?_
     rw [hlo]
     by_cases h33 : c = 33
     ·have hc33 : (c == 33) = true := by simp [h33]
      have e : Qw num (d + 1) s = (⟨1, 0, c :: r, .nil⟩, s.adv) := by
       rw [QaJ num d htk]; simp only [hu, hlo, hc33]; rfl
      replace hS := hS.raise1
      have h33' : ((c.toNat : Nat) : Int) = 33 := by rw [h33]; rfl
      refine ZO ?_
      refine Zn ?_
      refine Zcn ?_
      refine Zm ?_
      refine Zb5 ?_
      clear hS
      intro wx2 hS
      refine ZbI ?_
      rw [e]
      exact ⟨.slice none 0 0, _, VH, rfl, hV1, hS.drop.learn fun w _ => hnil w⟩
     ·have h33' : ((c.toNat : Nat) : Int) ≠ 33 := fun h => h33 (QtV (n := 33) Ya)
      refine ZO ?_
      refine Zn ?_
      refine Zc8 ?_
      refine ZG ?_
      refine Calls.mono (Qdc c _) ?_
      rintro _ w5 ⟨rfl, rfl⟩
      refine Za ?_
      refine Ze ?_
      cases hdg : Qbu c with
      | true =>
       have e : Qw num (d + 1) s = (⟨2, (s.adv.number num (c :: r)).1, [], .nil⟩, (s.adv.number num (c :: r)).2) := by
        rw [QaJ num d htk]; simp [hu, hlo, h33, hdg]
       refine ZY ?_
       refine Zcn ?_
       refine Zac ?_
       refine Zfy ?_
       rintro _ w6 ⟨rfl, hS'⟩
       refine Za ?_
       replace hS := hS'
       clear hS'
       replace hS := hS.raise1
       refine Zb5 ?_
       clear hS
       intro wx2 hS
       refine ZbI ?_
       rw [e]
       exact ⟨.slice none 0 0, _, VH, rfl, by rw [(Qcj num s.adv (c :: r)).2]; exact hV1, hS.drop.learn fun w _ => hnil w⟩
      | false =>
       by_cases h45 : c = 45
       ·have h45' : ((c.toNat : Nat) : Int) = 45 := by rw [h45]; rfl
        have e : Qw num (d + 1) s = (⟨2, (s.adv.number num (c :: r)).1, [], .nil⟩, (s.adv.number num (c :: r)).2) := by
         have hc33 : (c == 33) = false := by simp [h33]
         have hc45 : (c == 45) = true := by simp [h45]
         rw [QaJ num d htk]; simp only [hu, hlo, hdg, hc33, hc45]; rfl
        refine ZO ?_
        refine Zn ?_
        refine Zcn ?_
        refine Zac ?_
        refine Zfy ?_
        rintro _ w6 ⟨rfl, hS'⟩
        refine Za ?_
        replace hS := hS'
        clear hS'
        replace hS := hS.raise1
        refine Zb5 ?_
        clear hS
        intro wx2 hS
        refine ZbI ?_
        rw [e]
        exact ⟨.slice none 0 0, _, VH, rfl, by rw [(Qcj num s.adv (c :: r)).2]; exact hV1, hS.drop.learn fun w _ => hnil w⟩
       ·have h45' : ((c.toNat : Nat) : Int) ≠ 45 := fun h => h45 (QtV (n := 45) Ya)
        have e : Qw num (d + 1) s = (Nd.zero, s.adv.fail 1) := by
         rw [QaJ num d htk]; simp [hu, hlo, h33, hdg, h45]
        refine ZO ?_
        refine Zn ?_
        refine Zc8 ?_
        refine ZbD ?_
        refine Zbq ?_
        refine Calls.mono (Qcw s.adv 1 _ hS) ?_
        rintro _ w6 ⟨rfl, hS'⟩
        refine Za ?_
        replace hS := hS'
        clear hS'
        replace hS := hS.raise1
        refine Za0 ?_
        refine ZbH ?_
        clear hS
        intro wx2 hS
        refine ZbI ?_
        rw [e]
        exact ⟨.slice none 0 0, _, VH, rfl, hV1, hS.drop.learn fun w _ => hnil w⟩
theorem Qhd (num : Str → Option Int) (G : World → Prop) (L1 : Qpp) (L2 : Qpv) (L3 : Quz num G) : ∀ d, d ≤ 100 → Qkv num G d
 | 0, hd => Qnl num G L1 L2 L3 0 hd fun e h => by cases h
 | d + 1, hd => Qnl num G L1 L2 L3 (d + 1) hd fun e h => by cases h; exact QkR num G L1 L2 d Ya (Qhd num G L1 L2 L3 d Ya)
theorem QiM (num : Str → Option Int) (G : World → Prop) (L1 : Qpp) (L2 : Qpv) (L3 : Quz num G) (d : Nat) (hd : d ≤ 100) : QfJ num G d := QkR num G L1 L2 d hd (Qhd num G L1 L2 L3 d hd)
def QdP (c : UInt8) : Bool := decide (97 ≤ c.toNat) && decide (c.toNat ≤ 122)
def Qeq (s : ByteArray) : Bool := decide (s.data.toList = [33]) || (decide (1 ≤ s.size) && decide (s.size ≤ 8) && s.data.toList.all QdP)
theorem Qlr (s : ByteArray) (k : Nat) (h : k < s.size) : s.data.toList.take (k + 1) = s.data.toList.take k ++ [s[k]] :=
 List.take_succ_eq_append_getElem (l := s.data.toList) (i := k) (by simpa using h)
theorem Ql0 {s : ByteArray} {k : Nat} {c : UInt8} (h : s.data.toList.take (k + 1) = s.data.toList.take k ++ [c]) (hc : QdP c = false) : s.data.toList.all QdP = false := by
 have e : s.data.toList = s.data.toList.take (k + 1) ++ s.data.toList.drop (k + 1) := (List.take_append_drop _ _).symm
 rw [e, List.all_append, h, List.all_append]
 simp [hc]
set_option maxHeartbeats 400000 in
theorem Qld (s : ByteArray) (w : World) : Calls Tryz.prog 184 #[.string s] w fun e w' => e = .returned (.bool (Qeq s)) ∧ w = w' := by
 by_cases h0 : s.data.toList = [33]
 ·have r : Qeq s = true := by simp [Qeq, h0]
  have h1 : s.toList = [33] := by rw [ByteArray.toList_eq]; exact h0
  rw [r]
  clear r h0
  go_enter Tryz.func184, Tryz.ntmps184
  go_wp2_with fail
  go_ret
  exact ⟨rfl, rfl⟩
 have h1 : (s.toList == [33]) = false := by rw [ByteArray.toList_eq]; simpa using h0
 by_cases h2 : s.size < 1
 ·have r : Qeq s = false := by simp [Qeq, h0]; omega
  rw [r]
  clear r h0
  go_enter Tryz.func184, Tryz.ntmps184
  go_wp2_with fail
  go_ret
  exact ⟨rfl, rfl⟩
 by_cases h3 : 8 < s.size
 ·have r : Qeq s = false := by simp [Qeq, h0]; omega
  rw [r]
  clear r h0
  go_enter Tryz.func184, Tryz.ntmps184
  go_wp2_with fail
  go_ret
  exact ⟨rfl, rfl⟩
 have r : Qeq s = s.data.toList.all QdP := by
  have a : 1 ≤ s.size := by omega
  have b : s.size ≤ 8 := by omega
  simp [Qeq, h0, a, b]
 have R := Lib.hid r
 clear r h0
 go_enter Tryz.func184, Tryz.ntmps184
 go_wp2_with fail
 go_loopg [16] s.size (fun g i wr => w = wr ∧ ∃ k : Nat, k ≤ s.size ∧ g = s.size - k ∧ i = .int .i64 k ∧ (s.data.toList.take k).all QdP = true)
 case atStart => exact ⟨rfl, 0, Nat.zero_le _, rfl, rfl, rfl⟩
 case round =>
  obtain ⟨rfl, k, hk, hg, rfl, ha⟩ := hrel
  have HA := Lib.hid ha
  have HG := Lib.hid hg
  clear ha hg
  by_cases hlt : k < s.size
  ·have hts := Qlr s k hlt
   have hbig := s[k].toNat_lt
   by_cases hlo : (s[k].toNat : Int) < 97
   ·have hf := Lib.hid (Ql0 hts (show QdP s[k] = false by simp [QdP]; omega))
    clear hts
    go_wp2_with fail
    go_ret
    exact ⟨by rw [R.out, hf.out]; rfl, rfl⟩
   by_cases hhi : (122 : Int) < (s[k].toNat : Int)
   ·have hf := Lib.hid (Ql0 hts (show QdP s[k] = false by simp [QdP]; omega))
    clear hts
    go_wp2_with fail
    go_ret
    exact ⟨by rw [R.out, hf.out]; rfl, rfl⟩
   ·have hf : Hid ((s.data.toList.take (k + 1)).all QdP = true) := Lib.hid (by
     rw [hts, List.all_append, HA.out]
     simp [QdP]; omega)
    clear hts
    go_wp2_with fail
    go_roundg (s.size - (k + 1))
    case measure => rw [HG.out]; omega
    case rel => exact ⟨rfl, k + 1, by omega, rfl, rfl, hf.out⟩
  ·go_wp2_with fail
   go_ret
   refine ⟨?_, rfl⟩
   have h4 := HA.out
   rw [List.take_of_length_le Yh] at h4
   rw [R.out, h4]; rfl
end Go.Proofs.YthliapbflkfdiacGreatDoor
namespace Go.Proofs
open Go.Shelf
def Tryz.lays160_ren : Go.Shelf.Ren := ⟨fun | 160 => 225 | 232 => 241 | 231 => 168 | 227 => 169 | 234 => 242 | 233 => 170 | 236 => 243 | 235 => 171 | 228 => 204 | 271 => 252 | 151 => 206 | 197 => 205 | 120 => 255 | 152 => 232 | 260 => 231 | 137 => 129 | 119 => 246 | 224 => 247 | 225 => 248 | 217 => 182 | 266 => 213 | n => n, fun | 9 => 9 | 4 => 4 | 3 => 3 | 5 => 5 | 117 => 233 | 116 => 232 | 0 => 0 | 124 => 236 | 21 => 21 | 105 => 262 | 46 => 276 | 119 => 286 | 139 => 289 | 138 => 288 | n => n, fun | 3 => 3 | 4 => 4 | n => n⟩
theorem Tryz.lays160 : Go.Proofs.Lays.n160 Tryz.prog Tryz.lays160_ren := {
 mixed := by kernel_rfl
 f119 := Tryz.func246.trans (congrArg some (by kernel_rfl))
 f120 := Tryz.func255.trans (congrArg some (by kernel_rfl))
 f137 := Tryz.func129.trans (congrArg some (by kernel_rfl))
 f151 := Tryz.func206.trans (congrArg some (by kernel_rfl))
 f152 := Tryz.func232.trans (congrArg some (by kernel_rfl))
 f160 := Tryz.func225.trans (congrArg some (by kernel_rfl))
 f197 := Tryz.func205.trans (congrArg some (by kernel_rfl))
 f217 := Tryz.func182.trans (congrArg some (by kernel_rfl))
 f224 := Tryz.func247.trans (congrArg some (by kernel_rfl))
 f225 := Tryz.func248.trans (congrArg some (by kernel_rfl))
 f227 := Tryz.func169.trans (congrArg some (by kernel_rfl))
 f228 := Tryz.func204.trans (congrArg some (by kernel_rfl))
 f231 := Tryz.func168.trans (congrArg some (by kernel_rfl))
 f232 := Tryz.func241.trans (congrArg some (by kernel_rfl))
 f233 := Tryz.func170.trans (congrArg some (by kernel_rfl))
 f234 := Tryz.func242.trans (congrArg some (by kernel_rfl))
 f235 := Tryz.func171.trans (congrArg some (by kernel_rfl))
 f236 := Tryz.func243.trans (congrArg some (by kernel_rfl))
 f260 := Tryz.func231.trans (congrArg some (by kernel_rfl))
 f266 := Tryz.func213.trans (congrArg some (by kernel_rfl))
 f271 := Tryz.func252.trans (congrArg some (by kernel_rfl))
 t0 := Tryz.underlying0
 a0 := Tryz.isAgg0
 z0 := Tryz.sizeOf0
 v0 := Tryz.zeroValue0
 t3 := Tryz.underlying3
 a3 := Tryz.isAgg3
 z3 := Tryz.sizeOf3
 v3 := Tryz.zeroValue3
 t4 := Tryz.underlying4
 a4 := Tryz.isAgg4
 z4 := Tryz.sizeOf4
 v4 := Tryz.zeroValue4
 t5 := Tryz.underlying5
 a5 := Tryz.isAgg5
 z5 := Tryz.sizeOf5
 v5 := Tryz.zeroValue5
 t9 := Tryz.underlying9
 a9 := Tryz.isAgg9
 z9 := Tryz.sizeOf9
 v9 := Tryz.zeroValue9
 t21 := Tryz.underlying21
 a21 := Tryz.isAgg21
 z21 := Tryz.sizeOf21
 v21 := Tryz.zeroValue21
 t46 := Tryz.underlying276
 a46 := Tryz.isAgg276
 z46 := Tryz.sizeOf276
 v46 := Tryz.zeroValue276
 t105 := Tryz.underlying262
 a105 := Tryz.isAgg262
 z105 := Tryz.sizeOf262
 v105 := Tryz.zeroValue262
 t116 := Tryz.underlying232
 a116 := Tryz.isAgg232
 z116 := Tryz.sizeOf232
 t117 := Tryz.underlying233
 a117 := Tryz.isAgg233
 z117 := Tryz.sizeOf233
 v117 := Tryz.zeroValue233
 t119 := Tryz.underlying286
 a119 := Tryz.isAgg286
 z119 := Tryz.sizeOf286
 t124 := Tryz.underlying236
 a124 := Tryz.isAgg236
 z124 := Tryz.sizeOf236
 v124 := Tryz.zeroValue236
 t138 := Tryz.underlying288
 a138 := Tryz.isAgg288
 z138 := Tryz.sizeOf288
 v138 := Tryz.zeroValue288
 t139 := Tryz.underlying289
 a139 := Tryz.isAgg289
 z139 := Tryz.sizeOf289
 v139 := Tryz.zeroValue289
 g3 := by kernel_rfl
 g4 := by kernel_rfl }
end Go.Proofs
namespace Go.Proofs.YthliapbflkfdiacGreatDoor
open Go.RowKit Go.Shelf
theorem QqV : (Tryz.prog.info? 63).map (fun i => (i.zero, i.size, i.bytes)) = some (some (.agg #[.int .i64 0, .int .i64 0, .string .empty, .slice none 0 0]), 4, 56) := by kernel_rfl
end Go.Proofs.YthliapbflkfdiacGreatDoor
