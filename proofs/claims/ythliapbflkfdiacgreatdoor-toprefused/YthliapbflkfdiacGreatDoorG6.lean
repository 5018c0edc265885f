/- EWalk2, NumB, RefM, RefN, RefEq, RefEq2, IntMap, MapM, Program: texts that follow one another, laid into one file. -/
import Derived.Test.YthliapbflkfdiacGreatDoorZ0
import Derived.Test.YthliapbflkfdiacGreatDoorG5
import Derived.Test.YthliapbflkfdiacGreatDoorG4
import Derived.Test.YthliapbflkfdiacGreatDoorG1
import Derived.MapKept
import Derived.Maps.OwnOps
import Derived.Test.YthliapbflkfdiacGreatDoorG2
namespace Go.Proofs.YthliapbflkfdiacGreatDoor
open Go.RowKit Go.Shelf
set_option linter.unusedVariables false
set_option linter.unusedSimpArgs false
set_option maxRecDepth 100000
set_option maxHeartbeats 1000000
def Qfy (w : World) : Prop := ∀ i : Nat, i < 7 → w.cell? ⟨0, i, none⟩ = some (sv (Qii (i : Nat)))
theorem QrM (k : Int) : (Qii k).length ≤ 6 := by
 unfold Qii
 repeat' split
 all_goals decide
theorem Qsp (k : Int) (T : Ts) (v : Value) (w0 : World) (hG : ∀ w', Ext [] w0 w' → QcC w') (hW : ∀ w', Ext [] w0 w' → Qfy w') (hv : Sl w0 (fun _ => True) v T) (hr : rng T) (hN : T.nodes ≤ 1048576) (hl : (Qcy k T).length ≤ 1073741824) :
  Calls Tryz.prog 18 #[.agg #[.int .i64 k, v]] w0 fun e w' => e = .returned (sv (Qcy k T)) ∧ Below w0.heap.size w0 w' := by
 have hS := St.start w0
 obtain ⟨A, c, rfl, hv⟩ := hv.form
 refine Qh Tryz.func18 rfl Tryz.ntmps18 rfl ?_
 by_cases h0 : k < 0
 ·have e : Qcy k T = [] := by unfold Qcy Qii; repeat' rw [if_neg Ya]
  rw [e]
  refine Zi ?_
  clear hS
  intro b1 wx1 hS
  refine ZcS ?_
  refine ZB ?_
  refine Zdf ?_
  refine Za3 ?_
  refine Zeh ?_
  exact ⟨rfl, hS.ext.below⟩
 by_cases h7 : 7 ≤ k
 ·have e : Qcy k T = [] := by unfold Qcy Qii; repeat' rw [if_neg Ya]
  rw [e]
  refine Zi ?_
  clear hS
  intro b1 wx1 hS
  refine ZcS ?_
  refine ZB ?_
  refine Zw ?_
  refine ZbZ ?_
  refine Zaf ?_
  refine Za3 ?_
  refine Zeh ?_
  exact ⟨rfl, hS.ext.below⟩
 obtain ⟨i, rfl⟩ : ∃ i : Nat, k = i := ⟨k.toNat, by omega⟩
 have hwc : ∀ w', Ext [] w0 w' → w'.cell? ⟨0, 0 + ((i : Nat) : Int).toNat * 1, none⟩ = some (sv (Qii (i : Nat))) := fun w' h => by
  have := hW w' h i Ya
  rwa [show 0 + ((i : Nat) : Int).toNat * 1 = i by omega]
 have hwl := QrM (i : Nat)
 by_cases h1 : ((i : Nat) : Int) = 1
 ·have e : Qcy (i : Nat) T = Qii (i : Nat) ++ QbQ 0 T := by unfold Qcy; rw [if_pos h1, h1]; rfl
  rw [e] at hl ⊢
  rw [List.length_append] at hl
  refine Zi ?_
  clear hS
  intro b1 wx1 hS
  refine ZJ ?_
  refine Zdg ?_
  refine ZB ?_
  refine Zw ?_
  refine Zbj ?_
  refine ZcF ?_
  refine Zs ?_
  refine Zaf ?_
  refine Zaq ?_
  refine Zdg ?_
  refine ZfI ?_
  refine ZcF ?_
  refine ZJ ?_
  refine Zdg ?_
  refine Zk ?_
  refine Zcy ?_
  refine ZQ ?_
  refine ZcF ?_
  refine Zj ?_
  refine Calls.mono (Qoe T _ _ (fun w' h => hG w' (hS.ext.trans h)) (hv.below hS.ext.below) hr hN Ya) ?_
  rintro _ w3 ⟨rfl, hb3⟩
  refine Za ?_
  replace hS := hS.grow hb3
  refine Qa (Qov rfl rfl (by first | omega | (simp; done) | (simp; omega))) rfl ?_
  refine Zg ?_
  refine Zeh ?_
  exact ⟨rfl, hS.ext.below⟩
 ·have e : Qcy (i : Nat) T = Qii (i : Nat) := by unfold Qcy; rw [if_neg h1]
  rw [e]
  refine Zi ?_
  clear hS
  intro b1 wx1 hS
  refine ZJ ?_
  refine Zdg ?_
  refine ZB ?_
  refine Zw ?_
  refine Zbj ?_
  refine ZcF ?_
  refine Zs ?_
  refine Zaf ?_
  refine Zaq ?_
  refine Zdg ?_
  refine ZfI ?_
  refine ZcF ?_
  refine ZJ ?_
  refine Zdg ?_
  refine Zk ?_
  refine Zr ?_
  refine ZP ?_
  refine Zeh ?_
  exact ⟨rfl, hS.ext.below⟩
theorem Qk0 : ∀ (l m : Str) (acc a : Nat), Lib.parseUint10 acc l = .ok a → Lib.parseUint10 acc (l ++ m) = Lib.parseUint10 a m
 | [], m, acc, a, h => by
  simp only [Lib.parseUint10, Lib.NumEnd.ok.injEq] at h
  subst h; rfl
 | c :: r, m, acc, a, h => by
  simp only [List.cons_append, Lib.parseUint10] at h ⊢
  split at h
  ·rename_i hc
   rw [if_pos hc]
   split at h
   ·cases h
   ·rename_i h1
    rw [if_neg h1]
    split at h
    ·cases h
    ·rename_i h2
     rw [if_neg h2]
     exact Qk0 r m _ a h
  ·cases h
theorem Qh1 (d : Nat) (h : d < 10) : (UInt8.ofNat (48 + d)).toNat = 48 + d := by
 rw [UInt8.toNat_ofNat']; omega
theorem Qgi (u : Nat) (h : u < 9223372036854775808) : Lib.parseUint10 0 (Lib.decDigits u) = .ok u := by
 induction u using Nat.strongRecOn with
 | ind u ih =>
  by_cases h10 : u < 10
  ·rw [Lib.decDigits_one h10]
   have := Qh1 u h10
   simp only [Lib.parseUint10, this]
   rw [if_pos Ya, if_neg Ya, if_neg Ya]
   simp
  ·rw [Lib.decDigits, dif_neg h10, Qk0 _ _ _ _ (ih (u / 10) Ya Ya)]
   have := Qh1 (u % 10) Ya
   simp only [Lib.parseUint10, this]
   rw [if_pos Ya, if_neg Ya, if_neg Ya]
   congr 1
   omega
theorem QdS (u : Nat) : Lib.decDigits u ≠ [] := by
 rw [Lib.decDigits]
 split <;> simp
theorem Qjm (u : Nat) : ∀ c ∈ Lib.decDigits u, Qbs c = true := by
 have hd : ∀ d, d < 10 → Qbs (UInt8.ofNat (48 + d)) = true := fun d h => by
  have := Qh1 d h
  simp only [Qbs, this]
  simp; omega
 induction u using Nat.strongRecOn with
 | ind u ih =>
  by_cases h10 : u < 10
  ·rw [Lib.decDigits_one h10]
   intro c hc
   rw [List.mem_singleton.1 hc]
   exact hd u h10
  ·rw [Lib.decDigits, dif_neg h10]
   intro c hc
   rcases List.mem_append.1 hc with hc | hc
   ·exact ih (u / 10) Ya c hc
   ·rw [List.mem_singleton.1 hc]
    exact hd _ Ya
theorem QfR : ∀ (k u : Nat), u < 10 ^ (k + 1) → Lib.nDigits u ≤ k + 1
 | 0, u, h => by rw [Lib.nDigits_small (by simpa using h)]; omega
 | k + 1, u, h => by
  by_cases h10 : u < 10
  ·rw [Lib.nDigits_small h10]; omega
  ·rw [Lib.nDigits_big h10]
   have := QfR k (u / 10) (by rw [Nat.pow_succ] at h; omega)
   omega
theorem Qt7 (c : UInt8) (h : Qbs c = true) : c.toNat ≠ 43 ∧ c.toNat ≠ 45 := by
 simp [Qbs] at h; omega
theorem Qrb (n : Int) (h0 : -1099511627776 ≤ n) (h1 : n ≤ 1099511627776) : Lib.atoiAll (Lib.itoa n) = .ok n := by
 unfold Lib.itoa
 split
 ·have hp := Qgi n.natAbs Ya
  have hne := QdS n.natAbs
  simp only [Lib.atoiAll, Lib.parseMag]
  have e1 : (UInt8.toNat 45 = 43 ∨ UInt8.toNat 45 = 45) = True := eq_true Yg
  have e2 : (UInt8.toNat 45 = 45) = True := eq_true Yg
  simp only [e2, or_true, if_true]
  rw [if_neg hne, hp]
  simp only [not_true_eq_false, false_and, if_false, true_and]
  rw [if_neg Ya]
  congr 1; omega
 ·have hp := Qgi n.toNat Ya
  cases hl : Lib.decDigits n.toNat with
  | nil => exact absurd hl (QdS _)
  | cons c r =>
   have hc := Qt7 c (Qjm n.toNat c (by rw [hl]; exact .head _))
   rw [hl] at hp
   simp only [Lib.atoiAll, Lib.parseMag]
   simp only [hc.1, hc.2, or_self, if_false]
   rw [if_neg Yd, hp]
   simp only [not_false_eq_true, true_and, false_and, if_false]
   rw [if_neg Ya]
   congr 1; omega
theorem Qqd (n : Int) (h0 : -1099511627776 ≤ n) (h1 : n ≤ 1099511627776) : QO (Lib.itoa n) = some n := by
 unfold QO
 rw [Qrb n h0 h1]
 simp only
 rw [if_pos ⟨trivial, h0, h1⟩]
def Qas : Str → Nat
 | [] => 0
 | c :: r =>
  if QdH c || upB c then 1 + Qbe QdH r
  else if Qbs c || (c == 45) then 1 + Qbe Qbs r
  else if ([58, 45] : Str).isPrefixOf (c :: r) then 2
  else if Qee.contains c then 1
  else 0
def QbW : Nat → Str → List Str
 | 0, _ => []
 | f + 1, [] => []
 | f + 1, c :: r =>
  if QiC c then QbW f r
  else if Qas (c :: r) = 0 then [[]]
  else (c :: r).take (Qas (c :: r)) :: QbW f ((c :: r).drop (Qas (c :: r)))
def Qco (l : Str) : List Str := QbW l.length l
theorem QcD : ∀ (n : Nat) (l : Str), l.length ≤ n → QbW n l = Qco l := by
 intro n
 induction n using Nat.strongRecOn with
 | _ n ih =>
  intro l hn
  cases l with
  | nil => cases n <;> rfl
  | cons c r =>
   obtain ⟨m, rfl⟩ : ∃ m, n = m + 1 := ⟨n - 1, by simp at hn; omega⟩
   unfold Qco
   simp only [List.length_cons] at hn ⊢
   simp only [QbW]
   split
   ·rw [ih m Ya r Ya]; rfl
   split
   ·rfl
   ·rename_i hw
    have hl : ((c :: r).drop (Qas (c :: r))).length ≤ r.length := by
     rw [List.length_drop]; simp; omega
    rw [ih m Ya _ Ya]
    by_cases e : m = r.length
    ·rw [e] at ih; rw [← ih r.length Ya _ hl]
    ·rw [← ih r.length Ya _ hl]
theorem Ql5 {c : UInt8} (r : Str) (h : QiC c = true) : Qco (c :: r) = Qco r := by
 rw [← QcD (r.length + 1) (c :: r) Yd, QbW, if_pos h, QcD _ r (Nat.le_refl _)]
theorem Qpl {c : UInt8} (r : Str) (h : QiC c = false) (hw : Qas (c :: r) = 0) : Qco (c :: r) = [[]] := by
 rw [← QcD (r.length + 1) (c :: r) Yd, QbW, if_neg (by simp [h]), if_pos hw]
theorem QiA {c : UInt8} (r : Str) (h : QiC c = false) (hw : Qas (c :: r) ≠ 0) : Qco (c :: r) = (c :: r).take (Qas (c :: r)) :: Qco ((c :: r).drop (Qas (c :: r))) := by
 rw [← QcD (r.length + 1) (c :: r) Yd, QbW, if_neg (by simp [h]), if_neg hw, QcD _ _ (by rw [List.length_drop]; simp; omega)]
structure PS where
 l : List Str
 vars : List Str
 bad : Bool
def PS.has (p : PS) (t : Str) : Bool := p.l.head? == some t
def PS.pop (p : PS) : PS := { p with l := p.l.tail }
def PS.spoil (p : PS) : PS := { p with bad := true }
def PS.close (p : PS) (t : Str) : PS := if p.bad then p else if p.has t then p.pop else p.spoil
def PS.var (p : PS) (x : Str) : Nat × PS := if x ∈ p.vars then (Qfc p.vars x, p) else (p.vars.length, { p with vars := p.vars ++ [x] })
def Ql1 (d : Str) : Nat := d.foldl (fun n c => 10 * n + (c - 48).toNat) 0
def Qq9 (s : Str) : Str := match s with | 45 :: r => r | _ => s
def QcE (s : Str) : Option Int :=
 let d := Qq9 s
 if d = [] ∨ 13 < d.length ∨ (Qei d = 48 ∧ s ≠ [48]) then none
 else if 1099511627776 < Ql1 d then none
 else some (if d = s then (Ql1 d : Int) else -(Ql1 d : Int))
def QQ (f : PS → Nd × PS) : Nat → PS → List Nd × PS
 | 0, p => ([], p)
 | fuel + 1, p => if p.bad = false ∧ p.has [44] = true then
   let a := f p.pop
   let q := QQ f fuel a.2
   (a.1 :: q.1, q.2)
  else ([], p)
def Qae (f : PS → Nd × PS) (t : Str) (p : PS) : List Nd × PS :=
 let a := f p
 let q := QQ f a.2.l.length a.2
 (a.1 :: q.1, q.2.close t)
def QP : Nat → PS → Nd × PS
 | 0, p => (Nd.zero, p.spoil)
 | d + 1, p => match p.l with
  | [] => (Nd.zero, p.spoil)
  | [] :: _ => (Nd.zero, p.spoil)
  | (c :: r) :: _ =>
   if c :: r = [33] then (⟨1, 0, [33], .nil⟩, p.pop)
   else if upB c then (⟨0, (p.pop.var (c :: r)).1, [], .nil⟩, (p.pop.var (c :: r)).2)
   else if (c == 45) || Qbs c then (⟨2, (QcE (c :: r)).getD 0, [], .nil⟩, { p.pop with bad := p.bad || (QcE (c :: r)).isNone })
   else if QdH c = false then (Nd.zero, p.spoil)
   else if p.pop.has [40] then
    (⟨3, 0, c :: r, Qbu (Qae (QP d) [41] p.pop.pop).1⟩, (Qae (QP d) [41] p.pop.pop).2)
   else (⟨1, 0, c :: r, .nil⟩, p.pop)
def QaR (p : PS) : List Nd × PS := Qae (QP 24) [46] p
def QaK (p : PS) : List Nd × PS := if p.bad = false ∧ p.has [58, 45] = true then QaR p.pop else ([], p.close [46])
theorem QiY (p : PS) : p.pop.l.length ≤ p.l.length := by simp [PS.pop]
theorem Qj9 (p : PS) (t : Str) : (p.close t).l.length ≤ p.l.length := by
 unfold PS.close
 split
 ·exact Nat.le_refl _
 split
 ·exact QiY p
 ·exact Nat.le_refl _
theorem QhP {p : PS} {t : Str} (h : p.has t = true) : p.pop.l.length < p.l.length ∧ p.l = t :: p.pop.l := by
 unfold PS.has at h
 cases hl : p.l with
 | nil => rw [hl] at h; simp at h
 | cons x r => rw [hl] at h; simp at h; simp [PS.pop, hl, h]
def QmZ (f : PS → Nd × PS) : Prop := ∀ p, (f p).2.l.length ≤ p.l.length
theorem QiU {f : PS → Nd × PS} (hf : QmZ f) : ∀ (n : Nat) (p : PS), (QQ f n p).2.l.length ≤ p.l.length
 | 0, p => Nat.le_refl _
 | n + 1, p => by
  unfold QQ
  split
  ·have h1 := QiU hf n (f p.pop).2
   have h2 := hf p.pop
   have h3 := QiY p
   simp only
   omega
  ·exact Nat.le_refl _
theorem Qey {f : PS → Nd × PS} (hf : QmZ f) (t : Str) (p : PS) : (Qae f t p).2.l.length ≤ p.l.length := by
 have h1 := QiU hf (f p).2.l.length (f p).2
 have h2 := hf p
 have h3 := Qj9 (QQ f (f p).2.l.length (f p).2).2 t
 simp only [Qae]
 omega
theorem QpW (p : PS) (x : Str) : (p.var x).2.l = p.l ∧ (p.var x).2.bad = p.bad := by
 unfold PS.var
 split <;> exact ⟨rfl, rfl⟩
theorem Qb8 : ∀ d, QmZ (QP d)
 | 0, p => Nat.le_refl _
 | d + 1, p => by
  unfold QP
  have h1 := QiY p
  split
  ·exact Nat.le_refl _
  ·exact Nat.le_refl _
  ·rename_i c r q hl
   split
   ·exact h1
   split
   ·rw [(QpW _ _).1]; exact h1
   split
   ·exact h1
   split
   ·exact Nat.le_refl _
   split
   ·have h2 := Qey (Qb8 d) [41] p.pop.pop
    have h3 := QiY p.pop
    simp only; omega
   ·exact h1
theorem QkR {f : PS → Nd × PS} (hf : QmZ f) : ∀ (n : Nat) (p : PS), p.l.length ≤ n → QQ f n p = QQ f p.l.length p := by
 intro n
 induction n using Nat.strongRecOn with
 | _ n ih =>
  intro p hn
  by_cases ht : p.bad = false ∧ p.has [44] = true
  ·have h1 := (QhP ht.2).1
   have h2 := hf p.pop
   obtain ⟨m, rfl⟩ : ∃ m, n = m + 1 := ⟨n - 1, by omega⟩
   obtain ⟨l, hl⟩ : ∃ l, p.l.length = l + 1 := ⟨p.l.length - 1, by omega⟩
   rw [hl]
   simp only [QQ, if_pos ht]
   rw [ih m Ya (f p.pop).2 Ya, ih l Ya (f p.pop).2 Ya]
  ·have h0 : ∀ k, QQ f k p = ([], p) := fun k => by cases k with | zero => rfl | succ k => simp only [QQ, if_neg ht]
   rw [h0, h0]
theorem QkQ {f : PS → Nd × PS} (hf : QmZ f) {p : PS} (ht : p.bad = false ∧ p.has [44] = true) : QQ f p.l.length p = ((f p.pop).1 :: (QQ f (f p.pop).2.l.length (f p.pop).2).1, (QQ f (f p.pop).2.l.length (f p.pop).2).2) := by
 have h1 := (QhP ht.2).1
 have h2 := hf p.pop
 obtain ⟨l, hl⟩ : ∃ l, p.l.length = l + 1 := ⟨p.l.length - 1, by omega⟩
 rw [hl]
 simp only [QQ, if_pos ht]
 rw [QkR hf l (f p.pop).2 Ya]
theorem Qgg {f : PS → Nd × PS} {p : PS} (ht : ¬ (p.bad = false ∧ p.has [44] = true)) : QQ f p.l.length p = ([], p) := by
 cases p.l.length with
 | zero => rfl
 | succ k => simp only [QQ, if_neg ht]
theorem QlE (d : Str) (c : UInt8) : Ql1 (d ++ [c]) = 10 * Ql1 d + (c - 48).toNat := by simp [Ql1, List.foldl_append]
theorem Qt6 {c : UInt8} (h : Qbs c = true) : (c - 48).toNat < 10 ∧ UInt8.ofNat (48 + (c - 48).toNat) = c := by
 have hh : ∀ n : Fin 256, Qbs (UInt8.ofNat n.val) = true → (UInt8.ofNat n.val - 48).toNat < 10 ∧ UInt8.ofNat (48 + (UInt8.ofNat n.val - 48).toNat) = UInt8.ofNat n.val := by decide +kernel
 have := hh ⟨c.toNat, c.toNat_lt⟩
 simp only [UInt8.ofNat_toNat] at this
 exact this h
theorem Qmc (d : Nat) (h : d < 10) : (UInt8.ofNat (48 + d) - 48).toNat = d := by
 have hh : ∀ n : Fin 10, (UInt8.ofNat (48 + n.val) - 48).toNat = n.val := by decide +kernel
 exact hh ⟨d, h⟩
theorem QhX (u : Nat) : Ql1 (Lib.decDigits u) = u := by
 induction u using Nat.strongRecOn with
 | ind u ih =>
  by_cases h10 : u < 10
  ·rw [Lib.decDigits_one h10]
   have := Qmc u h10
   simp only [Ql1, List.foldl_cons, List.foldl_nil]
   omega
  ·rw [Lib.decDigits, dif_neg h10, QlE, ih (u / 10) Ya, Qmc _ Ya]
   omega
theorem Qoj : ∀ (l : Str), l = [] ∨ ∃ e c, l = e ++ [c] := fun l => by
 rcases List.eq_nil_or_concat l with h | ⟨e, c, h⟩
 ·exact .inl h
 ·exact .inr ⟨e, c, by simpa using h⟩
theorem Qh0 : ∀ (n : Nat) (d : Str), d.length = n → (∀ c ∈ d, Qbs c = true) → d ≠ [] → Qei d ≠ 48 → Lib.decDigits (Ql1 d) = d ∧ 0 < Ql1 d := by
 intro n
 induction n with
 | zero => intro d hl _ hne; exact absurd (List.eq_nil_of_length_eq_zero hl) hne
 | succ n ih =>
  intro d hl hd hne h48
  rcases Qoj d with rfl | ⟨e, c, rfl⟩
  ·exact absurd rfl hne
  have hc := Qt6 (hd c Yd)
  rw [QlE]
  cases e with
  | nil =>
   have h0 : (c - 48).toNat ≠ 0 := fun h0 => by
    have := hc.2
    rw [h0] at this
    exact h48 (by show c = 48; rw [← this]; rfl)
   have e0 : Ql1 [] = 0 := rfl
   rw [e0, Nat.mul_zero, Nat.zero_add, Lib.decDigits_one hc.1, hc.2]
   exact ⟨rfl, by omega⟩
  | cons x e =>
   have h1 := ih (x :: e) (by simp at hl ⊢; omega) (fun y hy => hd y (List.mem_append_left _ hy)) Yd h48
   have h2 : ¬ 10 * Ql1 (x :: e) + (c - 48).toNat < 10 := by omega
   have h3 : (10 * Ql1 (x :: e) + (c - 48).toNat) / 10 = Ql1 (x :: e) := by omega
   have h4 : (10 * Ql1 (x :: e) + (c - 48).toNat) % 10 = (c - 48).toNat := by omega
   rw [Lib.decDigits, dif_neg h2, h3, h4, hc.2, h1.1]
   exact ⟨rfl, by omega⟩
theorem QqT : Ql1 [48] = 0 := rfl
theorem QhY : Lib.decDigits 0 = [48] := by rw [Lib.decDigits_one Ya]; rfl
theorem QhZ (u : Nat) (h : 0 < u) : Qei (Lib.decDigits u) ≠ 48 := by
 induction u using Nat.strongRecOn with
 | ind u ih =>
  by_cases h10 : u < 10
  ·rw [Lib.decDigits_one h10]
   intro e
   have := Qmc u h10
   rw [show UInt8.ofNat (48 + u) = 48 from e] at this
   have h0 : ((48 : UInt8) - 48).toNat = 0 := by decide
   omega
  ·rw [Lib.decDigits, dif_neg h10]
   have h1 := ih (u / 10) Ya Ya
   have h2 := QdS (u / 10)
   cases hl : Lib.decDigits (u / 10) with
   | nil => exact absurd hl h2
   | cons x r => rw [hl] at h1; exact h1
theorem QnY {c : UInt8} {r : Str} (h : Qbs c = true) : Qq9 (c :: r) = c :: r := by
 unfold Qq9
 split
 ·rename_i e; cases e; exact absurd h Yg
 ·rfl
def Qrx (t : Str) : Prop := (t ≠ [] ∧ ∀ c ∈ t, Qbs c = true) ∨ ∃ r, t = 45 :: r ∧ r ≠ [] ∧ ∀ c ∈ r, Qbs c = true
theorem Qof {t : Str} {v : Int} (ht : Qrx t) (h : QcE t = some v) : t = Lib.itoa v ∧ -1099511627776 ≤ v ∧ v ≤ 1099511627776 := by
 unfold QcE at h
 simp only at h
 split at h
 ·cases h
 rename_i h1
 split at h
 ·cases h
 rename_i h2
 simp only [not_or, not_and] at h1
 obtain ⟨h11, h12, h13⟩ := h1
 rcases ht with ⟨hne, hd⟩ | ⟨r, rfl, hne, hd⟩
 ·cases t with
  | nil => exact absurd rfl hne
  | cons c r =>
   have hb := QnY (r := r) (hd c (.head _))
   rw [hb] at h h13 h2
   rw [if_pos rfl] at h
   cases h
   refine ⟨?_, by omega, by omega⟩
   unfold Lib.itoa
   rw [if_neg Ya, Int.toNat_natCast]
   by_cases h48 : Qei (c :: r) = 48
   ·have := h13 h48
    have h5 : c :: r = [48] := by simpa using this
    rw [h5, QqT, QhY]
   ·exact (Qh0 _ _ rfl hd Yd h48).1.symm
 ·have hb : Qq9 (45 :: r) = r := rfl
  rw [hb] at h h13 h2
  have hner : r ≠ 45 :: r := fun e => by have := congrArg List.length e; simp at this
  rw [if_neg hner] at h
  cases h
  have h48 : Qei r ≠ 48 := fun e => absurd (h13 e) Yd
  have h5 := Qh0 _ _ rfl hd hne h48
  refine ⟨?_, by omega, by omega⟩
  unfold Lib.itoa
  rw [if_pos Ya, Int.natAbs_neg, Int.natAbs_natCast, h5.1]
theorem Qog (v : Int) (h0 : -1099511627776 ≤ v) (h1 : v ≤ 1099511627776) : QcE (Lib.itoa v) = some v := by
 unfold Lib.itoa
 split
 ·have hd := QhX v.natAbs
  have hh := QhZ v.natAbs Ya
  have hn := QdS v.natAbs
  have hl := QfR 12 v.natAbs Ya
  rw [← Lib.decDigits_length] at hl
  generalize Lib.decDigits v.natAbs = d at *
  have hner : d ≠ 45 :: d := fun e => by have := congrArg List.length e; simp at this
  have hb : Qq9 (45 :: d) = d := rfl
  unfold QcE
  simp only [hb]
  rw [if_neg (by simp [hn, hh]; omega), hd, if_neg Ya, if_neg hner]
  congr 1; omega
 ·have hd := QhX v.toNat
  have hn := QdS v.toNat
  have hl := QfR 12 v.toNat Ya
  rw [← Lib.decDigits_length] at hl
  have hh : Qei (Lib.decDigits v.toNat) = 48 → Lib.decDigits v.toNat = [48] := fun e => by
   by_cases hz : v.toNat = 0
   ·rw [hz]; exact QhY
   ·exact absurd e (QhZ _ Ya)
  have hall := Qjm v.toNat
  generalize Lib.decDigits v.toNat = d at *
  cases d with
  | nil => exact absurd rfl hn
  | cons c r =>
   have hb := QnY (r := r) (hall c (.head _))
   unfold QcE
   simp only [hb]
   rw [if_neg (by
    rintro (h | h | ⟨h, h'⟩)
    ·exact hn h
    ·omega
    ·exact h' (hh h)), hd, if_neg Ya, if_pos trivial]
   congr 1; omega
theorem Qqa {t : Str} (ht : Qrx t) : QO t = QcE t := by
 cases hv : QcE t with
 | some v =>
  obtain ⟨e, h0, h1⟩ := Qof ht hv
  rw [e]; exact Qqd v h0 h1
 | none =>
  cases hn : QO t with
  | none => rfl
  | some v =>
   unfold QO at hn
   split at hn
   ·split at hn
    ·rename_i h
     cases hn
     rw [← h.1, Qog _ h.2.1 h.2.2] at hv
     cases hv
    ·cases hn
   ·cases hn
theorem Ql8 : QcE [45] = none := by decide
def Qiy (x : Str) : Prop := x = [] ∨ x = [45]
def QbE (p : PS) : Prop := p.bad = true ∨ ∃ x ∈ p.l, Qiy x
def QuL (t : Str) : Prop := t ≠ [] ∧ ((Qbs (Qei t) || (Qei t == 45)) = true → Qrx t) ∧ (Qei t = 33 → t = [33])
def Qic (s : RS) (p : PS) : Prop := s.err = 0 ∧ p.bad = false ∧ s.vars = p.vars ∧ ((s.token = [] ∧ s.rest = [] ∧ p.l = []) ∨ (QuL s.token ∧ p.l = s.token :: Qco s.rest))
def Qrz (s : RS) (p : PS) : Prop := s.err = 1 ∧ s.token = [] ∧ s.rest = [] ∧ QbE p
def Rel (s : RS) (p : PS) : Prop := Qic s p ∨ Qrz s p
theorem QbE.pop {p : PS} {t : Str} {r : List Str} (h : QbE p) (hl : p.l = t :: r) (ht : ¬ Qiy t) : QbE p.pop := by
 rcases h with h | ⟨x, hx, hb⟩
 ·exact .inl h
 ·rw [hl] at hx
  rcases List.mem_cons.1 hx with rfl | hx
  ·exact absurd hb ht
  ·exact .inr ⟨x, by simp [PS.pop, hl, hx], hb⟩
theorem QbE.has {p : PS} {t : Str} (h : QbE p) (hh : p.has t = true) (ht : ¬ Qiy t) : QbE p.pop := h.pop (QhP hh).2 ht
theorem QbE.close {p : PS} {t : Str} (h : QbE p) (ht : ¬ Qiy t) : QbE (p.close t) := by
 unfold PS.close
 split
 ·exact h
 split
 ·rename_i hh; exact h.has hh ht
 ·exact .inl rfl
theorem QbE.var {p : PS} (x : Str) (h : QbE p) : QbE (p.var x).2 := by
 unfold PS.var
 split
 ·exact h
 ·exact h
def QlX (f : PS → Nd × PS) : Prop := ∀ p, QbE p → QbE (f p).2
theorem QbE.loop {f : PS → Nd × PS} (hf : QlX f) : ∀ (n : Nat) (p : PS), QbE p → QbE (QQ f n p).2
 | 0, p, h => h
 | n + 1, p, h => by
  unfold QQ
  split
  ·rename_i hh; exact QbE.loop hf n _ (hf _ (h.has hh.2 (by simp [Qiy])))
  ·exact h
theorem QbE.terms {f : PS → Nd × PS} (hf : QlX f) (t : Str) (ht : ¬ Qiy t) (p : PS) (h : QbE p) : QbE (Qae f t p).2 := (QbE.loop hf _ _ (hf p h)).close ht
theorem QbE.term : ∀ d, QlX (QP d)
 | 0, p, h => .inl rfl
 | d + 1, p, h => by
  unfold QP
  split
  ·exact .inl rfl
  ·exact .inl rfl
  ·rename_i c r q hl
   split
   ·rename_i e; exact h.pop hl (by rw [e]; simp [Qiy])
   split
   ·rename_i hne hu
    refine QbE.var _ (h.pop hl ?_)
    rintro (e | e)
    ·cases e
    ·cases e; exact absurd hu Yg
   split
   ·by_cases e : c :: r = [45]
    ·left; rw [e, Ql8]; simp
    ·rcases h.pop hl (by rintro (e' | e'); cases e'; exact e e') with h' | h'
     ·left
      have : p.bad = true := h'
      simp [this]
     ·exact .inr h'
   split
   ·exact .inl rfl
   ·rename_i h45 hlo
    have hb : ¬ Qiy (c :: r) := by
     rintro (e | e)
     ·cases e
     ·cases e; exact h45 rfl
    split
    ·rename_i hp; exact QbE.terms (QbE.term d) [41] (by simp [Qiy]) _ ((h.pop hl hb).has hp (by simp [Qiy]))
    ·exact h.pop hl hb
theorem Qrz.fail {s : RS} {p q : PS} (h : Qrz s p) (e : Int) (hq : QbE q) : Qrz (s.fail e) q := ⟨by simp [RS.fail, h.1], rfl, rfl, hq⟩
theorem Qrz.adv {s : RS} {p q : PS} (h : Qrz s p) (hq : QbE q) : Qrz s.adv q := by
 have : s.adv = ⟨[], [], s.vars, s.err⟩ := by
  unfold RS.adv
  rw [h.2.2.1]
  rfl
 rw [this]
 exact ⟨h.1, rfl, rfl, hq⟩
theorem Qic.fail {s : RS} {p : PS} (h : Qic s p) {q : PS} (hq : QbE q) : Qrz (s.fail 1) q := ⟨by simp [RS.fail, h.1], rfl, rfl, hq⟩
theorem Qhb {f : UInt8 → Bool} : ∀ (l : Str), ∀ c ∈ l.take (Qbe f l), f c = true
 | [], c, h => by simp at h
 | x :: l, c, h => by
  unfold Qbe at h
  cases hx : f x with
  | false => rw [hx] at h; simp at h
  | true =>
   rw [hx] at h
   simp only [cond_true, List.take_succ_cons] at h
   rcases List.mem_cons.1 h with rfl | h
   ·exact hx
   ·exact Qhb l c h
theorem QrP {c : UInt8} (h : (upB c || QdH c) = true) : Qbs c = false ∧ (c == 45) = false ∧ c ≠ 33 := by
 have hh : ∀ n : Fin 256, (upB (UInt8.ofNat n.val) || QdH (UInt8.ofNat n.val)) = true → Qbs (UInt8.ofNat n.val) = false ∧ (UInt8.ofNat n.val == 45) = false ∧ UInt8.ofNat n.val ≠ 33 := by decide +kernel
 have := hh ⟨c.toNat, c.toNat_lt⟩
 simp only [UInt8.ofNat_toNat] at this
 exact this h
theorem QqU {c : UInt8} (h : Qbs c = true) : upB c = false ∧ QdH c = false ∧ (c == 45) = false ∧ c ≠ 33 := by
 have hh : ∀ n : Fin 256, Qbs (UInt8.ofNat n.val) = true → upB (UInt8.ofNat n.val) = false ∧ QdH (UInt8.ofNat n.val) = false ∧ (UInt8.ofNat n.val == 45) = false ∧ UInt8.ofNat n.val ≠ 33 := by decide +kernel
 have := hh ⟨c.toNat, c.toNat_lt⟩
 simp only [UInt8.ofNat_toNat] at this
 exact this h
theorem Qok {c : UInt8} (h : Qee.contains c = true) : Qbs c = false ∧ (c == 45) = false := by
 have hh : ∀ n : Fin 256, Qee.contains (UInt8.ofNat n.val) = true → Qbs (UInt8.ofNat n.val) = false ∧ (UInt8.ofNat n.val == 45) = false := by decide +kernel
 have := hh ⟨c.toNat, c.toNat_lt⟩
 simp only [UInt8.ofNat_toNat] at this
 exact this h
theorem QrQ (c : UInt8) (r : Str) : (Q7 (c :: r) = Qas (c :: r) ∧ (Q7 (c :: r) ≠ 0 → QuL ((c :: r).take (Q7 (c :: r))))) ∨ (Q7 (c :: r) = 0 ∧ Qas (c :: r) = 1 ∧ c = 45) := by
 have hT : ∀ x, 1 + x ≠ 0 := fun x => by omega
 by_cases h1 : (upB c || QdH c) = true
 ·left
  have e1 : Q7 (c :: r) = 1 + Qbe QdH r := by simp only [Q7, h1, if_true]
  have e2 : Qas (c :: r) = 1 + Qbe QdH r := by simp only [Qas, Bool.or_comm (QdH c), h1, if_true]
  rw [e1, e2]
  have hf := QrP h1
  refine ⟨rfl, fun _ => ⟨by rw [Nat.add_comm, List.take_succ_cons]; simp, fun h => ?_, fun h => ?_⟩⟩
  ·rw [Nat.add_comm, List.take_succ_cons] at h
   simp only [Qei, hf.1, hf.2.1, Bool.or_self, Bool.false_eq_true] at h
  ·rw [Nat.add_comm, List.take_succ_cons] at h
   exact absurd h hf.2.2
 have h1' : (upB c || QdH c) = false := by simpa using h1
 by_cases h2 : Qbs c = true
 ·left
  have hf := QqU h2
  have e : Qbe Qbs (c :: r) = 1 + Qbe Qbs r := by simp [Qbe, h2]; omega
  have e1 : Q7 (c :: r) = Qbe Qbs (c :: r) := by simp only [Q7, h1', h2, Bool.false_eq_true, if_false, if_true]
  have e2 : Qas (c :: r) = 1 + Qbe Qbs r := by simp only [Qas, Bool.or_comm (QdH c), h1', h2, Bool.true_or, Bool.false_eq_true, if_false, if_true]
  rw [e1, e2]
  refine ⟨e, fun _ => ⟨by rw [e, Nat.add_comm, List.take_succ_cons]; simp, fun h => .inl ⟨by rw [e, Nat.add_comm, List.take_succ_cons]; simp, Qhb _⟩, fun h => ?_⟩⟩
  rw [e, Nat.add_comm, List.take_succ_cons] at h
  exact absurd h hf.2.2.2
 have h2' : Qbs c = false := by simpa using h2
 by_cases h3 : c = 45
 ·subst h3
  have e2 : Qas (45 :: r) = 1 + Qbe Qbs r := by
   have a1 : (QdH 45 || upB 45) = false := by decide
   have a2 : (Qbs 45 || ((45 : UInt8) == 45)) = true := by decide
   simp only [Qas, a1, a2, Bool.false_eq_true, if_false, if_true]
  have e1 : Q7 (45 :: r) = if 0 < Qbe Qbs r then 1 + Qbe Qbs r else 0 := by
   simp only [Q7, h1', h2', Bool.false_eq_true, if_false, if_true]
  by_cases h4 : 0 < Qbe Qbs r
  ·left
   rw [e1, e2, if_pos h4]
   refine ⟨rfl, fun _ => ⟨by rw [Nat.add_comm, List.take_succ_cons]; simp, fun h => .inr ⟨r.take (Qbe Qbs r), by rw [Nat.add_comm, List.take_succ_cons], ?_, Qhb r⟩, fun h => ?_⟩⟩
   ·intro e
    have := congrArg List.length e
    have hle := Qc0 Qbs r
    simp only [List.length_take, List.length_nil] at this
    omega
   ·rw [Nat.add_comm, List.take_succ_cons] at h
    have h' : (45 : UInt8) = 33 := h
    exact absurd h' Yg
  ·right
   rw [e1, e2, if_neg h4]
   exact ⟨rfl, by omega, rfl⟩
 have h3' : (c == 45) = false := by simp [h3]
 left
 by_cases h5 : ([58, 45] : Str).isPrefixOf (c :: r) = true
 ·have e1 : Q7 (c :: r) = 2 := by
   simp only [Q7, h1', h2', h3, Bool.false_eq_true, if_false]
   rw [if_pos h5]
  have e2 : Qas (c :: r) = 2 := by
   simp only [Qas, Bool.or_comm (QdH c), h1', h2', h3', Bool.or_self, Bool.false_eq_true, if_false]
   rw [if_pos h5]
  rw [e1, e2]
  cases r with
  | nil => simp [List.isPrefixOf] at h5
  | cons x r =>
   have : c = 58 := by simp [List.isPrefixOf] at h5; exact h5.1.symm
   subst this
   exact ⟨rfl, fun _ => ⟨by simp, fun h => absurd h (by simp [Qei, Qbs]), fun h => absurd h (by simp [Qei])⟩⟩
 have e1 : Q7 (c :: r) = if Qee.contains c then 1 else 0 := by
  simp only [Q7, h1', h2', h3, Bool.false_eq_true, if_false]
  rw [if_neg h5]
 have e2 : Qas (c :: r) = if Qee.contains c then 1 else 0 := by
  simp only [Qas, Bool.or_comm (QdH c), h1', h2', h3', Bool.or_self, Bool.false_eq_true, if_false]
  rw [if_neg h5]
 rw [e1, e2]
 by_cases h6 : Qee.contains c = true
 ·rw [if_pos h6]
  have hf := Qok h6
  refine ⟨rfl, fun _ => ⟨by simp, fun h => ?_, fun h => ?_⟩⟩
  ·have : (Qbs c || (c == 45)) = true := h
   rw [hf.1, hf.2] at this
   cases this
  ·have : c = 33 := h
   rw [this]; rfl
 ·rw [if_neg h6]
  exact ⟨rfl, fun h => absurd rfl h⟩
theorem QiB : ∀ R : Str, Qco R = Qco (QbZ R)
 | [] => rfl
 | c :: r => by
  unfold QbZ
  rw [List.dropWhile_cons]
  split
  ·rename_i h; rw [Ql5 r h]; exact QiB r
  ·rfl
theorem Qpy {R : Str} {c : UInt8} {r : Str} (h : QbZ R = c :: r) : QiC c = false := by
 unfold QbZ at h
 induction R with
 | nil => simp at h
 | cons x R ih =>
  rw [List.dropWhile_cons] at h
  split at h
  ·exact ih h
  ·rename_i hx; cases h; simpa using hx
theorem Qrr {s : RS} {p : PS} (he : s.err = 0) (hb : p.bad = false) (hv : s.vars = p.vars) (hl : p.l = Qco s.rest) : Rel s.adv p := by
 rw [QiB] at hl
 unfold RS.adv
 simp only
 cases ht : QbZ s.rest with
 | nil =>
  rw [ht] at hl
  rw [if_neg Yd]
  exact .inl ⟨he, hb, hv, .inl ⟨rfl, rfl, hl⟩⟩
 | cons c r =>
  have hw := Qpy ht
  rw [ht] at hl
  rcases QrQ c r with ⟨h1, h2⟩ | ⟨h1, h2, h3⟩
  ·by_cases h0 : Q7 (c :: r) = 0
   ·rw [if_pos ⟨h0, by simp⟩]
    rw [Qpl r hw Ya] at hl
    exact .inr ⟨by simp [RS.fail, he], rfl, rfl, .inr ⟨[], by rw [hl]; simp, .inl rfl⟩⟩
   ·rw [if_neg (by simp [h0])]
    rw [QiA r hw Ya, ← h1] at hl
    exact .inl ⟨he, hb, hv, .inr ⟨h2 h0, hl⟩⟩
  ·subst h3
   rw [if_pos ⟨h1, by simp⟩]
   rw [QiA r hw Ya, h2] at hl
   exact .inr ⟨by simp [RS.fail, he], rfl, rfl, .inr ⟨[45], by rw [hl]; simp, .inr rfl⟩⟩
theorem Qic.tok {s : RS} {p : PS} (h : Qic s p) {t : Str} (ht : t ≠ []) : (s.token = t) ↔ p.has t = true := by
 rcases h.2.2.2 with ⟨h1, _, h3⟩ | ⟨h1, h3⟩
 ·rw [h1]; unfold PS.has; rw [h3]; simp; exact fun e => ht (by first | exact e | exact e.symm)
 ·unfold PS.has; rw [h3]; simp
theorem Qic.adv {s : RS} {p : PS} (h : Qic s p) (hn : s.token ≠ []) : Rel s.adv p.pop := by
 rcases h.2.2.2 with ⟨h1, _, _⟩ | ⟨h1, h3⟩
 ·exact absurd h1 hn
 ·exact Qrr h.1 h.2.1 h.2.2.1 (by simp [PS.pop, h3])
theorem Rel.take {s : RS} {p : PS} (h : Rel s p) {t : Str} (ht : ¬ Qiy t) : Rel (s.take t) (p.close t) := by
 have hne : t ≠ [] := fun e => ht (.inl e)
 rcases h with h | h
 ·have e2 : p.close t = if p.has t then p.pop else p.spoil := by unfold PS.close; rw [if_neg (by simp [h.2.1])]
  rw [e2]
  by_cases e : s.token = t
  ·have e1 : s.take t = s.adv := by unfold RS.take; rw [if_pos e]
   rw [e1, if_pos ((h.tok hne).1 e)]
   exact h.adv (by rw [e]; exact hne)
  ·have e1 : s.take t = (s.fail 1).adv := by unfold RS.take; rw [if_neg e]
   rw [e1, if_neg fun e' => e ((h.tok hne).2 e')]
   exact .inr ((h.fail (q := p.spoil) (.inl rfl)).adv (.inl rfl))
 ·have e1 : s.take t = (s.fail 1).adv := by unfold RS.take; rw [if_neg (by rw [h.2.1]; exact fun e => hne e.symm)]
  rw [e1]
  exact .inr ((h.fail 1 (h.2.2.2.close ht)).adv (h.2.2.2.close ht))
def QuS (f : RS → Nd × RS) (g : PS → Nd × PS) : Prop := ∀ s p, Rel s p → Rel (f s).2 (g p).2 ∧ ((f s).2.err = 0 → (f s).1 = (g p).1)
theorem Rel.live {s : RS} {p : PS} (h : Rel s p) (he : s.err = 0) : Qic s p := by
 rcases h with h | h
 ·exact h
 ·have := h.1; omega
def QlV (f : RS → Nd × RS) : Prop := ∀ s, (f s).2.err = 0 → s.err = 0
theorem Qbo (s : RS) (e : Int) (he : e ≠ 0) : (s.fail e).err ≠ 0 := by
 simp only [RS.fail]
 split
 ·exact he
 ·assumption
theorem QbN (s : RS) (h : s.adv.err = 0) : s.err = 0 := by
 unfold RS.adv at h
 simp only at h
 split at h
 ·exact absurd h (Qbo s 1 Yg)
 ·exact h
theorem Qb7 (s : RS) (t : Str) (h : (s.take t).err = 0) : s.err = 0 ∧ s.token = t := by
 unfold RS.take at h
 split at h
 ·rename_i e; exact ⟨QbN s h, e⟩
 ·exact absurd (QbN _ h) (Qbo s 1 Yg)
theorem QfS {f : RS → Nd × RS} (hf : QlV f) : ∀ (n : Nat) (s : RS), (QaS f n s).2.err = 0 → s.err = 0
 | 0, s, h => h
 | n + 1, s, h => by
  unfold QaS at h
  split at h
  ·exact QbN s (hf _ (QfS hf n _ h))
  ·exact h
theorem Qet {f : RS → Nd × RS} (hf : QlV f) : ∀ s : RS, (QJ f s).2.err = 0 → (f s).2.err = 0 := fun s h => QfS hf _ _ h
theorem Ql7 (s : RS) (x : Str) : (s.var x).2.err = s.err := by unfold RS.var; split <;> rfl
theorem Qbw (num : Str → Option Int) : ∀ d, QlV (Qw num d)
 | 0, s, h => absurd h (Qbo s 1 Yg)
 | d + 1, s, h => by
  unfold Qw at h
  split at h
  ·exact absurd h (Qbo s 1 Yg)
  ·simp only at h
   split at h
   ·rw [Ql7] at h; exact QbN s h
   split at h
   ·have h1 := (Qb7 _ _ h).1
    have h2 := Qbw num d _ (Qet (Qbw num d) _ h1)
    exact QbN s (Qb7 _ _ h2).1
   split at h
   ·exact QbN s h
   split at h
   ·simp only [RS.number] at h
    split at h
    ·exact QbN s h
    ·exact absurd h (Qbo _ 1 Yg)
   ·exact absurd h (Qbo _ 1 Yg)
theorem QuS.loop {f : RS → Nd × RS} {g : PS → Nd × PS} (hb : QuS f g) (hf : Qul f) (hg : QmZ g) (hs : QlV f) (hk : QlX g) : ∀ (n : Nat) (s : RS) (p : PS), s.left ≤ n → Rel s p →
  Rel (QaS f s.left s).2 (QQ g p.l.length p).2 ∧ ((QaS f s.left s).2.err = 0 → (QaS f s.left s).1 = (QQ g p.l.length p).1) := by
 intro n
 induction n with
 | zero =>
  intro s p hn h
  rcases h with h | h
  ·have ht : s.token = [] := by unfold RS.left at hn; exact List.eq_nil_of_length_eq_zero Ya
   have h1 : ¬ s.token = [44] := by rw [ht]; simp
   rw [QcL h1, Qgg fun e => h1 ((h.tok Yd).2 e.2)]
   exact ⟨.inl h, fun _ => rfl⟩
  ·have h1 : ¬ s.token = [44] := by rw [h.2.1]; simp
   rw [QcL h1]
   exact ⟨.inr ⟨h.1, h.2.1, h.2.2.1, QbE.loop hk _ _ h.2.2.2⟩, fun e => by have := h.1; simp only at e; omega⟩
 | succ n ih =>
  intro s p hn h
  rcases h with h | h
  ·by_cases ht : s.token = [44]
   ·have hp := (h.tok Yd).1 ht
    rw [Qlf hf ht, QkQ hg ⟨h.2.1, hp⟩]
    have h1 := QcV s (by rw [ht]; simp)
    have h2 := hf s.adv
    have h3 := h.adv (by rw [ht]; simp)
    have h4 := hb _ _ h3
    have h5 := ih (f s.adv).2 (g p.pop).2 Ya h4.1
    refine ⟨h5.1, fun e => ?_⟩
    simp only at e ⊢
    rw [h5.2 e, h4.2 (QfS hs _ _ e)]
   ·rw [QcL ht, Qgg fun e => ht ((h.tok Yd).2 e.2)]
    exact ⟨.inl h, fun _ => rfl⟩
  ·have h1 : ¬ s.token = [44] := by rw [h.2.1]; simp
   rw [QcL h1]
   exact ⟨.inr ⟨h.1, h.2.1, h.2.2.1, QbE.loop hk _ _ h.2.2.2⟩, fun e => by have := h.1; simp only at e; omega⟩
theorem QuS.terms {f : RS → Nd × RS} {g : PS → Nd × PS} (hb : QuS f g) (hf : Qul f) (hg : QmZ g) (hs : QlV f) (hk : QlX g) (t : Str) (ht : ¬ Qiy t) (s : RS) (p : PS) (h : Rel s p) :
  Rel ((QJ f s).2.take t) (Qae g t p).2 ∧ ((QJ f s).2.err = 0 → (QJ f s).1 = (Qae g t p).1) := by
 have h1 := hb s p h
 have h2 := hb.loop hf hg hs hk _ (f s).2 (g p).2 (Nat.le_refl _) h1.1
 refine ⟨h2.1.take ht, fun e => ?_⟩
 have e1 : (QJ f s).1 = (f s).1 :: (QaS f (f s).2.left (f s).2).1 := rfl
 have e2 : (Qae g t p).1 = (g p).1 :: (QQ g (g p).2.l.length (g p).2).1 := rfl
 rw [e1, e2, h1.2 (Qet hs s e), h2.2 e]
theorem Qic.var {s : RS} {p : PS} (h : Qic s p) (x : Str) : (s.var x).1 = (p.var x).1 ∧ Qic (s.var x).2 (p.var x).2 := by
 obtain ⟨h1, h2, h3, h4⟩ := h
 unfold RS.var PS.var
 rw [h3]
 split
 ·exact ⟨rfl, h1, h2, h3, h4⟩
 ·exact ⟨rfl, h1, h2, by simp, h4⟩
theorem Qrz.var {s : RS} {p : PS} (h : Qrz s p) (x : Str) : Qrz (s.var x).2 (p.var x).2 := by
 refine ⟨by rw [Ql7]; exact h.1, ?_, ?_, h.2.2.2.var x⟩
 ·unfold RS.var; split <;> exact h.2.1
 ·unfold RS.var; split <;> exact h.2.2.1
theorem Rel.var {s : RS} {p : PS} (h : Rel s p) (x : Str) : Rel (s.var x).2 (p.var x).2 ∧ ((s.var x).2.err = 0 → (s.var x).1 = (p.var x).1) := by
 rcases h with h | h
 ·exact ⟨.inl (h.var x).2, fun _ => (h.var x).1⟩
 ·exact ⟨.inr (h.var x), fun e => by rw [Ql7] at e; have := h.1; omega⟩
theorem Qfq : ∀ d, QuS (Qw QO d) (QP d)
 | 0, s, p, h => by
  refine ⟨?_, fun e => absurd e (Qbo s 1 Yg)⟩
  rcases h with h | h
  ·exact .inr (h.fail (.inl rfl))
  ·exact .inr (h.fail 1 (.inl rfl))
 | d + 1, s, p, h => by
  rcases h with h | h
  ·rcases h.2.2.2 with ⟨h1, h2, h3⟩ | ⟨h1, h3⟩
   ·have e1 : Qw QO (d + 1) s = (Nd.zero, s.fail 1) := by unfold Qw; rw [if_pos h1]
    have e2 : QP (d + 1) p = (Nd.zero, p.spoil) := by unfold QP; rw [h3]
    rw [e1, e2]
    exact ⟨.inr (h.fail (.inl rfl)), fun e => absurd e (Qbo s 1 Yg)⟩
   ·obtain ⟨hne, hnum, h33⟩ := h1
    cases ht : s.token with
    | nil => exact absurd ht hne
    | cons c r =>
     rw [ht] at h3 hnum h33
     have hc : Qei (c :: r) = c := rfl
     rw [hc] at hnum h33
     have hadv := h.adv (by rw [ht]; simp)
     have e1 := QaH QO d ht
     have e2 : QP (d + 1) p = if c :: r = [33] then (⟨1, 0, [33], .nil⟩, p.pop)
       else if upB c then (⟨0, (p.pop.var (c :: r)).1, [], .nil⟩, (p.pop.var (c :: r)).2)
       else if (c == 45) || Qbs c then (⟨2, (QcE (c :: r)).getD 0, [], .nil⟩, { p.pop with bad := p.bad || (QcE (c :: r)).isNone })
       else if QdH c = false then (Nd.zero, p.spoil)
       else if p.pop.has [40] then (⟨3, 0, c :: r, Qbu (Qae (QP d) [41] p.pop.pop).1⟩, (Qae (QP d) [41] p.pop.pop).2)
       else (⟨1, 0, c :: r, .nil⟩, p.pop) := by
      conv => lhs; unfold QP
      rw [h3]
     by_cases e33 : c = 33
     ·have := h33 e33
      subst e33
      cases this
      have f1 : Qw QO (d + 1) s = (⟨1, 0, [33], .nil⟩, s.adv) := e1
      rw [if_pos rfl] at e2
      rw [f1, e2]
      exact ⟨hadv, fun _ => rfl⟩
     rw [if_neg (by intro e; exact e33 (List.cons.inj e).1)] at e2
     by_cases hu : upB c = true
     ·rw [if_pos hu] at e1 e2
      rw [e1, e2]
      have hv := hadv.var (c :: r)
      exact ⟨hv.1, fun e => by simp only at e ⊢; rw [hv.2 e]⟩
     rw [if_neg hu] at e1 e2
     by_cases hd : ((c == 45) || Qbs c) = true
     ·rw [if_pos hd] at e2
      have hnt := hnum (by rw [Bool.or_comm]; exact hd)
      have hlo : QdH c = false := by
       have hh : ∀ n : Fin 256, ((UInt8.ofNat n.val == 45) || Qbs (UInt8.ofNat n.val)) = true → QdH (UInt8.ofNat n.val) = false := by decide +kernel
       have := hh ⟨c.toNat, c.toNat_lt⟩
       simp only [UInt8.ofNat_toNat] at this
       exact this hd
      rw [if_neg (by simp [hlo]), if_neg (by simp [hlo, e33]), if_pos (by rw [Bool.or_comm]; exact hd)] at e1
      rw [e1, e2]
      unfold RS.number
      rw [Qqa hnt]
      cases hv : QcE (c :: r) with
      | some v =>
       simp only [Option.getD_some, Option.isNone_some, Bool.or_false]
       refine ⟨?_, fun _ => trivial⟩
       have : ({ p.pop with bad := p.bad } : PS) = p.pop := rfl
       rw [this]; exact hadv
      | none =>
       simp only [Option.getD_none, Option.isNone_none, Bool.or_true]
       refine ⟨?_, fun e => absurd e (Qbo _ 1 Yg)⟩
       rcases hadv with ha | ha
       ·exact .inr (ha.fail (.inl rfl))
       ·exact .inr (ha.fail 1 (.inl rfl))
     rw [if_neg hd] at e2
     have hd2 : ¬ (Qbs c || (c == 45)) = true := by rw [Bool.or_comm]; exact hd
     by_cases hlo : QdH c = true
     ·rw [if_neg (by simp [hlo])] at e2
      by_cases hp : s.adv.token = [40]
      ·rw [if_pos (by simp [hlo, hp])] at e1
       rcases hadv with ha | ha
       ·have hh := (ha.tok Yd).1 hp
        rw [if_pos hh] at e2
        have e3 : s.adv.take [40] = s.adv.adv := by unfold RS.take; rw [if_pos hp]
        rw [e3] at e1
        rw [e1, e2]
        have h4 := ha.adv (by rw [hp]; simp)
        have h5 := (Qfq d).terms (QaW QO d) (Qb8 d) (Qbw QO d) (QbE.term d) [41] (by simp [Qiy]) _ _ h4
        refine ⟨h5.1, fun e => ?_⟩
        simp only at e ⊢
        rw [h5.2 (Qb7 _ _ e).1]
       ·exact absurd ha.2.1 (by rw [hp]; simp)
      ·rw [if_neg (by simp [hp]), if_pos (by simp [hlo])] at e1
       rw [e1]
       rcases hadv with ha | ha
       ·rw [if_neg fun e => hp ((ha.tok Yd).2 e)] at e2
        rw [e2]
        exact ⟨.inl ha, fun _ => rfl⟩
       ·rw [e2]
        refine ⟨.inr ⟨ha.1, ha.2.1, ha.2.2.1, ?_⟩, fun e => by have := ha.1; simp only at e; omega⟩
        split
        ·rename_i hh
         exact QbE.terms (QbE.term d) [41] (by simp [Qiy]) _ (ha.2.2.2.has hh (by simp [Qiy]))
        ·exact ha.2.2.2
     ·have hlo' : QdH c = false := by simpa using hlo
      rw [if_pos hlo'] at e2
      rw [if_neg (by simp [hlo']), if_neg (by simp [hlo', e33]), if_neg hd2] at e1
      rw [e1, e2]
      refine ⟨?_, fun e => absurd e (Qbo _ 1 Yg)⟩
      rcases hadv with ha | ha
      ·exact .inr (ha.fail (.inl rfl))
      ·exact .inr (ha.fail 1 (.inl rfl))
  ·have e1 : Qw QO (d + 1) s = (Nd.zero, s.fail 1) := by unfold Qw; rw [if_pos h.2.1]
   rw [e1]
   exact ⟨.inr (h.fail 1 (QbE.term _ _ h.2.2.2)), fun e => absurd e (Qbo s 1 Yg)⟩
theorem QqW (p : PS) (t : Str) (h : p.bad = true) : (p.close t).bad = true := by unfold PS.close; rw [if_pos h]; exact h
theorem Qoz (d : Nat) (p : PS) (h : (QP d p).2.bad = false) : (QP d p).2.l.length < p.l.length := by
 cases d with
 | zero => cases h
 | succ d =>
  have hp : ∀ x r, p.l = x :: r → p.pop.l.length < p.l.length := fun x r e => by simp [PS.pop, e]
  unfold QP at h ⊢
  split at h
  ·cases h
  ·cases h
  ·rename_i c r q hl
   have h1 := hp _ _ hl
   simp only [hl] at h1 ⊢
   split at h
   ·rw [if_pos Ye]; exact h1
   rw [if_neg Ye]
   split at h
   ·rw [if_pos Ye, (QpW _ _).1]; exact h1
   rw [if_neg Ye]
   split at h
   ·rw [if_pos Ye]; exact h1
   rw [if_neg Ye]
   split at h
   ·cases h
   rw [if_neg Ye]
   split at h
   ·rw [if_pos Ye]
    have h2 := Qey (Qb8 d) [41] p.pop.pop
    have h3 := QiY p.pop
    simp only
    omega
   ·rw [if_neg Ye]; exact h1
theorem Qub (p : PS) : (QaK p).2.l.length ≤ p.l.length := by
 unfold QaK
 split
 ·have h1 := Qey (Qb8 24) [46] p.pop
  have h2 := QiY p
  unfold QaR
  omega
 ·exact Qj9 p _
theorem QsL (p : PS) (h : p.bad = true) : (QaK p).2.bad = true := by
 unfold QaK
 rw [if_neg (by simp [h])]
 exact QqW p _ h
def Qp (p : PS) : Cl × PS :=
 let h := QP 24 { p with vars := [] }
 let q := QaK h.2
 (⟨h.1.k, h.1.n, ⟨h.1.s.toArray⟩, h.1.ar, Qbu q.1, (q.2.vars.length : Nat)⟩, q.2)
theorem QdC (p : PS) (h : (Qp p).2.bad = false) : (Qp p).2.l.length < p.l.length := by
 have h1 := Qub (QP 24 { p with vars := [] }).2
 have h2 : (QP 24 { p with vars := [] }).2.bad = false := by
  cases hb : (QP 24 { p with vars := [] }).2.bad with
  | false => rfl
  | true =>
   have := QsL _ hb
   rw [show (QaK (QP 24 { p with vars := [] }).2).2.bad = (Qp p).2.bad from rfl, h] at this
   cases this
 have h3 := Qoz 24 _ h2
 show (QaK (QP 24 { p with vars := [] }).2).2.l.length < _
 have e : ({ p with vars := [] } : PS).l = p.l := rfl
 rw [e] at h3
 omega
def Qak : Nat → PS → Option (List Cl)
 | 0, p => some []
 | n + 1, p => if p.l = [] then some [] else
     if (Qp p).2.bad = true ∨ cB (Qp p).1 = false then none
     else (Qak n (Qp p).2).map ((Qp p).1 :: ·)
theorem QkP : ∀ (n : Nat) (p : PS), p.l.length ≤ n → Qak n p = Qak p.l.length p := by
 intro n
 induction n using Nat.strongRecOn with
 | _ n ih =>
  intro p hn
  cases n with
  | zero => rw [Nat.le_zero.1 hn]
  | succ n =>
   cases hl : p.l with
   | nil => simp [Qak, hl]
   | cons x r =>
    have hne : p.l ≠ [] := by rw [hl]; simp
    rw [hl] at hn
    simp only [List.length_cons] at hn ⊢
    simp only [Qak, hne, if_false]
    split
    ·rfl
    ·rename_i hb
     have h1 := QdC p (by simp only [not_or] at hb; simpa using hb.1)
     rw [hl] at h1
     simp only [List.length_cons] at h1
     by_cases e : n = r.length
     ·rw [e]
     ·rw [ih n Ya _ Ya, ih r.length Ya _ Ya]
theorem QdA {p : PS} (hne : p.l ≠ []) (hb : ¬ ((Qp p).2.bad = true ∨ cB (Qp p).1 = false)) : Qak p.l.length p = (Qak (Qp p).2.l.length (Qp p).2).map ((Qp p).1 :: ·) := by
 have h1 := QdC p (by simp only [not_or] at hb; simpa using hb.1)
 cases hl : p.l with
 | nil => exact absurd hl hne
 | cons x r =>
  rw [hl] at h1
  simp only [List.length_cons] at h1 ⊢
  simp only [Qak, hne, if_false, if_neg hb]
  rw [QkP r.length _ Ya]
theorem QdB {p : PS} (hne : p.l ≠ []) (hb : (Qp p).2.bad = true ∨ cB (Qp p).1 = false) : Qak p.l.length p = none := by
 cases hl : p.l with
 | nil => exact absurd hl hne
 | cons x r => simp only [List.length_cons, Qak, hne, if_false, if_pos hb]
theorem Qhw {p : PS} (h : p.l = []) : Qak p.l.length p = some [] := by rw [h]; rfl
theorem QbE.body {p : PS} (h : QbE p) : QbE (QaK p).2 := by
 unfold QaK
 split
 ·rename_i hh; exact QbE.terms (QbE.term 24) [46] (by simp [Qiy]) _ (h.has hh.2 (by simp [Qiy]))
 ·exact h.close (by simp [Qiy])
theorem QbE.clause {p : PS} (h : QbE p) : QbE (Qp p).2 := QbE.body (QbE.term 24 _ (show QbE { p with vars := [] } from h))
theorem QbE.prog : ∀ (n : Nat) (p : PS), p.l.length ≤ n → p.bad = false → QbE p → Qak p.l.length p = none := by
 intro n
 induction n with
 | zero =>
  intro p hn hb h
  rcases h with h | ⟨x, hx, _⟩
  ·rw [hb] at h; cases h
  ·have := List.length_pos_of_mem hx; omega
 | succ n ih =>
  intro p hn hb h
  have hne : p.l ≠ [] := by
   rcases h with h | ⟨x, hx, _⟩
   ·rw [hb] at h; cases h
   ·intro e; rw [e] at hx; simp at hx
  by_cases hc : (Qp p).2.bad = true ∨ cB (Qp p).1 = false
  ·exact QdB hne hc
  ·have h0 : (Qp p).2.bad = false := by simp only [not_or] at hc; simpa using hc.1
   have h1 := QdC p h0
   rw [QdA hne hc, ih _ Ya h0 h.clause]
   rfl
theorem Rel.body {s : RS} {p : PS} (h : Rel s p) : Rel ((QaT QO s).2.take [46]) (QaK p).2 ∧ (((QaT QO s).2.take [46]).err = 0 → (QaT QO s).1 = (QaK p).1) := by
 rcases h with h | h
 ·by_cases ht : s.token = [58, 45]
  ·have hp := (h.tok Yd).1 ht
   have e1 : QaT QO s = QJ (Qw QO 24) s.adv := by unfold QaT; rw [if_pos ht]
   have e2 : QaK p = Qae (QP 24) [46] p.pop := by unfold QaK QaR; rw [if_pos ⟨h.2.1, hp⟩]
   rw [e1, e2]
   have h5 := (Qfq 24).terms (QaW QO 24) (Qb8 24) (Qbw QO 24) (QbE.term 24) [46] (by simp [Qiy]) _ _ (h.adv (by rw [ht]; simp))
   exact ⟨h5.1, fun e => h5.2 (Qb7 _ _ e).1⟩
  ·have e1 : QaT QO s = ([], s) := by unfold QaT; rw [if_neg ht]
   have e2 : QaK p = ([], p.close [46]) := by unfold QaK; rw [if_neg fun e => ht ((h.tok Yd).2 e.2)]
   rw [e1, e2]
   exact ⟨Rel.take (.inl h) (by simp [Qiy]), fun _ => rfl⟩
 ·have e1 : QaT QO s = ([], s) := by unfold QaT; rw [if_neg (by rw [h.2.1]; simp)]
  rw [e1]
  have h2 := h.2.2.2.body
  have h3 : s.take [46] = (s.fail 1).adv := by unfold RS.take; rw [if_neg (by rw [h.2.1]; simp)]
  rw [h3]
  have h4 := (h.fail 1 h2).adv h2
  exact ⟨.inr h4, fun e => by have := h4.1; omega⟩
theorem Qe3 {s : RS} (h : s.token = []) : QD QO s.left s = ([], s) := QkW QO h
theorem Rel.fresh {s : RS} {p : PS} (h : Rel s p) : Rel { s with vars := [] } { p with vars := [] } := by
 rcases h with h | h
 ·exact .inl ⟨h.1, h.2.1, rfl, h.2.2.2⟩
 ·exact .inr ⟨h.1, h.2.1, h.2.2.1, h.2.2.2⟩
theorem Rel.clause {s : RS} {p : PS} (h : Rel s p) : ∃ s3, (QR QO s).2 = (if cB (QR QO s).1 then s3 else s3.fail 1) ∧ Rel s3 (Qp p).2 ∧ (s3.err = 0 → (QR QO s).1 = (Qp p).1) := by
 have h1 := Qfq 24 _ _ h.fresh
 have h2 := h1.1.body
 refine ⟨(QaT QO (Qw QO 24 { s with vars := [] }).2).2.take [46], rfl, h2.1, fun e => ?_⟩
 have hl := h2.1.live e
 have e1 := (Qb7 _ _ e).1
 have e2 : (Qw QO 24 { s with vars := [] }).2.err = 0 := by
  unfold QaT at e1
  split at e1
  ·exact QbN _ (Qbw QO 24 _ (Qet (Qbw QO 24) _ e1))
  ·exact e1
 simp only [QR, Qp]
 rw [h1.2 e2, h2.2 e, hl.2.2.1]
theorem Qr9 : ∀ (n : Nat) (s : RS) (p : PS), s.left ≤ n → p.bad = false → Rel s p →
  match Qak p.l.length p with
  | some L => (QD QO s.left s).1 = L ∧ (QD QO s.left s).2.err = 0
  | none => (QD QO s.left s).2.err = 1 := by
 intro n
 induction n with
 | zero =>
  intro s p hn hb h
  have ht : s.token = [] := by unfold RS.left at hn; exact List.eq_nil_of_length_eq_zero Ya
  rw [Qe3 ht]
  rcases h with h | h
  ·rcases h.2.2.2 with ⟨_, _, h3⟩ | ⟨h1, _⟩
   ·rw [Qhw h3]; exact ⟨rfl, h.1⟩
   ·exact absurd ht h1.1
  ·rw [QbE.prog _ p (Nat.le_refl _) hb h.2.2.2]; exact h.1
 | succ n ih =>
  intro s p hn hb h
  by_cases ht : s.token = []
  ·rw [Qe3 ht]
   rcases h with h | h
   ·rcases h.2.2.2 with ⟨_, _, h3⟩ | ⟨h1, _⟩
    ·rw [Qhw h3]; exact ⟨rfl, h.1⟩
    ·exact absurd ht h1.1
   ·rw [QbE.prog _ p (Nat.le_refl _) hb h.2.2.2]; exact h.1
  ·rw [QkX QO ht]
   have hlt := QdT QO s ht
   have hne : p.l ≠ [] := by
    rcases h with h | h
    ·rcases h.2.2.2 with ⟨h1, _, _⟩ | ⟨_, h3⟩
     ·exact absurd h1 ht
     ·rw [h3]; simp
    ·exact absurd h.2.1 ht
   obtain ⟨s3, e3, hr, heq⟩ := h.clause
   have hdead : ∀ s', s'.token = [] → s'.err = 1 → (QD QO s'.left s').2.err = 1 := fun s' h1 h2 => by rw [Qe3 h1]; exact h2
   rcases hr with hl | hd
   ·rw [heq hl.1] at e3
    by_cases hc : cB (Qp p).1 = true
    ·rw [if_pos hc] at e3
     have hb2 : ¬ ((Qp p).2.bad = true ∨ cB (Qp p).1 = false) := by simp [hl.2.1, hc]
     rw [QdA hne hb2, e3]
     have h5 := ih s3 (Qp p).2 (by rw [e3] at hlt; omega) hl.2.1 (.inl hl)
     cases hp : Qak (Qp p).2.l.length (Qp p).2 with
     | none => rw [hp] at h5; exact h5
     | some L =>
      rw [hp] at h5
      simp only [Option.map_some]
      exact ⟨by rw [heq hl.1, h5.1], h5.2⟩
    ·have hc' : cB (Qp p).1 = false := by simpa using hc
     rw [if_neg hc] at e3
     rw [QdB hne (.inr hc'), e3]
     exact hdead _ rfl (by simp [RS.fail, hl.1])
   ·have h6 : (QR QO s).2.token = [] ∧ (QR QO s).2.err = 1 := by
     rw [e3]
     split
     ·exact ⟨hd.2.1, hd.1⟩
     ·exact ⟨rfl, by simp [RS.fail, hd.1]⟩
    have h7 := hdead _ h6.1 h6.2
    have h8 : Qak p.l.length p = none := by
     by_cases hc : (Qp p).2.bad = true ∨ cB (Qp p).1 = false
     ·exact QdB hne hc
     ·have h0 : (Qp p).2.bad = false := by simp only [not_or] at hc; simpa using hc.1
      rw [QdA hne hc, QbE.prog _ _ (Nat.le_refl _) h0 hd.2.2.2]
      rfl
    rw [h8]
    exact h7
def PS.start (l : Str) : PS := ⟨Qco l, [], false⟩
theorem QkI (l : Str) (h : ¬ 2000 < l.length) : Rel (RS.start l) (PS.start l) := by
 unfold RS.start
 rw [if_neg h]
 exact Qrr rfl rfl rfl rfl
theorem QiL (l : Str) (h : 2000 < l.length) : (RS.start l).token = [] ∧ (RS.start l).err = 3 := by
 unfold RS.start
 rw [if_pos h]
 exact ⟨rfl, rfl⟩
def QeA (l : Str) : List Cl × Int :=
 if 2000 < l.length then ([], 3) else
 match Qak (PS.start l).l.length (PS.start l) with
 | none => ([], 1)
 | some L => if 24 < L.length then ([], 3) else (L, 0)
theorem Qms (l : Str) : Qv QO l = QeA l := by
 unfold Qv QeA
 by_cases h : 2000 < l.length
 ·obtain ⟨h1, h2⟩ := QiL l h
  rw [if_pos h]
  have e : (if 24 < ([] : List Cl).length then (RS.start l).fail 3 else RS.start l) = RS.start l := if_neg Yg
  simp only [Qe3 h1, e]
  rw [if_neg (by rw [h2]; decide), h2]
 ·rw [if_neg h]
  have h1 := Qr9 _ (RS.start l) (PS.start l) (Nat.le_refl _) rfl (QkI l h)
  generalize QD QO (RS.start l).left (RS.start l) = q at h1 ⊢
  cases hp : Qak (PS.start l).l.length (PS.start l) with
  | none =>
   rw [hp] at h1
   simp only at h1 ⊢
   have e : (if 24 < q.1.length then q.2.fail 3 else q.2).err = 1 := by
    split
    ·simp [RS.fail, h1]
    ·exact h1
   rw [if_neg (by rw [e]; decide), e]
  | some L =>
   rw [hp] at h1
   simp only at h1 ⊢
   rw [h1.1]
   by_cases h24 : 24 < L.length
   ·rw [if_pos h24, if_pos h24]
    have e : (q.2.fail 3).err = 3 := by simp [RS.fail, h1.2]
    rw [if_neg (by rw [e]; decide), e]
   ·rw [if_neg h24, if_neg h24, if_pos h1.2]
def Qe2 (l : Str) : Ts × Nat × Int :=
 if 2000 < l.length then (.nil, 0, 3) else
 let g := QaR (PS.start l)
 if g.2.bad = true ∨ g.2.l ≠ [] ∨ qB (g.2.vars.length : Nat) (Qbu g.1) = false then (.nil, 0, 1) else (Qbu g.1, g.2.vars.length, 0)
theorem QkT (l : Str) : QL QO l = Qe2 l := by
 unfold QL Qe2
 by_cases h : 2000 < l.length
 ·obtain ⟨h1, h2⟩ := QiL l h
  rw [if_pos h]
  have e1 : (QJ (Qw QO 24) (RS.start l)).2.err = 3 := by
   have e0 : (Qw QO 24 (RS.start l)).2 = (RS.start l).fail 1 := by unfold Qw; rw [if_pos h1]
   unfold QJ
   simp only [e0]
   rw [QcL (by simp [RS.fail])]
   simp [RS.fail, h2]
  have e2 : ∀ s : RS, s.err = 3 → (s.take [46]).err = 3 := by
   intro s hs
   unfold RS.take RS.adv
   simp only
   split <;> split <;> simp [RS.fail, hs]
  have e3 := e2 _ e1
  simp only
  generalize (QJ (Qw QO 24) (RS.start l)).2.take [46] = s at e3
  have e4 : ∀ b : Prop, ∀ _ : Decidable b, (if b then s else s.fail 1).err = 3 := by
   intro b _
   split
   ·exact e3
   ·simp [RS.fail, e3]
  rw [if_neg (by rw [e4]; decide), e4]
 ·rw [if_neg h]
  have h5 := (Qfq 24).terms (QaW QO 24) (Qb8 24) (Qbw QO 24) (QbE.term 24) [46] (by simp [Qiy]) _ _ (QkI l h)
  have h6 : Rel ((QJ (Qw QO 24) (RS.start l)).2.take [46]) (QaR (PS.start l)).2 := h5.1
  have h7 : ((QJ (Qw QO 24) (RS.start l)).2.take [46]).err = 0 → (QJ (Qw QO 24) (RS.start l)).1 = (QaR (PS.start l)).1 := fun e => h5.2 (Qb7 _ _ e).1
  clear h5
  simp only
  generalize QaR (PS.start l) = g at *
  generalize QJ (Qw QO 24) (RS.start l) = a at *
  generalize a.2.take [46] = s at *
  rcases h6 with hl | hd
  ·rw [h7 hl.1, hl.2.2.1]
   have htk : s.token = [] ↔ g.2.l = [] := by
    rcases hl.2.2.2 with ⟨h1, _, h3⟩ | ⟨h1, h3⟩
    ·simp [h1, h3]
    ·rw [h3]; simp [h1.1]
   by_cases hq : s.token = [] ∧ qB (g.2.vars.length : Nat) (Qbu g.1) = true
   ·rw [if_pos hq, if_pos hl.1, if_neg (by simp [hl.2.1, htk.1 hq.1, hq.2]), hl.2.2.1]
   ·have e : (s.fail 1).err = 1 := by simp [RS.fail, hl.1]
    rw [if_neg hq, if_neg (by rw [e]; decide), e, if_pos]
    by_cases ht : s.token = []
    ·right; right
     have : ¬ qB (g.2.vars.length : Nat) (Qbu g.1) = true := fun h => hq ⟨ht, h⟩
     simpa using this
    ·right; left; exact fun e => ht (htk.2 e)
  ·have e4 : ∀ b : Prop, ∀ _ : Decidable b, (if b then s else s.fail 1).err = 1 := by
    intro b _
    split
    ·exact hd.1
    ·simp [RS.fail, hd.1]
   rw [if_neg (by rw [e4]; decide), e4, if_pos]
   rcases hd.2.2.2 with h | ⟨x, hx, _⟩
   ·exact .inl h
   ·right; left; intro e; rw [e] at hx; simp at hx
def Qb6 (w : World) (mb : Nat) (Qcl : List (Int × Value)) : Prop :=
 ∃ es clock, w.heap[mb]? = some (.map es clock) ∧ es.toList.map (fun e => (e.key, e.val)) = Qcl.map (fun x => (Value.int .i64 x.1, x.2))
def Qo9 (n : Int) : List (Int × Value) → Option Value
 | [] => none
 | x :: r => if n = x.1 then some x.2 else Qo9 n r
def Qup (n : Int) (v : Value) : List (Int × Value) → List (Int × Value)
 | [] => [(n, v)]
 | x :: r => if n = x.1 then (n, v) :: r else x :: Qup n v r
def Qn6 (n : Int) : List (Int × Value) → Nat → Option (Nat × Value)
 | [], _ => none
 | x :: r, i => if n = x.1 then some (i, x.2) else Qn6 n r (i + 1)
theorem QdM (n : Int) : MapKept.IsKey (.int .i64) (.int .i64 n) := by simp [MapKept.IsKey]
theorem QdQ (n : Int) : ∀ (es : List MapEntry) (Qcl : List (Int × Value)) (i : Nat), es.map (fun e => (e.key, e.val)) = Qcl.map (fun x => (Value.int .i64 x.1, x.2)) →
  Instr.findNow (.int .i64) (.int .i64 n) es i = some (Qn6 n Qcl i)
 | [], [], i, _ => rfl
 | [], _ :: _, _, h => by simp at h
 | _ :: _, [], _, h => by simp at h
 | e :: es, x :: Qcl, i, h => by
  simp only [List.map_cons, List.cons.injEq, Prod.mk.injEq] at h
  obtain ⟨⟨h1, h2⟩, h3⟩ := h
  have ih := QdQ n es Qcl (i + 1) h3
  simp only [Instr.findNow, h1, Instr.sameNow, Qn6, if_true]
  by_cases e1 : n = x.1
  ·simp [e1, h2]
  ·have e2 : (n == x.1) = false := by simpa using e1
   rw [e2, if_neg e1, ← ih]
theorem Qia {n : Int} : ∀ {Qcl : List (Int × Value)} {i : Nat}, Qn6 n Qcl i = none ↔ Qo9 n Qcl = none
 | [], _ => by simp [Qn6, Qo9]
 | x :: r, i => by
  simp only [Qn6, Qo9]
  by_cases e : n = x.1
  ·simp [e]
  ·simp only [e, if_false]; exact Qia
theorem QlU {n : Int} : ∀ {Qcl : List (Int × Value)} {i j : Nat} {v : Value}, Qn6 n Qcl i = some (j, v) → Qo9 n Qcl = some v
 | [], _, _, _, h => by simp [Qn6] at h
 | x :: r, i, j, v, h => by
  simp only [Qn6, Qo9] at *
  by_cases e : n = x.1
  ·simp only [e, if_true, Option.some.injEq, Prod.mk.injEq] at h ⊢; exact h.2
  ·simp only [e, if_false] at h ⊢; exact QlU h
theorem Qh7 {n : Int} {v : Value} : ∀ {Qcl : List (Int × Value)}, Qo9 n Qcl = none → Qup n v Qcl = Qcl ++ [(n, v)]
 | [], _ => rfl
 | x :: r, h => by
  simp only [Qo9] at h
  by_cases e : n = x.1
  ·simp [e] at h
  ·simp only [e, if_false] at h
   simp only [Qup, e, if_false, Qh7 h, List.cons_append]
theorem QlP {n : Int} {v u : Value} : ∀ {Qcl : List (Int × Value)} {i j : Nat}, Qn6 n Qcl i = some (j, u) → i ≤ j ∧ (Qcl[j - i]?).map (·.1) = some n ∧ Qup n v Qcl = Qcl.set (j - i) (n, v)
 | [], _, _, h => by simp [Qn6] at h
 | x :: r, i, j, h => by
  simp only [Qn6, Qup] at *
  by_cases e : n = x.1
  ·simp only [e, if_true, Option.some.injEq, Prod.mk.injEq] at h
   obtain ⟨rfl, _⟩ := h
   simp [e]
  ·simp only [e, if_false] at h ⊢
   obtain ⟨h1, h2, h3⟩ := QlP (v := v) h
   have e1 : j - i = (j - (i + 1)) + 1 := by omega
   refine ⟨by omega, by rw [e1]; simpa using h2, by rw [h3, e1]; rfl⟩
section
variable {P : Program} {w : World} {mb : Nat} {Qcl : List (Int × Value)} {t kt et : TypeId}
theorem Qb6.lt (h : Qb6 w mb Qcl) : mb < w.heap.size := by
 obtain ⟨es, clock, hb, _⟩ := h
 exact (Array.getElem?_eq_some_iff.1 hb).1
theorem Qb6.keep {w' : World} (h : Qb6 w mb Qcl) (hk : w'.heap[mb]? = w.heap[mb]?) : Qb6 w' mb Qcl := by
 obtain ⟨es, clock, hb, he⟩ := h
 exact ⟨es, clock, hk.trans hb, he⟩
theorem Qb6.made (w : World) : Qb6 (w.alloc (.map #[] 0)) w.heap.size [] := ⟨#[], 0, heap_alloc_new w _, rfl⟩
theorem Qmg {P : Program} (t : TypeId) (w : World) : (Instr.makeMap t none).run P w = .ok (.map (some w.heap.size)) (w.alloc (.map #[] 0)) := by
 simp [Instr.makeMap, newObj, Sem.run]
theorem Qb6.lookup (h : Qb6 w mb Qcl) {z : Value} (ht : P.underlying t = some (.map kt et)) (hk : P.underlying kt = some (.int .i64))
  (hz : (zeroValue et).run P w = .ok z w) (n : Int) (c : Bool) :
  (Instr.lookup t (.map (some mb)) (.int .i64 n) c).run P w = .ok (if c then .tuple #[(Qo9 n Qcl).getD z, .bool (Qo9 n Qcl).isSome] else (Qo9 n Qcl).getD z) w := by
 obtain ⟨es, clock, hb, he⟩ := h
 have hf := QdQ n es.toList Qcl 0 he
 cases ha : Qn6 n Qcl 0 with
 | none =>
  rw [ha] at hf
  simp [Instr.lookup, run_underlying ht, MapKept.run_getObj_map hb, MapKept.run_checkKey hk (QdM n), MapKept.run_findKey hk hf, hz, Result.andThen, Qia.1 ha]
 | some x =>
  rw [ha] at hf
  simp [Instr.lookup, run_underlying ht, MapKept.run_getObj_map hb, MapKept.run_checkKey hk (QdM n), MapKept.run_findKey hk hf, Result.andThen, QlU ha]
theorem Qb6.update (h : Qb6 w mb Qcl) (ht : P.underlying t = some (.map kt et)) (hk : P.underlying kt = some (.int .i64)) (n : Int) (v : Value) :
  ∃ w', (Instr.mapUpdate t (.map (some mb)) (.int .i64 n) v).run P w = .ok () w' ∧ Qb6 w' mb (Qup n v Qcl) ∧ Chg (fun k => k = mb) w w' ∧ w'.heap.size = w.heap.size := by
 have hlt := h.lt
 obtain ⟨es, clock, hb, he⟩ := h
 have hf := QdQ n es.toList Qcl 0 he
 cases ha : Qn6 n Qcl 0 with
 | none =>
  rw [ha] at hf
  refine ⟨{ w with heap := w.heap.setIfInBounds mb (.map (es.push { key := .int .i64 n, val := v, born := clock }) (clock + 1)) }, ?_, ⟨_, _, (MapKept.heap_set hb).1, ?_⟩, ⟨rfl, rfl, rfl, by simp, fun k _ hn => (MapKept.heap_set hb).2 k hn⟩, by simp⟩
  ·simp [Instr.mapUpdate, run_underlying ht, MapKept.run_getObj_map hb, MapKept.run_checkKey hk (QdM n), MapKept.run_findKey hk hf, MapKept.run_setObj_map _ hb, Result.andThen]
  ·rw [Qh7 (Qia.1 ha), Array.toList_push, List.map_append, List.map_append, he]; rfl
 | some x =>
  obtain ⟨j, u⟩ := x
  rw [ha] at hf
  obtain ⟨_, h2, h3⟩ := QlP (v := v) ha
  simp only [Nat.sub_zero] at h2 h3
  have hent : ∃ e, es[j]? = some e ∧ e.key = .int .i64 n := by
   have h4 := congrArg (fun l => l[j]?) he
   simp only [List.getElem?_map] at h4
   cases h5 : Qcl[j]? with
   | none => rw [h5] at h2; simp at h2
   | some y =>
    rw [h5] at h2 h4
    simp only [Option.map_some, Option.some.injEq] at h2
    cases h6 : es[j]? with
    | none => simp [h6] at h4
    | some e =>
     simp [h6] at h4
     exact ⟨e, rfl, by rw [h4.1, h2]⟩
  obtain ⟨e, hj, hkey⟩ := hent
  refine ⟨{ w with heap := w.heap.setIfInBounds mb (.map (es.modify j fun e => { e with key := .int .i64 n, val := v }) clock) }, ?_, ⟨_, _, (MapKept.heap_set hb).1, ?_⟩, ⟨rfl, rfl, rfl, by simp, fun k _ hn => (MapKept.heap_set hb).2 k hn⟩, by simp⟩
  ·simp [Instr.mapUpdate, run_underlying ht, MapKept.run_getObj_map hb, MapKept.run_checkKey hk (QdM n), MapKept.run_findKey hk hf, hj, hkey, MapKept.run_keyThatStays (QdM n), MapKept.run_setObj_map _ hb, Result.andThen]
  ·rw [h3]
   apply List.ext_getElem?
   intro i
   have h4 := congrArg (fun l => l[i]?) he
   simp only [List.getElem?_map, Array.getElem?_toList] at h4
   simp only [List.getElem?_map, Array.getElem?_toList, Array.getElem?_modify, List.getElem?_set]
   by_cases hij : j = i
   ·subst hij
    have hjl : j < Qcl.length := by
     rcases Nat.lt_or_ge j Qcl.length with hl | hl
     ·exact hl
     ·rw [List.getElem?_eq_none hl] at h2; simp at h2
    simp [hj, hjl]
   ·simp [hij, h4]
theorem Qb6.size (h : Qb6 w mb Qcl) : ∃ es clock, w.heap[mb]? = some (.map es clock) ∧ es.size = Qcl.length := by
 obtain ⟨es, clock, hb, he⟩ := h
 refine ⟨es, clock, hb, ?_⟩
 have := congrArg List.length he
 simpa using this
theorem Qb6.len (h : Qb6 w mb Qcl) (ht : P.underlying t = some (.map kt et)) (ty : TypeId) : (Builtin.len_ #[t] ty #[.map (some mb)]).run P w = .ok (.int .i64 Qcl.length) w := by
 obtain ⟨es, clock, hb, hs⟩ := h.size
 simp [Builtin.len_, run_underlying ht, MapKept.run_getObj_map hb, Result.andThen, hs, goInt]
end
section
variable {P : Program} {n : Nat} {e : Env} {w : World} {Q : Exit → Act → World → Prop} {ops : Array Oper} {rest : List Oper} {ty : TypeId} {pos : String} {after : Array Edge} {d : Nat}
variable {M : List Nat} {w0 : World} {H H' : List (Nat × Obj)} {F : List (World → Prop)} {mb : Nat} {es : Array MapEntry} {clk : Nat} {Qcl : List (Int × Value)} {x y u : Operand} {v z : Value} {dst : Option Nat} {t kt : TypeId} {i : Int}
end
def pB (L : List Cl) : Bool := decide (L.length ≤ 24) && L.all cB
def Qtx (w : World) (L : List Cl) (g : Nat) (sx : Value) (wr : World) : Prop := ∃ D R : List Cl, L = D ++ R ∧ g = R.length ∧ sx = .int .i64 D.length ∧ D.all cB = true ∧ Below w.heap.size w wr
section
variable {w w' : World} {p q : Nat → Prop}
end
end Go.Proofs.YthliapbflkfdiacGreatDoor
