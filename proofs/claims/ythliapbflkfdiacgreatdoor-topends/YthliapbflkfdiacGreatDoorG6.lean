/- EWalk2, NumB, RefM, RefN, RefEq, RefEq2, IntMap, MapM, Program: texts that follow one another, laid into one file. -/
import Derived.Test.YthliapbflkfdiacGreatDoorZ0
import Derived.Test.YthliapbflkfdiacGreatDoorG5
import Derived.Test.YthliapbflkfdiacGreatDoorG4
import Derived.Test.YthliapbflkfdiacGreatDoorG1
import Derived.MapKept
import Derived.Maps.OwnOps
import Derived.Test.YthliapbflkfdiacGreatDoorG2
namespace Go.Proofs.YthliapbflkfdiacGreatDoor
open Go.RowKit Go.Shelf
set_option linter.unusedVariables false
set_option linter.unusedSimpArgs false
set_option maxRecDepth 100000
set_option maxHeartbeats 1000000
def QfA (w : World) : Prop := ∀ i : Nat, i < 7 → w.cell? ⟨0, i, none⟩ = some (sv (QeR (i : Nat)))
theorem QrP (k : Int) : (QeR k).length ≤ 6 := by
 unfold QeR
 repeat' split
 all_goals decide
theorem Qss (k : Int) (T : Ts) (v : Value) (w0 : World) (hG : ∀ w', Ext [] w0 w' → Qdb w') (hW : ∀ w', Ext [] w0 w' → QfA w') (hv : Sl w0 (fun _ => True) v T) (hr : rng T) (hN : T.nodes ≤ 1048576) (hl : (QbT k T).length ≤ 1073741824) :
  Calls Tryz.prog 18 #[.agg #[.int .i64 k, v]] w0 fun e w' => e = .returned (sv (QbT k T)) ∧ Below w0.heap.size w0 w' := by
 have hS := St.start w0
 obtain ⟨A, c, rfl, hv⟩ := hv.form
 refine Qh Tryz.func18 rfl Tryz.ntmps18 rfl ?_
 by_cases h0 : k < 0
 ·have e : QbT k T = [] := by unfold QbT QeR; repeat' rw [if_neg Ya]
  rw [e]
  refine Zi ?_
  clear hS
  intro b1 wx1 hS
  refine ZcP ?_
  refine Zx ?_
  refine Zaj ?_
  refine Zal ?_
  refine Za4 ?_
  refine Zed ?_
  exact ⟨rfl, hS.ext.below⟩
 by_cases h7 : 7 ≤ k
 ·have e : QbT k T = [] := by unfold QbT QeR; repeat' rw [if_neg Ya]
  rw [e]
  refine Zi ?_
  clear hS
  intro b1 wx1 hS
  refine ZcP ?_
  refine Zx ?_
  refine Zy ?_
  refine ZbZ ?_
  refine Zam ?_
  refine Za4 ?_
  refine Zed ?_
  exact ⟨rfl, hS.ext.below⟩
 obtain ⟨i, rfl⟩ : ∃ i : Nat, k = i := ⟨k.toNat, by omega⟩
 have hwc : ∀ w', Ext [] w0 w' → w'.cell? ⟨0, 0 + ((i : Nat) : Int).toNat * 1, none⟩ = some (sv (QeR (i : Nat))) := fun w' h => by
  have := hW w' h i Ya
  rwa [show 0 + ((i : Nat) : Int).toNat * 1 = i by omega]
 have hwl := QrP (i : Nat)
 by_cases h1 : ((i : Nat) : Int) = 1
 ·have e : QbT (i : Nat) T = QeR (i : Nat) ++ QbG 0 T := by unfold QbT; rw [if_pos h1, h1]; rfl
  rw [e] at hl ⊢
  rw [List.length_append] at hl
  refine Zi ?_
  clear hS
  intro b1 wx1 hS
  refine ZM ?_
  refine Zdb ?_
  refine Zx ?_
  refine Zy ?_
  refine Zbh ?_
  refine ZcC ?_
  refine Zt ?_
  refine Zam ?_
  refine Zap ?_
  refine Zdb ?_
  refine ZfJ ?_
  refine ZcC ?_
  refine ZM ?_
  refine Zdb ?_
  refine Zl ?_
  refine Zcv ?_
  refine ZR ?_
  refine ZcC ?_
  refine Zj ?_
  refine Calls.mono (Qoh T _ _ (fun w' h => hG w' (hS.ext.trans h)) (hv.below hS.ext.below) hr hN Ya) ?_
  rintro _ w3 ⟨rfl, hb3⟩
  refine Za ?_
  replace hS := hS.grow hb3
  refine Qa (Qoy rfl rfl (by first | omega | (simp; done) | (simp; omega))) rfl ?_
  refine Zg ?_
  refine Zed ?_
  exact ⟨rfl, hS.ext.below⟩
 ·have e : QbT (i : Nat) T = QeR (i : Nat) := by unfold QbT; rw [if_neg h1]
  rw [e]
  refine Zi ?_
  clear hS
  intro b1 wx1 hS
  refine ZM ?_
  refine Zdb ?_
  refine Zx ?_
  refine Zy ?_
  refine Zbh ?_
  refine ZcC ?_
  refine Zt ?_
  refine Zam ?_
  refine Zap ?_
  refine Zdb ?_
  refine ZfJ ?_
  refine ZcC ?_
  refine ZM ?_
  refine Zdb ?_
  refine Zl ?_
  refine Zq ?_
  refine ZQ ?_
  refine Zed ?_
  exact ⟨rfl, hS.ext.below⟩
theorem Qk1 : ∀ (l m : Str) (acc a : Nat), Lib.parseUint10 acc l = .ok a → Lib.parseUint10 acc (l ++ m) = Lib.parseUint10 a m
 | [], m, acc, a, h => by
  simp only [Lib.parseUint10, Lib.NumEnd.ok.injEq] at h
  subst h; rfl
 | c :: r, m, acc, a, h => by
  simp only [List.cons_append, Lib.parseUint10] at h ⊢
  split at h
  ·rename_i hc
   rw [if_pos hc]
   split at h
   ·cases h
   ·rename_i h1
    rw [if_neg h1]
    split at h
    ·cases h
    ·rename_i h2
     rw [if_neg h2]
     exact Qk1 r m _ a h
  ·cases h
theorem Qh0 (d : Nat) (h : d < 10) : (UInt8.ofNat (48 + d)).toNat = 48 + d := by
 rw [UInt8.toNat_ofNat']; omega
theorem Qgi (u : Nat) (h : u < 9223372036854775808) : Lib.parseUint10 0 (Lib.decDigits u) = .ok u := by
 induction u using Nat.strongRecOn with
 | ind u ih =>
  by_cases h10 : u < 10
  ·rw [Lib.decDigits_one h10]
   have := Qh0 u h10
   simp only [Lib.parseUint10, this]
   rw [if_pos Ya, if_neg Ya, if_neg Ya]
   simp
  ·rw [Lib.decDigits, dif_neg h10, Qk1 _ _ _ _ (ih (u / 10) Ya Ya)]
   have := Qh0 (u % 10) Ya
   simp only [Lib.parseUint10, this]
   rw [if_pos Ya, if_neg Ya, if_neg Ya]
   congr 1
   omega
theorem QdT (u : Nat) : Lib.decDigits u ≠ [] := by
 rw [Lib.decDigits]
 split <;> simp
theorem Qjn (u : Nat) : ∀ c ∈ Lib.decDigits u, Qbt c = true := by
 have hd : ∀ d, d < 10 → Qbt (UInt8.ofNat (48 + d)) = true := fun d h => by
  have := Qh0 d h
  simp only [Qbt, this]
  simp; omega
 induction u using Nat.strongRecOn with
 | ind u ih =>
  by_cases h10 : u < 10
  ·rw [Lib.decDigits_one h10]
   intro c hc
   rw [List.mem_singleton.1 hc]
   exact hd u h10
  ·rw [Lib.decDigits, dif_neg h10]
   intro c hc
   rcases List.mem_append.1 hc with hc | hc
   ·exact ih (u / 10) Ya c hc
   ·rw [List.mem_singleton.1 hc]
    exact hd _ Ya
theorem QfR : ∀ (k u : Nat), u < 10 ^ (k + 1) → Lib.nDigits u ≤ k + 1
 | 0, u, h => by rw [Lib.nDigits_small (by simpa using h)]; omega
 | k + 1, u, h => by
  by_cases h10 : u < 10
  ·rw [Lib.nDigits_small h10]; omega
  ·rw [Lib.nDigits_big h10]
   have := QfR k (u / 10) (by rw [Nat.pow_succ] at h; omega)
   omega
theorem Qub (c : UInt8) (h : Qbt c = true) : c.toNat ≠ 43 ∧ c.toNat ≠ 45 := by
 simp [Qbt] at h; omega
theorem Qrd (n : Int) (h0 : -1099511627776 ≤ n) (h1 : n ≤ 1099511627776) : Lib.atoiAll (Lib.itoa n) = .ok n := by
 unfold Lib.itoa
 split
 ·have hp := Qgi n.natAbs Ya
  have hne := QdT n.natAbs
  simp only [Lib.atoiAll, Lib.parseMag]
  have e1 : (UInt8.toNat 45 = 43 ∨ UInt8.toNat 45 = 45) = True := eq_true Yg
  have e2 : (UInt8.toNat 45 = 45) = True := eq_true Yg
  simp only [e2, or_true, if_true]
  rw [if_neg hne, hp]
  simp only [not_true_eq_false, false_and, if_false, true_and]
  rw [if_neg Ya]
  congr 1; omega
 ·have hp := Qgi n.toNat Ya
  cases hl : Lib.decDigits n.toNat with
  | nil => exact absurd hl (QdT _)
  | cons c r =>
   have hc := Qub c (Qjn n.toNat c (by rw [hl]; exact .head _))
   rw [hl] at hp
   simp only [Lib.atoiAll, Lib.parseMag]
   simp only [hc.1, hc.2, or_self, if_false]
   rw [if_neg Yd, hp]
   simp only [not_false_eq_true, true_and, false_and, if_false]
   rw [if_neg Ya]
   congr 1; omega
theorem Qqg (n : Int) (h0 : -1099511627776 ≤ n) (h1 : n ≤ 1099511627776) : QI (Lib.itoa n) = some n := by
 unfold QI
 rw [Qrd n h0 h1]
 simp only
 rw [if_pos ⟨trivial, h0, h1⟩]
def Qas : Str → Nat
 | [] => 0
 | c :: r =>
  if QdI c || upB c then 1 + Qbe QdI r
  else if Qbt c || (c == 45) then 1 + Qbe Qbt r
  else if ([58, 45] : Str).isPrefixOf (c :: r) then 2
  else if Qee.contains c then 1
  else 0
def QbX : Nat → Str → List Str
 | 0, _ => []
 | f + 1, [] => []
 | f + 1, c :: r =>
  if QiD c then QbX f r
  else if Qas (c :: r) = 0 then [[]]
  else (c :: r).take (Qas (c :: r)) :: QbX f ((c :: r).drop (Qas (c :: r)))
def Qcp (l : Str) : List Str := QbX l.length l
theorem QcC : ∀ (n : Nat) (l : Str), l.length ≤ n → QbX n l = Qcp l := by
 intro n
 induction n using Nat.strongRecOn with
 | _ n ih =>
  intro l hn
  cases l with
  | nil => cases n <;> rfl
  | cons c r =>
   obtain ⟨m, rfl⟩ : ∃ m, n = m + 1 := ⟨n - 1, by simp at hn; omega⟩
   unfold Qcp
   simp only [List.length_cons] at hn ⊢
   simp only [QbX]
   split
   ·rw [ih m Ya r Ya]; rfl
   split
   ·rfl
   ·rename_i hw
    have hl : ((c :: r).drop (Qas (c :: r))).length ≤ r.length := by
     rw [List.length_drop]; simp; omega
    rw [ih m Ya _ Ya]
    by_cases e : m = r.length
    ·rw [e] at ih; rw [← ih r.length Ya _ hl]
    ·rw [← ih r.length Ya _ hl]
theorem Ql5 {c : UInt8} (r : Str) (h : QiD c = true) : Qcp (c :: r) = Qcp r := by
 rw [← QcC (r.length + 1) (c :: r) Yd, QbX, if_pos h, QcC _ r (Nat.le_refl _)]
theorem Qpo {c : UInt8} (r : Str) (h : QiD c = false) (hw : Qas (c :: r) = 0) : Qcp (c :: r) = [[]] := by
 rw [← QcC (r.length + 1) (c :: r) Yd, QbX, if_neg (by simp [h]), if_pos hw]
theorem QiB {c : UInt8} (r : Str) (h : QiD c = false) (hw : Qas (c :: r) ≠ 0) : Qcp (c :: r) = (c :: r).take (Qas (c :: r)) :: Qcp ((c :: r).drop (Qas (c :: r))) := by
 rw [← QcC (r.length + 1) (c :: r) Yd, QbX, if_neg (by simp [h]), if_neg hw, QcC _ _ (by rw [List.length_drop]; simp; omega)]
structure PS where
 l : List Str
 vars : List Str
 bad : Bool
def PS.has (p : PS) (t : Str) : Bool := p.l.head? == some t
def PS.pop (p : PS) : PS := { p with l := p.l.tail }
def PS.spoil (p : PS) : PS := { p with bad := true }
def PS.close (p : PS) (t : Str) : PS := if p.bad then p else if p.has t then p.pop else p.spoil
def PS.var (p : PS) (x : Str) : Nat × PS := if x ∈ p.vars then (Qfe p.vars x, p) else (p.vars.length, { p with vars := p.vars ++ [x] })
def Ql1 (d : Str) : Nat := d.foldl (fun n c => 10 * n + (c - 48).toNat) 0
def Qrb (s : Str) : Str := match s with | 45 :: r => r | _ => s
def QcD (s : Str) : Option Int :=
 let d := Qrb s
 if d = [] ∨ 13 < d.length ∨ (Qei d = 48 ∧ s ≠ [48]) then none
 else if 1099511627776 < Ql1 d then none
 else some (if d = s then (Ql1 d : Int) else -(Ql1 d : Int))
def QQ (f : PS → Nd × PS) : Nat → PS → List Nd × PS
 | 0, p => ([], p)
 | fuel + 1, p => if p.bad = false ∧ p.has [44] = true then
   let a := f p.pop
   let q := QQ f fuel a.2
   (a.1 :: q.1, q.2)
  else ([], p)
def Qae (f : PS → Nd × PS) (t : Str) (p : PS) : List Nd × PS :=
 let a := f p
 let q := QQ f a.2.l.length a.2
 (a.1 :: q.1, q.2.close t)
def QP : Nat → PS → Nd × PS
 | 0, p => (Nd.zero, p.spoil)
 | d + 1, p => match p.l with
  | [] => (Nd.zero, p.spoil)
  | [] :: _ => (Nd.zero, p.spoil)
  | (c :: r) :: _ =>
   if c :: r = [33] then (⟨1, 0, [33], .nil⟩, p.pop)
   else if upB c then (⟨0, (p.pop.var (c :: r)).1, [], .nil⟩, (p.pop.var (c :: r)).2)
   else if (c == 45) || Qbt c then (⟨2, (QcD (c :: r)).getD 0, [], .nil⟩, { p.pop with bad := p.bad || (QcD (c :: r)).isNone })
   else if QdI c = false then (Nd.zero, p.spoil)
   else if p.pop.has [40] then
    (⟨3, 0, c :: r, Qbv (Qae (QP d) [41] p.pop.pop).1⟩, (Qae (QP d) [41] p.pop.pop).2)
   else (⟨1, 0, c :: r, .nil⟩, p.pop)
def QaR (p : PS) : List Nd × PS := Qae (QP 24) [46] p
def QaK (p : PS) : List Nd × PS := if p.bad = false ∧ p.has [58, 45] = true then QaR p.pop else ([], p.close [46])
theorem QiZ (p : PS) : p.pop.l.length ≤ p.l.length := by simp [PS.pop]
theorem Qkb (p : PS) (t : Str) : (p.close t).l.length ≤ p.l.length := by
 unfold PS.close
 split
 ·exact Nat.le_refl _
 split
 ·exact QiZ p
 ·exact Nat.le_refl _
theorem QhO {p : PS} {t : Str} (h : p.has t = true) : p.pop.l.length < p.l.length ∧ p.l = t :: p.pop.l := by
 unfold PS.has at h
 cases hl : p.l with
 | nil => rw [hl] at h; simp at h
 | cons x r => rw [hl] at h; simp at h; simp [PS.pop, hl, h]
def Qm1 (f : PS → Nd × PS) : Prop := ∀ p, (f p).2.l.length ≤ p.l.length
theorem QiV {f : PS → Nd × PS} (hf : Qm1 f) : ∀ (n : Nat) (p : PS), (QQ f n p).2.l.length ≤ p.l.length
 | 0, p => Nat.le_refl _
 | n + 1, p => by
  unfold QQ
  split
  ·have h1 := QiV hf n (f p.pop).2
   have h2 := hf p.pop
   have h3 := QiZ p
   simp only
   omega
  ·exact Nat.le_refl _
theorem Qey {f : PS → Nd × PS} (hf : Qm1 f) (t : Str) (p : PS) : (Qae f t p).2.l.length ≤ p.l.length := by
 have h1 := QiV hf (f p).2.l.length (f p).2
 have h2 := hf p
 have h3 := Qkb (QQ f (f p).2.l.length (f p).2).2 t
 simp only [Qae]
 omega
theorem QpY (p : PS) (x : Str) : (p.var x).2.l = p.l ∧ (p.var x).2.bad = p.bad := by
 unfold PS.var
 split <;> exact ⟨rfl, rfl⟩
theorem Qb9 : ∀ d, Qm1 (QP d)
 | 0, p => Nat.le_refl _
 | d + 1, p => by
  unfold QP
  have h1 := QiZ p
  split
  ·exact Nat.le_refl _
  ·exact Nat.le_refl _
  ·rename_i c r q hl
   split
   ·exact h1
   split
   ·rw [(QpY _ _).1]; exact h1
   split
   ·exact h1
   split
   ·exact Nat.le_refl _
   split
   ·have h2 := Qey (Qb9 d) [41] p.pop.pop
    have h3 := QiZ p.pop
    simp only; omega
   ·exact h1
theorem QkT {f : PS → Nd × PS} (hf : Qm1 f) : ∀ (n : Nat) (p : PS), p.l.length ≤ n → QQ f n p = QQ f p.l.length p := by
 intro n
 induction n using Nat.strongRecOn with
 | _ n ih =>
  intro p hn
  by_cases ht : p.bad = false ∧ p.has [44] = true
  ·have h1 := (QhO ht.2).1
   have h2 := hf p.pop
   obtain ⟨m, rfl⟩ : ∃ m, n = m + 1 := ⟨n - 1, by omega⟩
   obtain ⟨l, hl⟩ : ∃ l, p.l.length = l + 1 := ⟨p.l.length - 1, by omega⟩
   rw [hl]
   simp only [QQ, if_pos ht]
   rw [ih m Ya (f p.pop).2 Ya, ih l Ya (f p.pop).2 Ya]
  ·have h0 : ∀ k, QQ f k p = ([], p) := fun k => by cases k with | zero => rfl | succ k => simp only [QQ, if_neg ht]
   rw [h0, h0]
theorem QkS {f : PS → Nd × PS} (hf : Qm1 f) {p : PS} (ht : p.bad = false ∧ p.has [44] = true) : QQ f p.l.length p = ((f p.pop).1 :: (QQ f (f p.pop).2.l.length (f p.pop).2).1, (QQ f (f p.pop).2.l.length (f p.pop).2).2) := by
 have h1 := (QhO ht.2).1
 have h2 := hf p.pop
 obtain ⟨l, hl⟩ : ∃ l, p.l.length = l + 1 := ⟨p.l.length - 1, by omega⟩
 rw [hl]
 simp only [QQ, if_pos ht]
 rw [QkT hf l (f p.pop).2 Ya]
theorem Qgg {f : PS → Nd × PS} {p : PS} (ht : ¬ (p.bad = false ∧ p.has [44] = true)) : QQ f p.l.length p = ([], p) := by
 cases p.l.length with
 | zero => rfl
 | succ k => simp only [QQ, if_neg ht]
theorem QlF (d : Str) (c : UInt8) : Ql1 (d ++ [c]) = 10 * Ql1 d + (c - 48).toNat := by simp [Ql1, List.foldl_append]
theorem Qua {c : UInt8} (h : Qbt c = true) : (c - 48).toNat < 10 ∧ UInt8.ofNat (48 + (c - 48).toNat) = c := by
 have hh : ∀ n : Fin 256, Qbt (UInt8.ofNat n.val) = true → (UInt8.ofNat n.val - 48).toNat < 10 ∧ UInt8.ofNat (48 + (UInt8.ofNat n.val - 48).toNat) = UInt8.ofNat n.val := by decide +kernel
 have := hh ⟨c.toNat, c.toNat_lt⟩
 simp only [UInt8.ofNat_toNat] at this
 exact this h
theorem Qmd (d : Nat) (h : d < 10) : (UInt8.ofNat (48 + d) - 48).toNat = d := by
 have hh : ∀ n : Fin 10, (UInt8.ofNat (48 + n.val) - 48).toNat = n.val := by decide +kernel
 exact hh ⟨d, h⟩
theorem QhW (u : Nat) : Ql1 (Lib.decDigits u) = u := by
 induction u using Nat.strongRecOn with
 | ind u ih =>
  by_cases h10 : u < 10
  ·rw [Lib.decDigits_one h10]
   have := Qmd u h10
   simp only [Ql1, List.foldl_cons, List.foldl_nil]
   omega
  ·rw [Lib.decDigits, dif_neg h10, QlF, ih (u / 10) Ya, Qmd _ Ya]
   omega
theorem Qom : ∀ (l : Str), l = [] ∨ ∃ e c, l = e ++ [c] := fun l => by
 rcases List.eq_nil_or_concat l with h | ⟨e, c, h⟩
 ·exact .inl h
 ·exact .inr ⟨e, c, by simpa using h⟩
theorem QhZ : ∀ (n : Nat) (d : Str), d.length = n → (∀ c ∈ d, Qbt c = true) → d ≠ [] → Qei d ≠ 48 → Lib.decDigits (Ql1 d) = d ∧ 0 < Ql1 d := by
 intro n
 induction n with
 | zero => intro d hl _ hne; exact absurd (List.eq_nil_of_length_eq_zero hl) hne
 | succ n ih =>
  intro d hl hd hne h48
  rcases Qom d with rfl | ⟨e, c, rfl⟩
  ·exact absurd rfl hne
  have hc := Qua (hd c Yd)
  rw [QlF]
  cases e with
  | nil =>
   have h0 : (c - 48).toNat ≠ 0 := fun h0 => by
    have := hc.2
    rw [h0] at this
    exact h48 (by show c = 48; rw [← this]; rfl)
   have e0 : Ql1 [] = 0 := rfl
   rw [e0, Nat.mul_zero, Nat.zero_add, Lib.decDigits_one hc.1, hc.2]
   exact ⟨rfl, by omega⟩
  | cons x e =>
   have h1 := ih (x :: e) (by simp at hl ⊢; omega) (fun y hy => hd y (List.mem_append_left _ hy)) Yd h48
   have h2 : ¬ 10 * Ql1 (x :: e) + (c - 48).toNat < 10 := by omega
   have h3 : (10 * Ql1 (x :: e) + (c - 48).toNat) / 10 = Ql1 (x :: e) := by omega
   have h4 : (10 * Ql1 (x :: e) + (c - 48).toNat) % 10 = (c - 48).toNat := by omega
   rw [Lib.decDigits, dif_neg h2, h3, h4, hc.2, h1.1]
   exact ⟨rfl, by omega⟩
theorem QqV : Ql1 [48] = 0 := rfl
theorem QhX : Lib.decDigits 0 = [48] := by rw [Lib.decDigits_one Ya]; rfl
theorem QhY (u : Nat) (h : 0 < u) : Qei (Lib.decDigits u) ≠ 48 := by
 induction u using Nat.strongRecOn with
 | ind u ih =>
  by_cases h10 : u < 10
  ·rw [Lib.decDigits_one h10]
   intro e
   have := Qmd u h10
   rw [show UInt8.ofNat (48 + u) = 48 from e] at this
   have h0 : ((48 : UInt8) - 48).toNat = 0 := by decide
   omega
  ·rw [Lib.decDigits, dif_neg h10]
   have h1 := ih (u / 10) Ya Ya
   have h2 := QdT (u / 10)
   cases hl : Lib.decDigits (u / 10) with
   | nil => exact absurd hl h2
   | cons x r => rw [hl] at h1; exact h1
theorem Qn0 {c : UInt8} {r : Str} (h : Qbt c = true) : Qrb (c :: r) = c :: r := by
 unfold Qrb
 split
 ·rename_i e; cases e; exact absurd h Yg
 ·rfl
def QrA (t : Str) : Prop := (t ≠ [] ∧ ∀ c ∈ t, Qbt c = true) ∨ ∃ r, t = 45 :: r ∧ r ≠ [] ∧ ∀ c ∈ r, Qbt c = true
theorem Qoi {t : Str} {v : Int} (ht : QrA t) (h : QcD t = some v) : t = Lib.itoa v ∧ -1099511627776 ≤ v ∧ v ≤ 1099511627776 := by
 unfold QcD at h
 simp only at h
 split at h
 ·cases h
 rename_i h1
 split at h
 ·cases h
 rename_i h2
 simp only [not_or, not_and] at h1
 obtain ⟨h11, h12, h13⟩ := h1
 rcases ht with ⟨hne, hd⟩ | ⟨r, rfl, hne, hd⟩
 ·cases t with
  | nil => exact absurd rfl hne
  | cons c r =>
   have hb := Qn0 (r := r) (hd c (.head _))
   rw [hb] at h h13 h2
   rw [if_pos rfl] at h
   cases h
   refine ⟨?_, by omega, by omega⟩
   unfold Lib.itoa
   rw [if_neg Ya, Int.toNat_natCast]
   by_cases h48 : Qei (c :: r) = 48
   ·have := h13 h48
    have h5 : c :: r = [48] := by simpa using this
    rw [h5, QqV, QhX]
   ·exact (QhZ _ _ rfl hd Yd h48).1.symm
 ·have hb : Qrb (45 :: r) = r := rfl
  rw [hb] at h h13 h2
  have hner : r ≠ 45 :: r := fun e => by have := congrArg List.length e; simp at this
  rw [if_neg hner] at h
  cases h
  have h48 : Qei r ≠ 48 := fun e => absurd (h13 e) Yd
  have h5 := QhZ _ _ rfl hd hne h48
  refine ⟨?_, by omega, by omega⟩
  unfold Lib.itoa
  rw [if_pos Ya, Int.natAbs_neg, Int.natAbs_natCast, h5.1]
theorem Qoj (v : Int) (h0 : -1099511627776 ≤ v) (h1 : v ≤ 1099511627776) : QcD (Lib.itoa v) = some v := by
 unfold Lib.itoa
 split
 ·have hd := QhW v.natAbs
  have hh := QhY v.natAbs Ya
  have hn := QdT v.natAbs
  have hl := QfR 12 v.natAbs Ya
  rw [← Lib.decDigits_length] at hl
  generalize Lib.decDigits v.natAbs = d at *
  have hner : d ≠ 45 :: d := fun e => by have := congrArg List.length e; simp at this
  have hb : Qrb (45 :: d) = d := rfl
  unfold QcD
  simp only [hb]
  rw [if_neg (by simp [hn, hh]; omega), hd, if_neg Ya, if_neg hner]
  congr 1; omega
 ·have hd := QhW v.toNat
  have hn := QdT v.toNat
  have hl := QfR 12 v.toNat Ya
  rw [← Lib.decDigits_length] at hl
  have hh : Qei (Lib.decDigits v.toNat) = 48 → Lib.decDigits v.toNat = [48] := fun e => by
   by_cases hz : v.toNat = 0
   ·rw [hz]; exact QhX
   ·exact absurd e (QhY _ Ya)
  have hall := Qjn v.toNat
  generalize Lib.decDigits v.toNat = d at *
  cases d with
  | nil => exact absurd rfl hn
  | cons c r =>
   have hb := Qn0 (r := r) (hall c (.head _))
   unfold QcD
   simp only [hb]
   rw [if_neg (by
    rintro (h | h | ⟨h, h'⟩)
    ·exact hn h
    ·omega
    ·exact h' (hh h)), hd, if_neg Ya, if_pos trivial]
   congr 1; omega
theorem Qqd {t : Str} (ht : QrA t) : QI t = QcD t := by
 cases hv : QcD t with
 | some v =>
  obtain ⟨e, h0, h1⟩ := Qoi ht hv
  rw [e]; exact Qqg v h0 h1
 | none =>
  cases hn : QI t with
  | none => rfl
  | some v =>
   unfold QI at hn
   split at hn
   ·split at hn
    ·rename_i h
     cases hn
     rw [← h.1, Qoj _ h.2.1 h.2.2] at hv
     cases hv
    ·cases hn
   ·cases hn
theorem Ql8 : QcD [45] = none := by decide
def Qiz (x : Str) : Prop := x = [] ∨ x = [45]
def QbF (p : PS) : Prop := p.bad = true ∨ ∃ x ∈ p.l, Qiz x
def QuO (t : Str) : Prop := t ≠ [] ∧ ((Qbt (Qei t) || (Qei t == 45)) = true → QrA t) ∧ (Qei t = 33 → t = [33])
def Qib (s : RS) (p : PS) : Prop := s.err = 0 ∧ p.bad = false ∧ s.vars = p.vars ∧ ((s.token = [] ∧ s.rest = [] ∧ p.l = []) ∨ (QuO s.token ∧ p.l = s.token :: Qcp s.rest))
def QrC (s : RS) (p : PS) : Prop := s.err = 1 ∧ s.token = [] ∧ s.rest = [] ∧ QbF p
def Rel (s : RS) (p : PS) : Prop := Qib s p ∨ QrC s p
theorem QbF.pop {p : PS} {t : Str} {r : List Str} (h : QbF p) (hl : p.l = t :: r) (ht : ¬ Qiz t) : QbF p.pop := by
 rcases h with h | ⟨x, hx, hb⟩
 ·exact .inl h
 ·rw [hl] at hx
  rcases List.mem_cons.1 hx with rfl | hx
  ·exact absurd hb ht
  ·exact .inr ⟨x, by simp [PS.pop, hl, hx], hb⟩
theorem QbF.has {p : PS} {t : Str} (h : QbF p) (hh : p.has t = true) (ht : ¬ Qiz t) : QbF p.pop := h.pop (QhO hh).2 ht
theorem QbF.close {p : PS} {t : Str} (h : QbF p) (ht : ¬ Qiz t) : QbF (p.close t) := by
 unfold PS.close
 split
 ·exact h
 split
 ·rename_i hh; exact h.has hh ht
 ·exact .inl rfl
theorem QbF.var {p : PS} (x : Str) (h : QbF p) : QbF (p.var x).2 := by
 unfold PS.var
 split
 ·exact h
 ·exact h
def QlX (f : PS → Nd × PS) : Prop := ∀ p, QbF p → QbF (f p).2
theorem QbF.loop {f : PS → Nd × PS} (hf : QlX f) : ∀ (n : Nat) (p : PS), QbF p → QbF (QQ f n p).2
 | 0, p, h => h
 | n + 1, p, h => by
  unfold QQ
  split
  ·rename_i hh; exact QbF.loop hf n _ (hf _ (h.has hh.2 (by simp [Qiz])))
  ·exact h
theorem QbF.terms {f : PS → Nd × PS} (hf : QlX f) (t : Str) (ht : ¬ Qiz t) (p : PS) (h : QbF p) : QbF (Qae f t p).2 := (QbF.loop hf _ _ (hf p h)).close ht
theorem QbF.term : ∀ d, QlX (QP d)
 | 0, p, h => .inl rfl
 | d + 1, p, h => by
  unfold QP
  split
  ·exact .inl rfl
  ·exact .inl rfl
  ·rename_i c r q hl
   split
   ·rename_i e; exact h.pop hl (by rw [e]; simp [Qiz])
   split
   ·rename_i hne hu
    refine QbF.var _ (h.pop hl ?_)
    rintro (e | e)
    ·cases e
    ·cases e; exact absurd hu Yg
   split
   ·by_cases e : c :: r = [45]
    ·left; rw [e, Ql8]; simp
    ·rcases h.pop hl (by rintro (e' | e'); cases e'; exact e e') with h' | h'
     ·left
      have : p.bad = true := h'
      simp [this]
     ·exact .inr h'
   split
   ·exact .inl rfl
   ·rename_i h45 hlo
    have hb : ¬ Qiz (c :: r) := by
     rintro (e | e)
     ·cases e
     ·cases e; exact h45 rfl
    split
    ·rename_i hp; exact QbF.terms (QbF.term d) [41] (by simp [Qiz]) _ ((h.pop hl hb).has hp (by simp [Qiz]))
    ·exact h.pop hl hb
theorem QrC.fail {s : RS} {p q : PS} (h : QrC s p) (e : Int) (hq : QbF q) : QrC (s.fail e) q := ⟨by simp [RS.fail, h.1], rfl, rfl, hq⟩
theorem QrC.adv {s : RS} {p q : PS} (h : QrC s p) (hq : QbF q) : QrC s.adv q := by
 have : s.adv = ⟨[], [], s.vars, s.err⟩ := by
  unfold RS.adv
  rw [h.2.2.1]
  rfl
 rw [this]
 exact ⟨h.1, rfl, rfl, hq⟩
theorem Qib.fail {s : RS} {p : PS} (h : Qib s p) {q : PS} (hq : QbF q) : QrC (s.fail 1) q := ⟨by simp [RS.fail, h.1], rfl, rfl, hq⟩
theorem Qha {f : UInt8 → Bool} : ∀ (l : Str), ∀ c ∈ l.take (Qbe f l), f c = true
 | [], c, h => by simp at h
 | x :: l, c, h => by
  unfold Qbe at h
  cases hx : f x with
  | false => rw [hx] at h; simp at h
  | true =>
   rw [hx] at h
   simp only [cond_true, List.take_succ_cons] at h
   rcases List.mem_cons.1 h with rfl | h
   ·exact hx
   ·exact Qha l c h
theorem QrS {c : UInt8} (h : (upB c || QdI c) = true) : Qbt c = false ∧ (c == 45) = false ∧ c ≠ 33 := by
 have hh : ∀ n : Fin 256, (upB (UInt8.ofNat n.val) || QdI (UInt8.ofNat n.val)) = true → Qbt (UInt8.ofNat n.val) = false ∧ (UInt8.ofNat n.val == 45) = false ∧ UInt8.ofNat n.val ≠ 33 := by decide +kernel
 have := hh ⟨c.toNat, c.toNat_lt⟩
 simp only [UInt8.ofNat_toNat] at this
 exact this h
theorem QqW {c : UInt8} (h : Qbt c = true) : upB c = false ∧ QdI c = false ∧ (c == 45) = false ∧ c ≠ 33 := by
 have hh : ∀ n : Fin 256, Qbt (UInt8.ofNat n.val) = true → upB (UInt8.ofNat n.val) = false ∧ QdI (UInt8.ofNat n.val) = false ∧ (UInt8.ofNat n.val == 45) = false ∧ UInt8.ofNat n.val ≠ 33 := by decide +kernel
 have := hh ⟨c.toNat, c.toNat_lt⟩
 simp only [UInt8.ofNat_toNat] at this
 exact this h
theorem Qon {c : UInt8} (h : Qee.contains c = true) : Qbt c = false ∧ (c == 45) = false := by
 have hh : ∀ n : Fin 256, Qee.contains (UInt8.ofNat n.val) = true → Qbt (UInt8.ofNat n.val) = false ∧ (UInt8.ofNat n.val == 45) = false := by decide +kernel
 have := hh ⟨c.toNat, c.toNat_lt⟩
 simp only [UInt8.ofNat_toNat] at this
 exact this h
theorem QrT (c : UInt8) (r : Str) : (Q7 (c :: r) = Qas (c :: r) ∧ (Q7 (c :: r) ≠ 0 → QuO ((c :: r).take (Q7 (c :: r))))) ∨ (Q7 (c :: r) = 0 ∧ Qas (c :: r) = 1 ∧ c = 45) := by
 have hT : ∀ x, 1 + x ≠ 0 := fun x => by omega
 by_cases h1 : (upB c || QdI c) = true
 ·left
  have e1 : Q7 (c :: r) = 1 + Qbe QdI r := by simp only [Q7, h1, if_true]
  have e2 : Qas (c :: r) = 1 + Qbe QdI r := by simp only [Qas, Bool.or_comm (QdI c), h1, if_true]
  rw [e1, e2]
  have hf := QrS h1
  refine ⟨rfl, fun _ => ⟨by rw [Nat.add_comm, List.take_succ_cons]; simp, fun h => ?_, fun h => ?_⟩⟩
  ·rw [Nat.add_comm, List.take_succ_cons] at h
   simp only [Qei, hf.1, hf.2.1, Bool.or_self, Bool.false_eq_true] at h
  ·rw [Nat.add_comm, List.take_succ_cons] at h
   exact absurd h hf.2.2
 have h1' : (upB c || QdI c) = false := by simpa using h1
 by_cases h2 : Qbt c = true
 ·left
  have hf := QqW h2
  have e : Qbe Qbt (c :: r) = 1 + Qbe Qbt r := by simp [Qbe, h2]; omega
  have e1 : Q7 (c :: r) = Qbe Qbt (c :: r) := by simp only [Q7, h1', h2, Bool.false_eq_true, if_false, if_true]
  have e2 : Qas (c :: r) = 1 + Qbe Qbt r := by simp only [Qas, Bool.or_comm (QdI c), h1', h2, Bool.true_or, Bool.false_eq_true, if_false, if_true]
  rw [e1, e2]
  refine ⟨e, fun _ => ⟨by rw [e, Nat.add_comm, List.take_succ_cons]; simp, fun h => .inl ⟨by rw [e, Nat.add_comm, List.take_succ_cons]; simp, Qha _⟩, fun h => ?_⟩⟩
  rw [e, Nat.add_comm, List.take_succ_cons] at h
  exact absurd h hf.2.2.2
 have h2' : Qbt c = false := by simpa using h2
 by_cases h3 : c = 45
 ·subst h3
  have e2 : Qas (45 :: r) = 1 + Qbe Qbt r := by
   have a1 : (QdI 45 || upB 45) = false := by decide
   have a2 : (Qbt 45 || ((45 : UInt8) == 45)) = true := by decide
   simp only [Qas, a1, a2, Bool.false_eq_true, if_false, if_true]
  have e1 : Q7 (45 :: r) = if 0 < Qbe Qbt r then 1 + Qbe Qbt r else 0 := by
   simp only [Q7, h1', h2', Bool.false_eq_true, if_false, if_true]
  by_cases h4 : 0 < Qbe Qbt r
  ·left
   rw [e1, e2, if_pos h4]
   refine ⟨rfl, fun _ => ⟨by rw [Nat.add_comm, List.take_succ_cons]; simp, fun h => .inr ⟨r.take (Qbe Qbt r), by rw [Nat.add_comm, List.take_succ_cons], ?_, Qha r⟩, fun h => ?_⟩⟩
   ·intro e
    have := congrArg List.length e
    have hle := QcZ Qbt r
    simp only [List.length_take, List.length_nil] at this
    omega
   ·rw [Nat.add_comm, List.take_succ_cons] at h
    have h' : (45 : UInt8) = 33 := h
    exact absurd h' Yg
  ·right
   rw [e1, e2, if_neg h4]
   exact ⟨rfl, by omega, rfl⟩
 have h3' : (c == 45) = false := by simp [h3]
 left
 by_cases h5 : ([58, 45] : Str).isPrefixOf (c :: r) = true
 ·have e1 : Q7 (c :: r) = 2 := by
   simp only [Q7, h1', h2', h3, Bool.false_eq_true, if_false]
   rw [if_pos h5]
  have e2 : Qas (c :: r) = 2 := by
   simp only [Qas, Bool.or_comm (QdI c), h1', h2', h3', Bool.or_self, Bool.false_eq_true, if_false]
   rw [if_pos h5]
  rw [e1, e2]
  cases r with
  | nil => simp [List.isPrefixOf] at h5
  | cons x r =>
   have : c = 58 := by simp [List.isPrefixOf] at h5; exact h5.1.symm
   subst this
   exact ⟨rfl, fun _ => ⟨by simp, fun h => absurd h (by simp [Qei, Qbt]), fun h => absurd h (by simp [Qei])⟩⟩
 have e1 : Q7 (c :: r) = if Qee.contains c then 1 else 0 := by
  simp only [Q7, h1', h2', h3, Bool.false_eq_true, if_false]
  rw [if_neg h5]
 have e2 : Qas (c :: r) = if Qee.contains c then 1 else 0 := by
  simp only [Qas, Bool.or_comm (QdI c), h1', h2', h3', Bool.or_self, Bool.false_eq_true, if_false]
  rw [if_neg h5]
 rw [e1, e2]
 by_cases h6 : Qee.contains c = true
 ·rw [if_pos h6]
  have hf := Qon h6
  refine ⟨rfl, fun _ => ⟨by simp, fun h => ?_, fun h => ?_⟩⟩
  ·have : (Qbt c || (c == 45)) = true := h
   rw [hf.1, hf.2] at this
   cases this
  ·have : c = 33 := h
   rw [this]; rfl
 ·rw [if_neg h6]
  exact ⟨rfl, fun h => absurd rfl h⟩
theorem QiC : ∀ R : Str, Qcp R = Qcp (Qb0 R)
 | [] => rfl
 | c :: r => by
  unfold Qb0
  rw [List.dropWhile_cons]
  split
  ·rename_i h; rw [Ql5 r h]; exact QiC r
  ·rfl
theorem QpB {R : Str} {c : UInt8} {r : Str} (h : Qb0 R = c :: r) : QiD c = false := by
 unfold Qb0 at h
 induction R with
 | nil => simp at h
 | cons x R ih =>
  rw [List.dropWhile_cons] at h
  split at h
  ·exact ih h
  ·rename_i hx; cases h; simpa using hx
theorem Qru {s : RS} {p : PS} (he : s.err = 0) (hb : p.bad = false) (hv : s.vars = p.vars) (hl : p.l = Qcp s.rest) : Rel s.adv p := by
 rw [QiC] at hl
 unfold RS.adv
 simp only
 cases ht : Qb0 s.rest with
 | nil =>
  rw [ht] at hl
  rw [if_neg Yd]
  exact .inl ⟨he, hb, hv, .inl ⟨rfl, rfl, hl⟩⟩
 | cons c r =>
  have hw := QpB ht
  rw [ht] at hl
  rcases QrT c r with ⟨h1, h2⟩ | ⟨h1, h2, h3⟩
  ·by_cases h0 : Q7 (c :: r) = 0
   ·rw [if_pos ⟨h0, by simp⟩]
    rw [Qpo r hw Ya] at hl
    exact .inr ⟨by simp [RS.fail, he], rfl, rfl, .inr ⟨[], by rw [hl]; simp, .inl rfl⟩⟩
   ·rw [if_neg (by simp [h0])]
    rw [QiB r hw Ya, ← h1] at hl
    exact .inl ⟨he, hb, hv, .inr ⟨h2 h0, hl⟩⟩
  ·subst h3
   rw [if_pos ⟨h1, by simp⟩]
   rw [QiB r hw Ya, h2] at hl
   exact .inr ⟨by simp [RS.fail, he], rfl, rfl, .inr ⟨[45], by rw [hl]; simp, .inr rfl⟩⟩
theorem Qib.tok {s : RS} {p : PS} (h : Qib s p) {t : Str} (ht : t ≠ []) : (s.token = t) ↔ p.has t = true := by
 rcases h.2.2.2 with ⟨h1, _, h3⟩ | ⟨h1, h3⟩
 ·rw [h1]; unfold PS.has; rw [h3]; simp; exact fun e => ht (by first | exact e | exact e.symm)
 ·unfold PS.has; rw [h3]; simp
theorem Qib.adv {s : RS} {p : PS} (h : Qib s p) (hn : s.token ≠ []) : Rel s.adv p.pop := by
 rcases h.2.2.2 with ⟨h1, _, _⟩ | ⟨h1, h3⟩
 ·exact absurd h1 hn
 ·exact Qru h.1 h.2.1 h.2.2.1 (by simp [PS.pop, h3])
theorem Rel.take {s : RS} {p : PS} (h : Rel s p) {t : Str} (ht : ¬ Qiz t) : Rel (s.take t) (p.close t) := by
 have hne : t ≠ [] := fun e => ht (.inl e)
 rcases h with h | h
 ·have e2 : p.close t = if p.has t then p.pop else p.spoil := by unfold PS.close; rw [if_neg (by simp [h.2.1])]
  rw [e2]
  by_cases e : s.token = t
  ·have e1 : s.take t = s.adv := by unfold RS.take; rw [if_pos e]
   rw [e1, if_pos ((h.tok hne).1 e)]
   exact h.adv (by rw [e]; exact hne)
  ·have e1 : s.take t = (s.fail 1).adv := by unfold RS.take; rw [if_neg e]
   rw [e1, if_neg fun e' => e ((h.tok hne).2 e')]
   exact .inr ((h.fail (q := p.spoil) (.inl rfl)).adv (.inl rfl))
 ·have e1 : s.take t = (s.fail 1).adv := by unfold RS.take; rw [if_neg (by rw [h.2.1]; exact fun e => hne e.symm)]
  rw [e1]
  exact .inr ((h.fail 1 (h.2.2.2.close ht)).adv (h.2.2.2.close ht))
def QuV (f : RS → Nd × RS) (g : PS → Nd × PS) : Prop := ∀ s p, Rel s p → Rel (f s).2 (g p).2 ∧ ((f s).2.err = 0 → (f s).1 = (g p).1)
theorem Rel.live {s : RS} {p : PS} (h : Rel s p) (he : s.err = 0) : Qib s p := by
 rcases h with h | h
 ·exact h
 ·have := h.1; omega
def QlV (f : RS → Nd × RS) : Prop := ∀ s, (f s).2.err = 0 → s.err = 0
theorem Qbp (s : RS) (e : Int) (he : e ≠ 0) : (s.fail e).err ≠ 0 := by
 simp only [RS.fail]
 split
 ·exact he
 ·assumption
theorem QbO (s : RS) (h : s.adv.err = 0) : s.err = 0 := by
 unfold RS.adv at h
 simp only at h
 split at h
 ·exact absurd h (Qbp s 1 Yg)
 ·exact h
theorem Qb8 (s : RS) (t : Str) (h : (s.take t).err = 0) : s.err = 0 ∧ s.token = t := by
 unfold RS.take at h
 split at h
 ·rename_i e; exact ⟨QbO s h, e⟩
 ·exact absurd (QbO _ h) (Qbp s 1 Yg)
theorem QfS {f : RS → Nd × RS} (hf : QlV f) : ∀ (n : Nat) (s : RS), (QaS f n s).2.err = 0 → s.err = 0
 | 0, s, h => h
 | n + 1, s, h => by
  unfold QaS at h
  split at h
  ·exact QbO s (hf _ (QfS hf n _ h))
  ·exact h
theorem Qet {f : RS → Nd × RS} (hf : QlV f) : ∀ s : RS, (QL f s).2.err = 0 → (f s).2.err = 0 := fun s h => QfS hf _ _ h
theorem Ql7 (s : RS) (x : Str) : (s.var x).2.err = s.err := by unfold RS.var; split <;> rfl
theorem Qbx (num : Str → Option Int) : ∀ d, QlV (Qw num d)
 | 0, s, h => absurd h (Qbp s 1 Yg)
 | d + 1, s, h => by
  unfold Qw at h
  split at h
  ·exact absurd h (Qbp s 1 Yg)
  ·simp only at h
   split at h
   ·rw [Ql7] at h; exact QbO s h
   split at h
   ·have h1 := (Qb8 _ _ h).1
    have h2 := Qbx num d _ (Qet (Qbx num d) _ h1)
    exact QbO s (Qb8 _ _ h2).1
   split at h
   ·exact QbO s h
   split at h
   ·simp only [RS.number] at h
    split at h
    ·exact QbO s h
    ·exact absurd h (Qbp _ 1 Yg)
   ·exact absurd h (Qbp _ 1 Yg)
theorem QuV.loop {f : RS → Nd × RS} {g : PS → Nd × PS} (hb : QuV f g) (hf : Quo f) (hg : Qm1 g) (hs : QlV f) (hk : QlX g) : ∀ (n : Nat) (s : RS) (p : PS), s.left ≤ n → Rel s p →
  Rel (QaS f s.left s).2 (QQ g p.l.length p).2 ∧ ((QaS f s.left s).2.err = 0 → (QaS f s.left s).1 = (QQ g p.l.length p).1) := by
 intro n
 induction n with
 | zero =>
  intro s p hn h
  rcases h with h | h
  ·have ht : s.token = [] := by unfold RS.left at hn; exact List.eq_nil_of_length_eq_zero Ya
   have h1 : ¬ s.token = [44] := by rw [ht]; simp
   rw [QcK h1, Qgg fun e => h1 ((h.tok Yd).2 e.2)]
   exact ⟨.inl h, fun _ => rfl⟩
  ·have h1 : ¬ s.token = [44] := by rw [h.2.1]; simp
   rw [QcK h1]
   exact ⟨.inr ⟨h.1, h.2.1, h.2.2.1, QbF.loop hk _ _ h.2.2.2⟩, fun e => by have := h.1; simp only at e; omega⟩
 | succ n ih =>
  intro s p hn h
  rcases h with h | h
  ·by_cases ht : s.token = [44]
   ·have hp := (h.tok Yd).1 ht
    rw [Qlg hf ht, QkS hg ⟨h.2.1, hp⟩]
    have h1 := QcU s (by rw [ht]; simp)
    have h2 := hf s.adv
    have h3 := h.adv (by rw [ht]; simp)
    have h4 := hb _ _ h3
    have h5 := ih (f s.adv).2 (g p.pop).2 Ya h4.1
    refine ⟨h5.1, fun e => ?_⟩
    simp only at e ⊢
    rw [h5.2 e, h4.2 (QfS hs _ _ e)]
   ·rw [QcK ht, Qgg fun e => ht ((h.tok Yd).2 e.2)]
    exact ⟨.inl h, fun _ => rfl⟩
  ·have h1 : ¬ s.token = [44] := by rw [h.2.1]; simp
   rw [QcK h1]
   exact ⟨.inr ⟨h.1, h.2.1, h.2.2.1, QbF.loop hk _ _ h.2.2.2⟩, fun e => by have := h.1; simp only at e; omega⟩
theorem QuV.terms {f : RS → Nd × RS} {g : PS → Nd × PS} (hb : QuV f g) (hf : Quo f) (hg : Qm1 g) (hs : QlV f) (hk : QlX g) (t : Str) (ht : ¬ Qiz t) (s : RS) (p : PS) (h : Rel s p) :
  Rel ((QL f s).2.take t) (Qae g t p).2 ∧ ((QL f s).2.err = 0 → (QL f s).1 = (Qae g t p).1) := by
 have h1 := hb s p h
 have h2 := hb.loop hf hg hs hk _ (f s).2 (g p).2 (Nat.le_refl _) h1.1
 refine ⟨h2.1.take ht, fun e => ?_⟩
 have e1 : (QL f s).1 = (f s).1 :: (QaS f (f s).2.left (f s).2).1 := rfl
 have e2 : (Qae g t p).1 = (g p).1 :: (QQ g (g p).2.l.length (g p).2).1 := rfl
 rw [e1, e2, h1.2 (Qet hs s e), h2.2 e]
theorem Qib.var {s : RS} {p : PS} (h : Qib s p) (x : Str) : (s.var x).1 = (p.var x).1 ∧ Qib (s.var x).2 (p.var x).2 := by
 obtain ⟨h1, h2, h3, h4⟩ := h
 unfold RS.var PS.var
 rw [h3]
 split
 ·exact ⟨rfl, h1, h2, h3, h4⟩
 ·exact ⟨rfl, h1, h2, by simp, h4⟩
theorem QrC.var {s : RS} {p : PS} (h : QrC s p) (x : Str) : QrC (s.var x).2 (p.var x).2 := by
 refine ⟨by rw [Ql7]; exact h.1, ?_, ?_, h.2.2.2.var x⟩
 ·unfold RS.var; split <;> exact h.2.1
 ·unfold RS.var; split <;> exact h.2.2.1
theorem Rel.var {s : RS} {p : PS} (h : Rel s p) (x : Str) : Rel (s.var x).2 (p.var x).2 ∧ ((s.var x).2.err = 0 → (s.var x).1 = (p.var x).1) := by
 rcases h with h | h
 ·exact ⟨.inl (h.var x).2, fun _ => (h.var x).1⟩
 ·exact ⟨.inr (h.var x), fun e => by rw [Ql7] at e; have := h.1; omega⟩
theorem Qfs : ∀ d, QuV (Qw QI d) (QP d)
 | 0, s, p, h => by
  refine ⟨?_, fun e => absurd e (Qbp s 1 Yg)⟩
  rcases h with h | h
  ·exact .inr (h.fail (.inl rfl))
  ·exact .inr (h.fail 1 (.inl rfl))
 | d + 1, s, p, h => by
  rcases h with h | h
  ·rcases h.2.2.2 with ⟨h1, h2, h3⟩ | ⟨h1, h3⟩
   ·have e1 : Qw QI (d + 1) s = (Nd.zero, s.fail 1) := by unfold Qw; rw [if_pos h1]
    have e2 : QP (d + 1) p = (Nd.zero, p.spoil) := by unfold QP; rw [h3]
    rw [e1, e2]
    exact ⟨.inr (h.fail (.inl rfl)), fun e => absurd e (Qbp s 1 Yg)⟩
   ·obtain ⟨hne, hnum, h33⟩ := h1
    cases ht : s.token with
    | nil => exact absurd ht hne
    | cons c r =>
     rw [ht] at h3 hnum h33
     have hc : Qei (c :: r) = c := rfl
     rw [hc] at hnum h33
     have hadv := h.adv (by rw [ht]; simp)
     have e1 := QaH QI d ht
     have e2 : QP (d + 1) p = if c :: r = [33] then (⟨1, 0, [33], .nil⟩, p.pop)
       else if upB c then (⟨0, (p.pop.var (c :: r)).1, [], .nil⟩, (p.pop.var (c :: r)).2)
       else if (c == 45) || Qbt c then (⟨2, (QcD (c :: r)).getD 0, [], .nil⟩, { p.pop with bad := p.bad || (QcD (c :: r)).isNone })
       else if QdI c = false then (Nd.zero, p.spoil)
       else if p.pop.has [40] then (⟨3, 0, c :: r, Qbv (Qae (QP d) [41] p.pop.pop).1⟩, (Qae (QP d) [41] p.pop.pop).2)
       else (⟨1, 0, c :: r, .nil⟩, p.pop) := by
      conv => lhs; unfold QP
      rw [h3]
     by_cases e33 : c = 33
     ·have := h33 e33
      subst e33
      cases this
      have f1 : Qw QI (d + 1) s = (⟨1, 0, [33], .nil⟩, s.adv) := e1
      rw [if_pos rfl] at e2
      rw [f1, e2]
      exact ⟨hadv, fun _ => rfl⟩
     rw [if_neg (by intro e; exact e33 (List.cons.inj e).1)] at e2
     by_cases hu : upB c = true
     ·rw [if_pos hu] at e1 e2
      rw [e1, e2]
      have hv := hadv.var (c :: r)
      exact ⟨hv.1, fun e => by simp only at e ⊢; rw [hv.2 e]⟩
     rw [if_neg hu] at e1 e2
     by_cases hd : ((c == 45) || Qbt c) = true
     ·rw [if_pos hd] at e2
      have hnt := hnum (by rw [Bool.or_comm]; exact hd)
      have hlo : QdI c = false := by
       have hh : ∀ n : Fin 256, ((UInt8.ofNat n.val == 45) || Qbt (UInt8.ofNat n.val)) = true → QdI (UInt8.ofNat n.val) = false := by decide +kernel
       have := hh ⟨c.toNat, c.toNat_lt⟩
       simp only [UInt8.ofNat_toNat] at this
       exact this hd
      rw [if_neg (by simp [hlo]), if_neg (by simp [hlo, e33]), if_pos (by rw [Bool.or_comm]; exact hd)] at e1
      rw [e1, e2]
      unfold RS.number
      rw [Qqd hnt]
      cases hv : QcD (c :: r) with
      | some v =>
       simp only [Option.getD_some, Option.isNone_some, Bool.or_false]
       refine ⟨?_, fun _ => trivial⟩
       have : ({ p.pop with bad := p.bad } : PS) = p.pop := rfl
       rw [this]; exact hadv
      | none =>
       simp only [Option.getD_none, Option.isNone_none, Bool.or_true]
       refine ⟨?_, fun e => absurd e (Qbp _ 1 Yg)⟩
       rcases hadv with ha | ha
       ·exact .inr (ha.fail (.inl rfl))
       ·exact .inr (ha.fail 1 (.inl rfl))
     rw [if_neg hd] at e2
     have hd2 : ¬ (Qbt c || (c == 45)) = true := by rw [Bool.or_comm]; exact hd
     by_cases hlo : QdI c = true
     ·rw [if_neg (by simp [hlo])] at e2
      by_cases hp : s.adv.token = [40]
      ·rw [if_pos (by simp [hlo, hp])] at e1
       rcases hadv with ha | ha
       ·have hh := (ha.tok Yd).1 hp
        rw [if_pos hh] at e2
        have e3 : s.adv.take [40] = s.adv.adv := by unfold RS.take; rw [if_pos hp]
        rw [e3] at e1
        rw [e1, e2]
        have h4 := ha.adv (by rw [hp]; simp)
        have h5 := (Qfs d).terms (QaW QI d) (Qb9 d) (Qbx QI d) (QbF.term d) [41] (by simp [Qiz]) _ _ h4
        refine ⟨h5.1, fun e => ?_⟩
        simp only at e ⊢
        rw [h5.2 (Qb8 _ _ e).1]
       ·exact absurd ha.2.1 (by rw [hp]; simp)
      ·rw [if_neg (by simp [hp]), if_pos (by simp [hlo])] at e1
       rw [e1]
       rcases hadv with ha | ha
       ·rw [if_neg fun e => hp ((ha.tok Yd).2 e)] at e2
        rw [e2]
        exact ⟨.inl ha, fun _ => rfl⟩
       ·rw [e2]
        refine ⟨.inr ⟨ha.1, ha.2.1, ha.2.2.1, ?_⟩, fun e => by have := ha.1; simp only at e; omega⟩
        split
        ·rename_i hh
         exact QbF.terms (QbF.term d) [41] (by simp [Qiz]) _ (ha.2.2.2.has hh (by simp [Qiz]))
        ·exact ha.2.2.2
     ·have hlo' : QdI c = false := by simpa using hlo
      rw [if_pos hlo'] at e2
      rw [if_neg (by simp [hlo']), if_neg (by simp [hlo', e33]), if_neg hd2] at e1
      rw [e1, e2]
      refine ⟨?_, fun e => absurd e (Qbp _ 1 Yg)⟩
      rcases hadv with ha | ha
      ·exact .inr (ha.fail (.inl rfl))
      ·exact .inr (ha.fail 1 (.inl rfl))
  ·have e1 : Qw QI (d + 1) s = (Nd.zero, s.fail 1) := by unfold Qw; rw [if_pos h.2.1]
   rw [e1]
   exact ⟨.inr (h.fail 1 (QbF.term _ _ h.2.2.2)), fun e => absurd e (Qbp s 1 Yg)⟩
theorem QqY (p : PS) (t : Str) (h : p.bad = true) : (p.close t).bad = true := by unfold PS.close; rw [if_pos h]; exact h
theorem QoC (d : Nat) (p : PS) (h : (QP d p).2.bad = false) : (QP d p).2.l.length < p.l.length := by
 cases d with
 | zero => cases h
 | succ d =>
  have hp : ∀ x r, p.l = x :: r → p.pop.l.length < p.l.length := fun x r e => by simp [PS.pop, e]
  unfold QP at h ⊢
  split at h
  ·cases h
  ·cases h
  ·rename_i c r q hl
   have h1 := hp _ _ hl
   simp only [hl] at h1 ⊢
   split at h
   ·rw [if_pos Ye]; exact h1
   rw [if_neg Ye]
   split at h
   ·rw [if_pos Ye, (QpY _ _).1]; exact h1
   rw [if_neg Ye]
   split at h
   ·rw [if_pos Ye]; exact h1
   rw [if_neg Ye]
   split at h
   ·cases h
   rw [if_neg Ye]
   split at h
   ·rw [if_pos Ye]
    have h2 := Qey (Qb9 d) [41] p.pop.pop
    have h3 := QiZ p.pop
    simp only
    omega
   ·rw [if_neg Ye]; exact h1
theorem Quf (p : PS) : (QaK p).2.l.length ≤ p.l.length := by
 unfold QaK
 split
 ·have h1 := Qey (Qb9 24) [46] p.pop
  have h2 := QiZ p
  unfold QaR
  omega
 ·exact Qkb p _
theorem QsO (p : PS) (h : p.bad = true) : (QaK p).2.bad = true := by
 unfold QaK
 rw [if_neg (by simp [h])]
 exact QqY p _ h
def Qp (p : PS) : Cl × PS :=
 let h := QP 24 { p with vars := [] }
 let q := QaK h.2
 (⟨h.1.k, h.1.n, ⟨h.1.s.toArray⟩, h.1.ar, Qbv q.1, (q.2.vars.length : Nat)⟩, q.2)
theorem QdD (p : PS) (h : (Qp p).2.bad = false) : (Qp p).2.l.length < p.l.length := by
 have h1 := Quf (QP 24 { p with vars := [] }).2
 have h2 : (QP 24 { p with vars := [] }).2.bad = false := by
  cases hb : (QP 24 { p with vars := [] }).2.bad with
  | false => rfl
  | true =>
   have := QsO _ hb
   rw [show (QaK (QP 24 { p with vars := [] }).2).2.bad = (Qp p).2.bad from rfl, h] at this
   cases this
 have h3 := QoC 24 _ h2
 show (QaK (QP 24 { p with vars := [] }).2).2.l.length < _
 have e : ({ p with vars := [] } : PS).l = p.l := rfl
 rw [e] at h3
 omega
def Qak : Nat → PS → Option (List Cl)
 | 0, p => some []
 | n + 1, p => if p.l = [] then some [] else
     if (Qp p).2.bad = true ∨ cB (Qp p).1 = false then none
     else (Qak n (Qp p).2).map ((Qp p).1 :: ·)
theorem QkR : ∀ (n : Nat) (p : PS), p.l.length ≤ n → Qak n p = Qak p.l.length p := by
 intro n
 induction n using Nat.strongRecOn with
 | _ n ih =>
  intro p hn
  cases n with
  | zero => rw [Nat.le_zero.1 hn]
  | succ n =>
   cases hl : p.l with
   | nil => simp [Qak, hl]
   | cons x r =>
    have hne : p.l ≠ [] := by rw [hl]; simp
    rw [hl] at hn
    simp only [List.length_cons] at hn ⊢
    simp only [Qak, hne, if_false]
    split
    ·rfl
    ·rename_i hb
     have h1 := QdD p (by simp only [not_or] at hb; simpa using hb.1)
     rw [hl] at h1
     simp only [List.length_cons] at h1
     by_cases e : n = r.length
     ·rw [e]
     ·rw [ih n Ya _ Ya, ih r.length Ya _ Ya]
theorem QdB {p : PS} (hne : p.l ≠ []) (hb : ¬ ((Qp p).2.bad = true ∨ cB (Qp p).1 = false)) : Qak p.l.length p = (Qak (Qp p).2.l.length (Qp p).2).map ((Qp p).1 :: ·) := by
 have h1 := QdD p (by simp only [not_or] at hb; simpa using hb.1)
 cases hl : p.l with
 | nil => exact absurd hl hne
 | cons x r =>
  rw [hl] at h1
  simp only [List.length_cons] at h1 ⊢
  simp only [Qak, hne, if_false, if_neg hb]
  rw [QkR r.length _ Ya]
theorem QdC {p : PS} (hne : p.l ≠ []) (hb : (Qp p).2.bad = true ∨ cB (Qp p).1 = false) : Qak p.l.length p = none := by
 cases hl : p.l with
 | nil => exact absurd hl hne
 | cons x r => simp only [List.length_cons, Qak, hne, if_false, if_pos hb]
theorem Qhv {p : PS} (h : p.l = []) : Qak p.l.length p = some [] := by rw [h]; rfl
theorem QbF.body {p : PS} (h : QbF p) : QbF (QaK p).2 := by
 unfold QaK
 split
 ·rename_i hh; exact QbF.terms (QbF.term 24) [46] (by simp [Qiz]) _ (h.has hh.2 (by simp [Qiz]))
 ·exact h.close (by simp [Qiz])
theorem QbF.clause {p : PS} (h : QbF p) : QbF (Qp p).2 := QbF.body (QbF.term 24 _ (show QbF { p with vars := [] } from h))
theorem QbF.prog : ∀ (n : Nat) (p : PS), p.l.length ≤ n → p.bad = false → QbF p → Qak p.l.length p = none := by
 intro n
 induction n with
 | zero =>
  intro p hn hb h
  rcases h with h | ⟨x, hx, _⟩
  ·rw [hb] at h; cases h
  ·have := List.length_pos_of_mem hx; omega
 | succ n ih =>
  intro p hn hb h
  have hne : p.l ≠ [] := by
   rcases h with h | ⟨x, hx, _⟩
   ·rw [hb] at h; cases h
   ·intro e; rw [e] at hx; simp at hx
  by_cases hc : (Qp p).2.bad = true ∨ cB (Qp p).1 = false
  ·exact QdC hne hc
  ·have h0 : (Qp p).2.bad = false := by simp only [not_or] at hc; simpa using hc.1
   have h1 := QdD p h0
   rw [QdB hne hc, ih _ Ya h0 h.clause]
   rfl
theorem Rel.body {s : RS} {p : PS} (h : Rel s p) : Rel ((QaT QI s).2.take [46]) (QaK p).2 ∧ (((QaT QI s).2.take [46]).err = 0 → (QaT QI s).1 = (QaK p).1) := by
 rcases h with h | h
 ·by_cases ht : s.token = [58, 45]
  ·have hp := (h.tok Yd).1 ht
   have e1 : QaT QI s = QL (Qw QI 24) s.adv := by unfold QaT; rw [if_pos ht]
   have e2 : QaK p = Qae (QP 24) [46] p.pop := by unfold QaK QaR; rw [if_pos ⟨h.2.1, hp⟩]
   rw [e1, e2]
   have h5 := (Qfs 24).terms (QaW QI 24) (Qb9 24) (Qbx QI 24) (QbF.term 24) [46] (by simp [Qiz]) _ _ (h.adv (by rw [ht]; simp))
   exact ⟨h5.1, fun e => h5.2 (Qb8 _ _ e).1⟩
  ·have e1 : QaT QI s = ([], s) := by unfold QaT; rw [if_neg ht]
   have e2 : QaK p = ([], p.close [46]) := by unfold QaK; rw [if_neg fun e => ht ((h.tok Yd).2 e.2)]
   rw [e1, e2]
   exact ⟨Rel.take (.inl h) (by simp [Qiz]), fun _ => rfl⟩
 ·have e1 : QaT QI s = ([], s) := by unfold QaT; rw [if_neg (by rw [h.2.1]; simp)]
  rw [e1]
  have h2 := h.2.2.2.body
  have h3 : s.take [46] = (s.fail 1).adv := by unfold RS.take; rw [if_neg (by rw [h.2.1]; simp)]
  rw [h3]
  have h4 := (h.fail 1 h2).adv h2
  exact ⟨.inr h4, fun e => by have := h4.1; omega⟩
theorem Qe5 {s : RS} (h : s.token = []) : QE QI s.left s = ([], s) := QkX QI h
theorem Rel.fresh {s : RS} {p : PS} (h : Rel s p) : Rel { s with vars := [] } { p with vars := [] } := by
 rcases h with h | h
 ·exact .inl ⟨h.1, h.2.1, rfl, h.2.2.2⟩
 ·exact .inr ⟨h.1, h.2.1, h.2.2.1, h.2.2.2⟩
theorem Rel.clause {s : RS} {p : PS} (h : Rel s p) : ∃ s3, (QR QI s).2 = (if cB (QR QI s).1 then s3 else s3.fail 1) ∧ Rel s3 (Qp p).2 ∧ (s3.err = 0 → (QR QI s).1 = (Qp p).1) := by
 have h1 := Qfs 24 _ _ h.fresh
 have h2 := h1.1.body
 refine ⟨(QaT QI (Qw QI 24 { s with vars := [] }).2).2.take [46], rfl, h2.1, fun e => ?_⟩
 have hl := h2.1.live e
 have e1 := (Qb8 _ _ e).1
 have e2 : (Qw QI 24 { s with vars := [] }).2.err = 0 := by
  unfold QaT at e1
  split at e1
  ·exact QbO _ (Qbx QI 24 _ (Qet (Qbx QI 24) _ e1))
  ·exact e1
 simp only [QR, Qp]
 rw [h1.2 e2, h2.2 e, hl.2.2.1]
theorem Qsc : ∀ (n : Nat) (s : RS) (p : PS), s.left ≤ n → p.bad = false → Rel s p →
  match Qak p.l.length p with
  | some L => (QE QI s.left s).1 = L ∧ (QE QI s.left s).2.err = 0
  | none => (QE QI s.left s).2.err = 1 := by
 intro n
 induction n with
 | zero =>
  intro s p hn hb h
  have ht : s.token = [] := by unfold RS.left at hn; exact List.eq_nil_of_length_eq_zero Ya
  rw [Qe5 ht]
  rcases h with h | h
  ·rcases h.2.2.2 with ⟨_, _, h3⟩ | ⟨h1, _⟩
   ·rw [Qhv h3]; exact ⟨rfl, h.1⟩
   ·exact absurd ht h1.1
  ·rw [QbF.prog _ p (Nat.le_refl _) hb h.2.2.2]; exact h.1
 | succ n ih =>
  intro s p hn hb h
  by_cases ht : s.token = []
  ·rw [Qe5 ht]
   rcases h with h | h
   ·rcases h.2.2.2 with ⟨_, _, h3⟩ | ⟨h1, _⟩
    ·rw [Qhv h3]; exact ⟨rfl, h.1⟩
    ·exact absurd ht h1.1
   ·rw [QbF.prog _ p (Nat.le_refl _) hb h.2.2.2]; exact h.1
  ·rw [QkY QI ht]
   have hlt := QdU QI s ht
   have hne : p.l ≠ [] := by
    rcases h with h | h
    ·rcases h.2.2.2 with ⟨h1, _, _⟩ | ⟨_, h3⟩
     ·exact absurd h1 ht
     ·rw [h3]; simp
    ·exact absurd h.2.1 ht
   obtain ⟨s3, e3, hr, heq⟩ := h.clause
   have hdead : ∀ s', s'.token = [] → s'.err = 1 → (QE QI s'.left s').2.err = 1 := fun s' h1 h2 => by rw [Qe5 h1]; exact h2
   rcases hr with hl | hd
   ·rw [heq hl.1] at e3
    by_cases hc : cB (Qp p).1 = true
    ·rw [if_pos hc] at e3
     have hb2 : ¬ ((Qp p).2.bad = true ∨ cB (Qp p).1 = false) := by simp [hl.2.1, hc]
     rw [QdB hne hb2, e3]
     have h5 := ih s3 (Qp p).2 (by rw [e3] at hlt; omega) hl.2.1 (.inl hl)
     cases hp : Qak (Qp p).2.l.length (Qp p).2 with
     | none => rw [hp] at h5; exact h5
     | some L =>
      rw [hp] at h5
      simp only [Option.map_some]
      exact ⟨by rw [heq hl.1, h5.1], h5.2⟩
    ·have hc' : cB (Qp p).1 = false := by simpa using hc
     rw [if_neg hc] at e3
     rw [QdC hne (.inr hc'), e3]
     exact hdead _ rfl (by simp [RS.fail, hl.1])
   ·have h6 : (QR QI s).2.token = [] ∧ (QR QI s).2.err = 1 := by
     rw [e3]
     split
     ·exact ⟨hd.2.1, hd.1⟩
     ·exact ⟨rfl, by simp [RS.fail, hd.1]⟩
    have h7 := hdead _ h6.1 h6.2
    have h8 : Qak p.l.length p = none := by
     by_cases hc : (Qp p).2.bad = true ∨ cB (Qp p).1 = false
     ·exact QdC hne hc
     ·have h0 : (Qp p).2.bad = false := by simp only [not_or] at hc; simpa using hc.1
      rw [QdB hne hc, QbF.prog _ _ (Nat.le_refl _) h0 hd.2.2.2]
      rfl
    rw [h8]
    exact h7
def PS.start (l : Str) : PS := ⟨Qcp l, [], false⟩
theorem QkK (l : Str) (h : ¬ 2000 < l.length) : Rel (RS.start l) (PS.start l) := by
 unfold RS.start
 rw [if_neg h]
 exact Qru rfl rfl rfl rfl
theorem QiM (l : Str) (h : 2000 < l.length) : (RS.start l).token = [] ∧ (RS.start l).err = 3 := by
 unfold RS.start
 rw [if_pos h]
 exact ⟨rfl, rfl⟩
def QeA (l : Str) : List Cl × Int :=
 if 2000 < l.length then ([], 3) else
 match Qak (PS.start l).l.length (PS.start l) with
 | none => ([], 1)
 | some L => if 24 < L.length then ([], 3) else (L, 0)
theorem Qmt (l : Str) : Qs QI l = QeA l := by
 unfold Qs QeA
 by_cases h : 2000 < l.length
 ·obtain ⟨h1, h2⟩ := QiM l h
  rw [if_pos h]
  have e : (if 24 < ([] : List Cl).length then (RS.start l).fail 3 else RS.start l) = RS.start l := if_neg Yg
  simp only [Qe5 h1, e]
  rw [if_neg (by rw [h2]; decide), h2]
 ·rw [if_neg h]
  have h1 := Qsc _ (RS.start l) (PS.start l) (Nat.le_refl _) rfl (QkK l h)
  generalize QE QI (RS.start l).left (RS.start l) = q at h1 ⊢
  cases hp : Qak (PS.start l).l.length (PS.start l) with
  | none =>
   rw [hp] at h1
   simp only at h1 ⊢
   have e : (if 24 < q.1.length then q.2.fail 3 else q.2).err = 1 := by
    split
    ·simp [RS.fail, h1]
    ·exact h1
   rw [if_neg (by rw [e]; decide), e]
  | some L =>
   rw [hp] at h1
   simp only at h1 ⊢
   rw [h1.1]
   by_cases h24 : 24 < L.length
   ·rw [if_pos h24, if_pos h24]
    have e : (q.2.fail 3).err = 3 := by simp [RS.fail, h1.2]
    rw [if_neg (by rw [e]; decide), e]
   ·rw [if_neg h24, if_neg h24, if_pos h1.2]
def Qe4 (l : Str) : Ts × Nat × Int :=
 if 2000 < l.length then (.nil, 0, 3) else
 let g := QaR (PS.start l)
 if g.2.bad = true ∨ g.2.l ≠ [] ∨ qB (g.2.vars.length : Nat) (Qbv g.1) = false then (.nil, 0, 1) else (Qbv g.1, g.2.vars.length, 0)
theorem QkV (l : Str) : QA QI l = Qe4 l := by
 unfold QA Qe4
 by_cases h : 2000 < l.length
 ·obtain ⟨h1, h2⟩ := QiM l h
  rw [if_pos h]
  have e1 : (QL (Qw QI 24) (RS.start l)).2.err = 3 := by
   have e0 : (Qw QI 24 (RS.start l)).2 = (RS.start l).fail 1 := by unfold Qw; rw [if_pos h1]
   unfold QL
   simp only [e0]
   rw [QcK (by simp [RS.fail])]
   simp [RS.fail, h2]
  have e2 : ∀ s : RS, s.err = 3 → (s.take [46]).err = 3 := by
   intro s hs
   unfold RS.take RS.adv
   simp only
   split <;> split <;> simp [RS.fail, hs]
  have e3 := e2 _ e1
  simp only
  generalize (QL (Qw QI 24) (RS.start l)).2.take [46] = s at e3
  have e4 : ∀ b : Prop, ∀ _ : Decidable b, (if b then s else s.fail 1).err = 3 := by
   intro b _
   split
   ·exact e3
   ·simp [RS.fail, e3]
  rw [if_neg (by rw [e4]; decide), e4]
 ·rw [if_neg h]
  have h5 := (Qfs 24).terms (QaW QI 24) (Qb9 24) (Qbx QI 24) (QbF.term 24) [46] (by simp [Qiz]) _ _ (QkK l h)
  have h6 : Rel ((QL (Qw QI 24) (RS.start l)).2.take [46]) (QaR (PS.start l)).2 := h5.1
  have h7 : ((QL (Qw QI 24) (RS.start l)).2.take [46]).err = 0 → (QL (Qw QI 24) (RS.start l)).1 = (QaR (PS.start l)).1 := fun e => h5.2 (Qb8 _ _ e).1
  clear h5
  simp only
  generalize QaR (PS.start l) = g at *
  generalize QL (Qw QI 24) (RS.start l) = a at *
  generalize a.2.take [46] = s at *
  rcases h6 with hl | hd
  ·rw [h7 hl.1, hl.2.2.1]
   have htk : s.token = [] ↔ g.2.l = [] := by
    rcases hl.2.2.2 with ⟨h1, _, h3⟩ | ⟨h1, h3⟩
    ·simp [h1, h3]
    ·rw [h3]; simp [h1.1]
   by_cases hq : s.token = [] ∧ qB (g.2.vars.length : Nat) (Qbv g.1) = true
   ·rw [if_pos hq, if_pos hl.1, if_neg (by simp [hl.2.1, htk.1 hq.1, hq.2]), hl.2.2.1]
   ·have e : (s.fail 1).err = 1 := by simp [RS.fail, hl.1]
    rw [if_neg hq, if_neg (by rw [e]; decide), e, if_pos]
    by_cases ht : s.token = []
    ·right; right
     have : ¬ qB (g.2.vars.length : Nat) (Qbv g.1) = true := fun h => hq ⟨ht, h⟩
     simpa using this
    ·right; left; exact fun e => ht (htk.2 e)
  ·have e4 : ∀ b : Prop, ∀ _ : Decidable b, (if b then s else s.fail 1).err = 1 := by
    intro b _
    split
    ·exact hd.1
    ·simp [RS.fail, hd.1]
   rw [if_neg (by rw [e4]; decide), e4, if_pos]
   rcases hd.2.2.2 with h | ⟨x, hx, _⟩
   ·exact .inl h
   ·right; left; intro e; rw [e] at hx; simp at hx
def Qb7 (w : World) (mb : Nat) (Qcm : List (Int × Value)) : Prop :=
 ∃ es clock, w.heap[mb]? = some (.map es clock) ∧ es.toList.map (fun e => (e.key, e.val)) = Qcm.map (fun x => (Value.int .i64 x.1, x.2))
def Qpc (n : Int) : List (Int × Value) → Option Value
 | [] => none
 | x :: r => if n = x.1 then some x.2 else Qpc n r
def Qus (n : Int) (v : Value) : List (Int × Value) → List (Int × Value)
 | [] => [(n, v)]
 | x :: r => if n = x.1 then (n, v) :: r else x :: Qus n v r
def Qn9 (n : Int) : List (Int × Value) → Nat → Option (Nat × Value)
 | [], _ => none
 | x :: r, i => if n = x.1 then some (i, x.2) else Qn9 n r (i + 1)
theorem QdN (n : Int) : MapKept.IsKey (.int .i64) (.int .i64 n) := by simp [MapKept.IsKey]
theorem QdR (n : Int) : ∀ (es : List MapEntry) (Qcm : List (Int × Value)) (i : Nat), es.map (fun e => (e.key, e.val)) = Qcm.map (fun x => (Value.int .i64 x.1, x.2)) →
  Instr.findNow (.int .i64) (.int .i64 n) es i = some (Qn9 n Qcm i)
 | [], [], i, _ => rfl
 | [], _ :: _, _, h => by simp at h
 | _ :: _, [], _, h => by simp at h
 | e :: es, x :: Qcm, i, h => by
  simp only [List.map_cons, List.cons.injEq, Prod.mk.injEq] at h
  obtain ⟨⟨h1, h2⟩, h3⟩ := h
  have ih := QdR n es Qcm (i + 1) h3
  simp only [Instr.findNow, h1, Instr.sameNow, Qn9, if_true]
  by_cases e1 : n = x.1
  ·simp [e1, h2]
  ·have e2 : (n == x.1) = false := by simpa using e1
   rw [e2, if_neg e1, ← ih]
theorem Qh9 {n : Int} : ∀ {Qcm : List (Int × Value)} {i : Nat}, Qn9 n Qcm i = none ↔ Qpc n Qcm = none
 | [], _ => by simp [Qn9, Qpc]
 | x :: r, i => by
  simp only [Qn9, Qpc]
  by_cases e : n = x.1
  ·simp [e]
  ·simp only [e, if_false]; exact Qh9
theorem QlU {n : Int} : ∀ {Qcm : List (Int × Value)} {i j : Nat} {v : Value}, Qn9 n Qcm i = some (j, v) → Qpc n Qcm = some v
 | [], _, _, _, h => by simp [Qn9] at h
 | x :: r, i, j, v, h => by
  simp only [Qn9, Qpc] at *
  by_cases e : n = x.1
  ·simp only [e, if_true, Option.some.injEq, Prod.mk.injEq] at h ⊢; exact h.2
  ·simp only [e, if_false] at h ⊢; exact QlU h
theorem Qh6 {n : Int} {v : Value} : ∀ {Qcm : List (Int × Value)}, Qpc n Qcm = none → Qus n v Qcm = Qcm ++ [(n, v)]
 | [], _ => rfl
 | x :: r, h => by
  simp only [Qpc] at h
  by_cases e : n = x.1
  ·simp [e] at h
  ·simp only [e, if_false] at h
   simp only [Qus, e, if_false, Qh6 h, List.cons_append]
theorem QlP {n : Int} {v u : Value} : ∀ {Qcm : List (Int × Value)} {i j : Nat}, Qn9 n Qcm i = some (j, u) → i ≤ j ∧ (Qcm[j - i]?).map (·.1) = some n ∧ Qus n v Qcm = Qcm.set (j - i) (n, v)
 | [], _, _, h => by simp [Qn9] at h
 | x :: r, i, j, h => by
  simp only [Qn9, Qus] at *
  by_cases e : n = x.1
  ·simp only [e, if_true, Option.some.injEq, Prod.mk.injEq] at h
   obtain ⟨rfl, _⟩ := h
   simp [e]
  ·simp only [e, if_false] at h ⊢
   obtain ⟨h1, h2, h3⟩ := QlP (v := v) h
   have e1 : j - i = (j - (i + 1)) + 1 := by omega
   refine ⟨by omega, by rw [e1]; simpa using h2, by rw [h3, e1]; rfl⟩
section
variable {P : Program} {w : World} {mb : Nat} {Qcm : List (Int × Value)} {t kt et : TypeId}
theorem Qb7.lt (h : Qb7 w mb Qcm) : mb < w.heap.size := by
 obtain ⟨es, clock, hb, _⟩ := h
 exact (Array.getElem?_eq_some_iff.1 hb).1
theorem Qb7.keep {w' : World} (h : Qb7 w mb Qcm) (hk : w'.heap[mb]? = w.heap[mb]?) : Qb7 w' mb Qcm := by
 obtain ⟨es, clock, hb, he⟩ := h
 exact ⟨es, clock, hk.trans hb, he⟩
theorem Qb7.made (w : World) : Qb7 (w.alloc (.map #[] 0)) w.heap.size [] := ⟨#[], 0, heap_alloc_new w _, rfl⟩
theorem Qmi {P : Program} (t : TypeId) (w : World) : (Instr.makeMap t none).run P w = .ok (.map (some w.heap.size)) (w.alloc (.map #[] 0)) := by
 simp [Instr.makeMap, newObj, Sem.run]
theorem Qb7.lookup (h : Qb7 w mb Qcm) {z : Value} (ht : P.underlying t = some (.map kt et)) (hk : P.underlying kt = some (.int .i64))
  (hz : (zeroValue et).run P w = .ok z w) (n : Int) (c : Bool) :
  (Instr.lookup t (.map (some mb)) (.int .i64 n) c).run P w = .ok (if c then .tuple #[(Qpc n Qcm).getD z, .bool (Qpc n Qcm).isSome] else (Qpc n Qcm).getD z) w := by
 obtain ⟨es, clock, hb, he⟩ := h
 have hf := QdR n es.toList Qcm 0 he
 cases ha : Qn9 n Qcm 0 with
 | none =>
  rw [ha] at hf
  simp [Instr.lookup, run_underlying ht, MapKept.run_getObj_map hb, MapKept.run_checkKey hk (QdN n), MapKept.run_findKey hk hf, hz, Result.andThen, Qh9.1 ha]
 | some x =>
  rw [ha] at hf
  simp [Instr.lookup, run_underlying ht, MapKept.run_getObj_map hb, MapKept.run_checkKey hk (QdN n), MapKept.run_findKey hk hf, Result.andThen, QlU ha]
theorem Qb7.update (h : Qb7 w mb Qcm) (ht : P.underlying t = some (.map kt et)) (hk : P.underlying kt = some (.int .i64)) (n : Int) (v : Value) :
  ∃ w', (Instr.mapUpdate t (.map (some mb)) (.int .i64 n) v).run P w = .ok () w' ∧ Qb7 w' mb (Qus n v Qcm) ∧ Chg (fun k => k = mb) w w' ∧ w'.heap.size = w.heap.size := by
 have hlt := h.lt
 obtain ⟨es, clock, hb, he⟩ := h
 have hf := QdR n es.toList Qcm 0 he
 cases ha : Qn9 n Qcm 0 with
 | none =>
  rw [ha] at hf
  refine ⟨{ w with heap := w.heap.setIfInBounds mb (.map (es.push { key := .int .i64 n, val := v, born := clock }) (clock + 1)) }, ?_, ⟨_, _, (MapKept.heap_set hb).1, ?_⟩, ⟨rfl, rfl, rfl, by simp, fun k _ hn => (MapKept.heap_set hb).2 k hn⟩, by simp⟩
  ·simp [Instr.mapUpdate, run_underlying ht, MapKept.run_getObj_map hb, MapKept.run_checkKey hk (QdN n), MapKept.run_findKey hk hf, MapKept.run_setObj_map _ hb, Result.andThen]
  ·rw [Qh6 (Qh9.1 ha), Array.toList_push, List.map_append, List.map_append, he]; rfl
 | some x =>
  obtain ⟨j, u⟩ := x
  rw [ha] at hf
  obtain ⟨_, h2, h3⟩ := QlP (v := v) ha
  simp only [Nat.sub_zero] at h2 h3
  have hent : ∃ e, es[j]? = some e ∧ e.key = .int .i64 n := by
   have h4 := congrArg (fun l => l[j]?) he
   simp only [List.getElem?_map] at h4
   cases h5 : Qcm[j]? with
   | none => rw [h5] at h2; simp at h2
   | some y =>
    rw [h5] at h2 h4
    simp only [Option.map_some, Option.some.injEq] at h2
    cases h6 : es[j]? with
    | none => simp [h6] at h4
    | some e =>
     simp [h6] at h4
     exact ⟨e, rfl, by rw [h4.1, h2]⟩
  obtain ⟨e, hj, hkey⟩ := hent
  refine ⟨{ w with heap := w.heap.setIfInBounds mb (.map (es.modify j fun e => { e with key := .int .i64 n, val := v }) clock) }, ?_, ⟨_, _, (MapKept.heap_set hb).1, ?_⟩, ⟨rfl, rfl, rfl, by simp, fun k _ hn => (MapKept.heap_set hb).2 k hn⟩, by simp⟩
  ·simp [Instr.mapUpdate, run_underlying ht, MapKept.run_getObj_map hb, MapKept.run_checkKey hk (QdN n), MapKept.run_findKey hk hf, hj, hkey, MapKept.run_keyThatStays (QdN n), MapKept.run_setObj_map _ hb, Result.andThen]
  ·rw [h3]
   apply List.ext_getElem?
   intro i
   have h4 := congrArg (fun l => l[i]?) he
   simp only [List.getElem?_map, Array.getElem?_toList] at h4
   simp only [List.getElem?_map, Array.getElem?_toList, Array.getElem?_modify, List.getElem?_set]
   by_cases hij : j = i
   ·subst hij
    have hjl : j < Qcm.length := by
     rcases Nat.lt_or_ge j Qcm.length with hl | hl
     ·exact hl
     ·rw [List.getElem?_eq_none hl] at h2; simp at h2
    simp [hj, hjl]
   ·simp [hij, h4]
theorem Qb7.size (h : Qb7 w mb Qcm) : ∃ es clock, w.heap[mb]? = some (.map es clock) ∧ es.size = Qcm.length := by
 obtain ⟨es, clock, hb, he⟩ := h
 refine ⟨es, clock, hb, ?_⟩
 have := congrArg List.length he
 simpa using this
theorem Qb7.len (h : Qb7 w mb Qcm) (ht : P.underlying t = some (.map kt et)) (ty : TypeId) : (Builtin.len_ #[t] ty #[.map (some mb)]).run P w = .ok (.int .i64 Qcm.length) w := by
 obtain ⟨es, clock, hb, hs⟩ := h.size
 simp [Builtin.len_, run_underlying ht, MapKept.run_getObj_map hb, Result.andThen, hs, goInt]
end
section
variable {P : Program} {n : Nat} {e : Env} {w : World} {Q : Exit → Act → World → Prop} {ops : Array Oper} {rest : List Oper} {ty : TypeId} {pos : String} {after : Array Edge} {d : Nat}
variable {M : List Nat} {w0 : World} {H H' : List (Nat × Obj)} {F : List (World → Prop)} {mb : Nat} {es : Array MapEntry} {clk : Nat} {Qcm : List (Int × Value)} {x y u : Operand} {v z : Value} {dst : Option Nat} {t kt : TypeId} {i : Int}
end
def pB (L : List Cl) : Bool := decide (L.length ≤ 24) && L.all cB
def QtA (w : World) (L : List Cl) (g : Nat) (sx : Value) (wr : World) : Prop := ∃ D R : List Cl, L = D ++ R ∧ g = R.length ∧ sx = .int .i64 D.length ∧ D.all cB = true ∧ Below w.heap.size w wr
section
variable {w w' : World} {p q : Nat → Prop}
end
end Go.Proofs.YthliapbflkfdiacGreatDoor
