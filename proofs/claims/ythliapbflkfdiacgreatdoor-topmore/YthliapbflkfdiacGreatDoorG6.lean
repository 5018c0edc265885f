/- Steps of the proof. -/
import Derived.Test.YthliapbflkfdiacGreatDoorG5
import Derived.Maps.OwnOps
namespace Go.Proofs.YthliapbflkfdiacGreatDoor
open Go.RowKit Go.Shelf
set_option linter.unusedVariables false
set_option linter.unusedSimpArgs false
set_option maxRecDepth 100000
set_option maxHeartbeats 1000000
def QeC (w : World) : Prop := ∀ i : Nat, i < 7 → w.cell? ⟨0, i, none⟩ = some (sv (Qc1 (i : Nat)))
theorem Qr2 (k : Int) : (Qc1 k).length ≤ 6 := by
 unfold Qc1
 repeat' split
 all_goals decide
theorem QsD (k : Int) (T : Ts) (v : Value) (w0 : World) (hG : ∀ w', Ext [] w0 w' → QcZ w') (hW : ∀ w', Ext [] w0 w' → QeC w') (hv : Sl w0 (fun _ => True) v T) (hr : rng T) (hN : T.nodes ≤ 1048576) (hl : (QbB k T).length ≤ 1073741824) :
  Calls Tryz.prog 18 #[.agg #[.int .i64 k, v]] w0 fun e w' => e = .returned (sv (QbB k T)) ∧ Below w0.heap.size w0 w' := by
 have hS := St.start w0
 obtain ⟨A, c, rfl, hv⟩ := hv.form
 refine Qh Tryz.func18 rfl Tryz.ntmps18 rfl ?_
 by_cases h0 : k < 0
 ·have e : QbB k T = [] := by unfold QbB Qc1; repeat' rw [if_neg Ya]
  rw [e]
  refine Zi ?_
  clear hS
  intro b1 wx1 hS
  refine ZcT ?_
  refine Zr ?_
  refine Zaq ?_
  refine Zan ?_
  refine Zbc ?_
  refine Zeh ?_
  exact ⟨rfl, hS.ext.below⟩
 by_cases h7 : 7 ≤ k
 ·have e : QbB k T = [] := by unfold QbB Qc1; repeat' rw [if_neg Ya]
  rw [e]
  refine Zi ?_
  clear hS
  intro b1 wx1 hS
  refine ZcT ?_
  refine Zr ?_
  refine Zx ?_
  refine Zb4 ?_
  refine ZW ?_
  refine Zbc ?_
  refine Zeh ?_
  exact ⟨rfl, hS.ext.below⟩
 obtain ⟨i, rfl⟩ : ∃ i : Nat, k = i := ⟨k.toNat, by omega⟩
 have hwc : ∀ w', Ext [] w0 w' → w'.cell? ⟨0, 0 + ((i : Nat) : Int).toNat * 1, none⟩ = some (sv (Qc1 (i : Nat))) := fun w' h => by
  have := hW w' h i Ya
  rwa [show 0 + ((i : Nat) : Int).toNat * 1 = i by omega]
 have hwl := Qr2 (i : Nat)
 by_cases h1 : ((i : Nat) : Int) = 1
 ·have e : QbB (i : Nat) T = Qc1 (i : Nat) ++ QbU 0 T := by unfold QbB; rw [if_pos h1, h1]; rfl
  rw [e] at hl ⊢
  rw [List.length_append] at hl
  refine Zi ?_
  clear hS
  intro b1 wx1 hS
  refine Z0 ?_
  refine Zdb ?_
  refine Zr ?_
  refine Zx ?_
  refine Zbr ?_
  refine ZcE ?_
  refine Zv ?_
  refine ZW ?_
  refine Z8 ?_
  refine Zdb ?_
  refine ZfD ?_
  refine ZcE ?_
  refine Z0 ?_
  refine Zdb ?_
  refine Zn ?_
  refine Zcx ?_
  refine ZE ?_
  refine ZcE ?_
  refine Zk ?_
  refine Calls.mono (Qor T _ _ (fun w' h => hG w' (hS.ext.trans h)) (hv.below hS.ext.below) hr hN Ya) ?_
  rintro _ w3 ⟨rfl, hb3⟩
  refine Za ?_
  replace hS := hS.grow hb3
  refine Qa (QoG rfl rfl (by first | omega | (simp; done) | (simp; omega))) rfl ?_
  refine Zc ?_
  refine Zeh ?_
  exact ⟨rfl, hS.ext.below⟩
 ·have e : QbB (i : Nat) T = Qc1 (i : Nat) := by unfold QbB; rw [if_neg h1]
  rw [e]
  refine Zi ?_
  clear hS
  intro b1 wx1 hS
  refine Z0 ?_
  refine Zdb ?_
  refine Zr ?_
  refine Zx ?_
  refine Zbr ?_
  refine ZcE ?_
  refine Zv ?_
  refine ZW ?_
  refine Z8 ?_
  refine Zdb ?_
  refine ZfD ?_
  refine ZcE ?_
  refine Z0 ?_
  refine Zdb ?_
  refine Zn ?_
  refine Zq ?_
  refine ZQ ?_
  refine Zeh ?_
  exact ⟨rfl, hS.ext.below⟩
theorem Qk9 : ∀ (l m : Str) (acc a : Nat), Lib.parseUint10 acc l = .ok a → Lib.parseUint10 acc (l ++ m) = Lib.parseUint10 a m
 | [], m, acc, a, h => by
  simp only [Lib.parseUint10, Lib.NumEnd.ok.injEq] at h
  subst h; rfl
 | c :: r, m, acc, a, h => by
  simp only [List.cons_append, Lib.parseUint10] at h ⊢
  split at h
  ·rename_i hc
   rw [if_pos hc]
   split at h
   ·cases h
   ·rename_i h1
    rw [if_neg h1]
    split at h
    ·cases h
    ·rename_i h2
     rw [if_neg h2]
     exact Qk9 r m _ a h
  ·cases h
theorem Qh6 (d : Nat) (h : d < 10) : (UInt8.ofNat (48 + d)).toNat = 48 + d := by
 rw [UInt8.toNat_ofNat']; omega
theorem Qgr (u : Nat) (h : u < 9223372036854775808) : Lib.parseUint10 0 (Lib.decDigits u) = .ok u := by
 induction u using Nat.strongRecOn with
 | ind u ih =>
  by_cases h10 : u < 10
  ·rw [Lib.decDigits_one h10]
   have := Qh6 u h10
   simp only [Lib.parseUint10, this]
   rw [if_pos Ya, if_neg Ya, if_neg Ya]
   simp
  ·rw [Lib.decDigits, dif_neg h10, Qk9 _ _ _ _ (ih (u / 10) Ya Ya)]
   have := Qh6 (u % 10) Ya
   simp only [Lib.parseUint10, this]
   rw [if_pos Ya, if_neg Ya, if_neg Ya]
   congr 1
   omega
theorem Qd1 (u : Nat) : Lib.decDigits u ≠ [] := by
 rw [Lib.decDigits]
 split <;> simp
theorem Qju (u : Nat) : ∀ c ∈ Lib.decDigits u, Qbu c = true := by
 have hd : ∀ d, d < 10 → Qbu (UInt8.ofNat (48 + d)) = true := fun d h => by
  have := Qh6 d h
  simp only [Qbu, this]
  simp; omega
 induction u using Nat.strongRecOn with
 | ind u ih =>
  by_cases h10 : u < 10
  ·rw [Lib.decDigits_one h10]
   intro c hc
   rw [List.mem_singleton.1 hc]
   exact hd u h10
  ·rw [Lib.decDigits, dif_neg h10]
   intro c hc
   rcases List.mem_append.1 hc with hc | hc
   ·exact ih (u / 10) Ya c hc
   ·rw [List.mem_singleton.1 hc]
    exact hd _ Ya
theorem Qf2 : ∀ (k u : Nat), u < 10 ^ (k + 1) → Lib.nDigits u ≤ k + 1
 | 0, u, h => by rw [Lib.nDigits_small (by simpa using h)]; omega
 | k + 1, u, h => by
  by_cases h10 : u < 10
  ·rw [Lib.nDigits_small h10]; omega
  ·rw [Lib.nDigits_big h10]
   have := Qf2 k (u / 10) (by rw [Nat.pow_succ] at h; omega)
   omega
theorem Qun (c : UInt8) (h : Qbu c = true) : c.toNat ≠ 43 ∧ c.toNat ≠ 45 := by
 simp [Qbu] at h; omega
theorem Qrq (n : Int) (h0 : -1099511627776 ≤ n) (h1 : n ≤ 1099511627776) : Lib.atoiAll (Lib.itoa n) = .ok n := by
 unfold Lib.itoa
 split
 ·have hp := Qgr n.natAbs Ya
  have hne := Qd1 n.natAbs
  simp only [Lib.atoiAll, Lib.parseMag]
  have e1 : (UInt8.toNat 45 = 43 ∨ UInt8.toNat 45 = 45) = True := eq_true Yg
  have e2 : (UInt8.toNat 45 = 45) = True := eq_true Yg
  simp only [e2, or_true, if_true]
  rw [if_neg hne, hp]
  simp only [not_true_eq_false, false_and, if_false, true_and]
  rw [if_neg Ya]
  congr 1; omega
 ·have hp := Qgr n.toNat Ya
  cases hl : Lib.decDigits n.toNat with
  | nil => exact absurd hl (Qd1 _)
  | cons c r =>
   have hc := Qun c (Qju n.toNat c (by rw [hl]; exact .head _))
   rw [hl] at hp
   simp only [Lib.atoiAll, Lib.parseMag]
   simp only [hc.1, hc.2, or_self, if_false]
   rw [if_neg Yd, hp]
   simp only [not_false_eq_true, true_and, false_and, if_false]
   rw [if_neg Ya]
   congr 1; omega
theorem Qqt (n : Int) (h0 : -1099511627776 ≤ n) (h1 : n ≤ 1099511627776) : QG (Lib.itoa n) = some n := by
 unfold QG
 rw [Qrq n h0 h1]
 simp only
 rw [if_pos ⟨trivial, h0, h1⟩]
def Qav : Str → Nat
 | [] => 0
 | c :: r =>
  if QdQ c || upB c then 1 + Qbh QdQ r
  else if Qbu c || (c == 45) then 1 + Qbh Qbu r
  else if ([58, 45] : Str).isPrefixOf (c :: r) then 2
  else if Qeo.contains c then 1
  else 0
def Qb1 : Nat → Str → List Str
 | 0, _ => []
 | f + 1, [] => []
 | f + 1, c :: r =>
  if QiG c then Qb1 f r
  else if Qav (c :: r) = 0 then [[]]
  else (c :: r).take (Qav (c :: r)) :: Qb1 f ((c :: r).drop (Qav (c :: r)))
def Qct (l : Str) : List Str := Qb1 l.length l
theorem QcF : ∀ (n : Nat) (l : Str), l.length ≤ n → Qb1 n l = Qct l := by
 intro n
 induction n using Nat.strongRecOn with
 | _ n ih =>
  intro l hn
  cases l with
  | nil => cases n <;> rfl
  | cons c r =>
   obtain ⟨m, rfl⟩ : ∃ m, n = m + 1 := ⟨n - 1, by simp at hn; omega⟩
   unfold Qct
   simp only [List.length_cons] at hn ⊢
   simp only [Qb1]
   split
   ·rw [ih m Ya r Ya]; rfl
   split
   ·rfl
   ·rename_i hw
    have hl : ((c :: r).drop (Qav (c :: r))).length ≤ r.length := by
     rw [List.length_drop]; simp; omega
    rw [ih m Ya _ Ya]
    by_cases e : m = r.length
    ·rw [e] at ih; rw [← ih r.length Ya _ hl]
    ·rw [← ih r.length Ya _ hl]
theorem Qmd {c : UInt8} (r : Str) (h : QiG c = true) : Qct (c :: r) = Qct r := by
 rw [← QcF (r.length + 1) (c :: r) Yd, Qb1, if_pos h, QcF _ r (Nat.le_refl _)]
theorem Qpz {c : UInt8} (r : Str) (h : QiG c = false) (hw : Qav (c :: r) = 0) : Qct (c :: r) = [[]] := by
 rw [← QcF (r.length + 1) (c :: r) Yd, Qb1, if_neg (by simp [h]), if_pos hw]
theorem QiE {c : UInt8} (r : Str) (h : QiG c = false) (hw : Qav (c :: r) ≠ 0) : Qct (c :: r) = (c :: r).take (Qav (c :: r)) :: Qct ((c :: r).drop (Qav (c :: r))) := by
 rw [← QcF (r.length + 1) (c :: r) Yd, Qb1, if_neg (by simp [h]), if_neg hw, QcF _ _ (by rw [List.length_drop]; simp; omega)]
structure PS where
 l : List Str
 vars : List Str
 bad : Bool
def PS.has (p : PS) (t : Str) : Bool := p.l.head? == some t
def PS.pop (p : PS) : PS := { p with l := p.l.tail }
def PS.spoil (p : PS) : PS := { p with bad := true }
def PS.close (p : PS) (t : Str) : PS := if p.bad then p else if p.has t then p.pop else p.spoil
def PS.var (p : PS) (x : Str) : Nat × PS := if x ∈ p.vars then (Qfq p.vars x, p) else (p.vars.length, { p with vars := p.vars ++ [x] })
def Ql9 (d : Str) : Nat := d.foldl (fun n c => 10 * n + (c - 48).toNat) 0
def Qro (s : Str) : Str := match s with | 45 :: r => r | _ => s
def QcG (s : Str) : Option Int :=
 let d := Qro s
 if d = [] ∨ 13 < d.length ∨ (Qes d = 48 ∧ s ≠ [48]) then none
 else if 1099511627776 < Ql9 d then none
 else some (if d = s then (Ql9 d : Int) else -(Ql9 d : Int))
def QR (f : PS → Nd × PS) : Nat → PS → List Nd × PS
 | 0, p => ([], p)
 | fuel + 1, p => if p.bad = false ∧ p.has [44] = true then
   let a := f p.pop
   let q := QR f fuel a.2
   (a.1 :: q.1, q.2)
  else ([], p)
def Qaf (f : PS → Nd × PS) (t : Str) (p : PS) : List Nd × PS :=
 let a := f p
 let q := QR f a.2.l.length a.2
 (a.1 :: q.1, q.2.close t)
def QQ : Nat → PS → Nd × PS
 | 0, p => (Nd.zero, p.spoil)
 | d + 1, p => match p.l with
  | [] => (Nd.zero, p.spoil)
  | [] :: _ => (Nd.zero, p.spoil)
  | (c :: r) :: _ =>
   if c :: r = [33] then (⟨1, 0, [33], .nil⟩, p.pop)
   else if upB c then (⟨0, (p.pop.var (c :: r)).1, [], .nil⟩, (p.pop.var (c :: r)).2)
   else if (c == 45) || Qbu c then (⟨2, (QcG (c :: r)).getD 0, [], .nil⟩, { p.pop with bad := p.bad || (QcG (c :: r)).isNone })
   else if QdQ c = false then (Nd.zero, p.spoil)
   else if p.pop.has [40] then
    (⟨3, 0, c :: r, Qbw (Qaf (QQ d) [41] p.pop.pop).1⟩, (Qaf (QQ d) [41] p.pop.pop).2)
   else (⟨1, 0, c :: r, .nil⟩, p.pop)
def QaU (p : PS) : List Nd × PS := Qaf (QQ 24) [46] p
def QaM (p : PS) : List Nd × PS := if p.bad = false ∧ p.has [58, 45] = true then QaU p.pop else ([], p.close [46])
theorem Qi5 (p : PS) : p.pop.l.length ≤ p.l.length := by simp [PS.pop]
theorem Qkh (p : PS) (t : Str) : (p.close t).l.length ≤ p.l.length := by
 unfold PS.close
 split
 ·exact Nat.le_refl _
 split
 ·exact Qi5 p
 ·exact Nat.le_refl _
theorem QhU {p : PS} {t : Str} (h : p.has t = true) : p.pop.l.length < p.l.length ∧ p.l = t :: p.pop.l := by
 unfold PS.has at h
 cases hl : p.l with
 | nil => rw [hl] at h; simp at h
 | cons x r => rw [hl] at h; simp at h; simp [PS.pop, hl, h]
def Qm8 (f : PS → Nd × PS) : Prop := ∀ p, (f p).2.l.length ≤ p.l.length
theorem Qi1 {f : PS → Nd × PS} (hf : Qm8 f) : ∀ (n : Nat) (p : PS), (QR f n p).2.l.length ≤ p.l.length
 | 0, p => Nat.le_refl _
 | n + 1, p => by
  unfold QR
  split
  ·have h1 := Qi1 hf n (f p.pop).2
   have h2 := hf p.pop
   have h3 := Qi5 p
   simp only
   omega
  ·exact Nat.le_refl _
theorem QeJ {f : PS → Nd × PS} (hf : Qm8 f) (t : Str) (p : PS) : (Qaf f t p).2.l.length ≤ p.l.length := by
 have h1 := Qi1 hf (f p).2.l.length (f p).2
 have h2 := hf p
 have h3 := Qkh (QR f (f p).2.l.length (f p).2).2 t
 simp only [Qaf]
 omega
theorem Qqb (p : PS) (x : Str) : (p.var x).2.l = p.l ∧ (p.var x).2.bad = p.bad := by
 unfold PS.var
 split <;> exact ⟨rfl, rfl⟩
theorem Qce : ∀ d, Qm8 (QQ d)
 | 0, p => Nat.le_refl _
 | d + 1, p => by
  unfold QQ
  have h1 := Qi5 p
  split
  ·exact Nat.le_refl _
  ·exact Nat.le_refl _
  ·rename_i c r q hl
   split
   ·exact h1
   split
   ·rw [(Qqb _ _).1]; exact h1
   split
   ·exact h1
   split
   ·exact Nat.le_refl _
   split
   ·have h2 := QeJ (Qce d) [41] p.pop.pop
    have h3 := Qi5 p.pop
    simp only; omega
   ·exact h1
theorem Qk1 {f : PS → Nd × PS} (hf : Qm8 f) : ∀ (n : Nat) (p : PS), p.l.length ≤ n → QR f n p = QR f p.l.length p := by
 intro n
 induction n using Nat.strongRecOn with
 | _ n ih =>
  intro p hn
  by_cases ht : p.bad = false ∧ p.has [44] = true
  ·have h1 := (QhU ht.2).1
   have h2 := hf p.pop
   obtain ⟨m, rfl⟩ : ∃ m, n = m + 1 := ⟨n - 1, by omega⟩
   obtain ⟨l, hl⟩ : ∃ l, p.l.length = l + 1 := ⟨p.l.length - 1, by omega⟩
   rw [hl]
   simp only [QR, if_pos ht]
   rw [ih m Ya (f p.pop).2 Ya, ih l Ya (f p.pop).2 Ya]
  ·have h0 : ∀ k, QR f k p = ([], p) := fun k => by cases k with | zero => rfl | succ k => simp only [QR, if_neg ht]
   rw [h0, h0]
theorem Qk0 {f : PS → Nd × PS} (hf : Qm8 f) {p : PS} (ht : p.bad = false ∧ p.has [44] = true) : QR f p.l.length p = ((f p.pop).1 :: (QR f (f p.pop).2.l.length (f p.pop).2).1, (QR f (f p.pop).2.l.length (f p.pop).2).2) := by
 have h1 := (QhU ht.2).1
 have h2 := hf p.pop
 obtain ⟨l, hl⟩ : ∃ l, p.l.length = l + 1 := ⟨p.l.length - 1, by omega⟩
 rw [hl]
 simp only [QR, if_pos ht]
 rw [Qk1 hf l (f p.pop).2 Ya]
theorem Qgp {f : PS → Nd × PS} {p : PS} (ht : ¬ (p.bad = false ∧ p.has [44] = true)) : QR f p.l.length p = ([], p) := by
 cases p.l.length with
 | zero => rfl
 | succ k => simp only [QR, if_neg ht]
theorem QlM (d : Str) (c : UInt8) : Ql9 (d ++ [c]) = 10 * Ql9 d + (c - 48).toNat := by simp [Ql9, List.foldl_append]
theorem Qum {c : UInt8} (h : Qbu c = true) : (c - 48).toNat < 10 ∧ UInt8.ofNat (48 + (c - 48).toNat) = c := by
 have hh : ∀ n : Fin 256, Qbu (UInt8.ofNat n.val) = true → (UInt8.ofNat n.val - 48).toNat < 10 ∧ UInt8.ofNat (48 + (UInt8.ofNat n.val - 48).toNat) = UInt8.ofNat n.val := by decide +kernel
 have := hh ⟨c.toNat, c.toNat_lt⟩
 simp only [UInt8.ofNat_toNat] at this
 exact this h
theorem Qml (d : Nat) (h : d < 10) : (UInt8.ofNat (48 + d) - 48).toNat = d := by
 have hh : ∀ n : Fin 10, (UInt8.ofNat (48 + n.val) - 48).toNat = n.val := by decide +kernel
 exact hh ⟨d, h⟩
theorem Qh2 (u : Nat) : Ql9 (Lib.decDigits u) = u := by
 induction u using Nat.strongRecOn with
 | ind u ih =>
  by_cases h10 : u < 10
  ·rw [Lib.decDigits_one h10]
   have := Qml u h10
   simp only [Ql9, List.foldl_cons, List.foldl_nil]
   omega
  ·rw [Lib.decDigits, dif_neg h10, QlM, ih (u / 10) Ya, Qml _ Ya]
   omega
theorem Qow : ∀ (l : Str), l = [] ∨ ∃ e c, l = e ++ [c] := fun l => by
 rcases List.eq_nil_or_concat l with h | ⟨e, c, h⟩
 ·exact .inl h
 ·exact .inr ⟨e, c, by simpa using h⟩
theorem Qh5 : ∀ (n : Nat) (d : Str), d.length = n → (∀ c ∈ d, Qbu c = true) → d ≠ [] → Qes d ≠ 48 → Lib.decDigits (Ql9 d) = d ∧ 0 < Ql9 d := by
 intro n
 induction n with
 | zero => intro d hl _ hne; exact absurd (List.eq_nil_of_length_eq_zero hl) hne
 | succ n ih =>
  intro d hl hd hne h48
  rcases Qow d with rfl | ⟨e, c, rfl⟩
  ·exact absurd rfl hne
  have hc := Qum (hd c Yd)
  rw [QlM]
  cases e with
  | nil =>
   have h0 : (c - 48).toNat ≠ 0 := fun h0 => by
    have := hc.2
    rw [h0] at this
    exact h48 (by show c = 48; rw [← this]; rfl)
   have e0 : Ql9 [] = 0 := rfl
   rw [e0, Nat.mul_zero, Nat.zero_add, Lib.decDigits_one hc.1, hc.2]
   exact ⟨rfl, by omega⟩
  | cons x e =>
   have h1 := ih (x :: e) (by simp at hl ⊢; omega) (fun y hy => hd y (List.mem_append_left _ hy)) Yd h48
   have h2 : ¬ 10 * Ql9 (x :: e) + (c - 48).toNat < 10 := by omega
   have h3 : (10 * Ql9 (x :: e) + (c - 48).toNat) / 10 = Ql9 (x :: e) := by omega
   have h4 : (10 * Ql9 (x :: e) + (c - 48).toNat) % 10 = (c - 48).toNat := by omega
   rw [Lib.decDigits, dif_neg h2, h3, h4, hc.2, h1.1]
   exact ⟨rfl, by omega⟩
theorem Qq8 : Ql9 [48] = 0 := rfl
theorem Qh3 : Lib.decDigits 0 = [48] := by rw [Lib.decDigits_one Ya]; rfl
theorem Qh4 (u : Nat) (h : 0 < u) : Qes (Lib.decDigits u) ≠ 48 := by
 induction u using Nat.strongRecOn with
 | ind u ih =>
  by_cases h10 : u < 10
  ·rw [Lib.decDigits_one h10]
   intro e
   have := Qml u h10
   rw [show UInt8.ofNat (48 + u) = 48 from e] at this
   have h0 : ((48 : UInt8) - 48).toNat = 0 := by decide
   omega
  ·rw [Lib.decDigits, dif_neg h10]
   have h1 := ih (u / 10) Ya Ya
   have h2 := Qd1 (u / 10)
   cases hl : Lib.decDigits (u / 10) with
   | nil => exact absurd hl h2
   | cons x r => rw [hl] at h1; exact h1
theorem Qoa {c : UInt8} {r : Str} (h : Qbu c = true) : Qro (c :: r) = c :: r := by
 unfold Qro
 split
 ·rename_i e; cases e; exact absurd h Yg
 ·rfl
def QrN (t : Str) : Prop := (t ≠ [] ∧ ∀ c ∈ t, Qbu c = true) ∨ ∃ r, t = 45 :: r ∧ r ≠ [] ∧ ∀ c ∈ r, Qbu c = true
theorem Qos {t : Str} {v : Int} (ht : QrN t) (h : QcG t = some v) : t = Lib.itoa v ∧ -1099511627776 ≤ v ∧ v ≤ 1099511627776 := by
 unfold QcG at h
 simp only at h
 split at h
 ·cases h
 rename_i h1
 split at h
 ·cases h
 rename_i h2
 simp only [not_or, not_and] at h1
 obtain ⟨h11, h12, h13⟩ := h1
 rcases ht with ⟨hne, hd⟩ | ⟨r, rfl, hne, hd⟩
 ·cases t with
  | nil => exact absurd rfl hne
  | cons c r =>
   have hb := Qoa (r := r) (hd c (.head _))
   rw [hb] at h h13 h2
   rw [if_pos rfl] at h
   cases h
   refine ⟨?_, by omega, by omega⟩
   unfold Lib.itoa
   rw [if_neg Ya, Int.toNat_natCast]
   by_cases h48 : Qes (c :: r) = 48
   ·have := h13 h48
    have h5 : c :: r = [48] := by simpa using this
    rw [h5, Qq8, Qh3]
   ·exact (Qh5 _ _ rfl hd Yd h48).1.symm
 ·have hb : Qro (45 :: r) = r := rfl
  rw [hb] at h h13 h2
  have hner : r ≠ 45 :: r := fun e => by have := congrArg List.length e; simp at this
  rw [if_neg hner] at h
  cases h
  have h48 : Qes r ≠ 48 := fun e => absurd (h13 e) Yd
  have h5 := Qh5 _ _ rfl hd hne h48
  refine ⟨?_, by omega, by omega⟩
  unfold Lib.itoa
  rw [if_pos Ya, Int.natAbs_neg, Int.natAbs_natCast, h5.1]
theorem Qot (v : Int) (h0 : -1099511627776 ≤ v) (h1 : v ≤ 1099511627776) : QcG (Lib.itoa v) = some v := by
 unfold Lib.itoa
 split
 ·have hd := Qh2 v.natAbs
  have hh := Qh4 v.natAbs Ya
  have hn := Qd1 v.natAbs
  have hl := Qf2 12 v.natAbs Ya
  rw [← Lib.decDigits_length] at hl
  generalize Lib.decDigits v.natAbs = d at *
  have hner : d ≠ 45 :: d := fun e => by have := congrArg List.length e; simp at this
  have hb : Qro (45 :: d) = d := rfl
  unfold QcG
  simp only [hb]
  rw [if_neg (by simp [hn, hh]; omega), hd, if_neg Ya, if_neg hner]
  congr 1; omega
 ·have hd := Qh2 v.toNat
  have hn := Qd1 v.toNat
  have hl := Qf2 12 v.toNat Ya
  rw [← Lib.decDigits_length] at hl
  have hh : Qes (Lib.decDigits v.toNat) = 48 → Lib.decDigits v.toNat = [48] := fun e => by
   by_cases hz : v.toNat = 0
   ·rw [hz]; exact Qh3
   ·exact absurd e (Qh4 _ Ya)
  have hall := Qju v.toNat
  generalize Lib.decDigits v.toNat = d at *
  cases d with
  | nil => exact absurd rfl hn
  | cons c r =>
   have hb := Qoa (r := r) (hall c (.head _))
   unfold QcG
   simp only [hb]
   rw [if_neg (by
    rintro (h | h | ⟨h, h'⟩)
    ·exact hn h
    ·omega
    ·exact h' (hh h)), hd, if_neg Ya, if_pos trivial]
   congr 1; omega
theorem Qqq {t : Str} (ht : QrN t) : QG t = QcG t := by
 cases hv : QcG t with
 | some v =>
  obtain ⟨e, h0, h1⟩ := Qos ht hv
  rw [e]; exact Qqt v h0 h1
 | none =>
  cases hn : QG t with
  | none => rfl
  | some v =>
   unfold QG at hn
   split at hn
   ·split at hn
    ·rename_i h
     cases hn
     rw [← h.1, Qot _ h.2.1 h.2.2] at hv
     cases hv
    ·cases hn
   ·cases hn
theorem Qmg : QcG [45] = none := by decide
def QiC (x : Str) : Prop := x = [] ∨ x = [45]
def QbI (p : PS) : Prop := p.bad = true ∨ ∃ x ∈ p.l, QiC x
def QuY (t : Str) : Prop := t ≠ [] ∧ ((Qbu (Qes t) || (Qes t == 45)) = true → QrN t) ∧ (Qes t = 33 → t = [33])
def Qih (s : RS) (p : PS) : Prop := s.err = 0 ∧ p.bad = false ∧ s.vars = p.vars ∧ ((s.token = [] ∧ s.rest = [] ∧ p.l = []) ∨ (QuY s.token ∧ p.l = s.token :: Qct s.rest))
def QrP (s : RS) (p : PS) : Prop := s.err = 1 ∧ s.token = [] ∧ s.rest = [] ∧ QbI p
def Rel (s : RS) (p : PS) : Prop := Qih s p ∨ QrP s p
theorem QbI.pop {p : PS} {t : Str} {r : List Str} (h : QbI p) (hl : p.l = t :: r) (ht : ¬ QiC t) : QbI p.pop := by
 rcases h with h | ⟨x, hx, hb⟩
 ·exact .inl h
 ·rw [hl] at hx
  rcases List.mem_cons.1 hx with rfl | hx
  ·exact absurd hb ht
  ·exact .inr ⟨x, by simp [PS.pop, hl, hx], hb⟩
theorem QbI.has {p : PS} {t : Str} (h : QbI p) (hh : p.has t = true) (ht : ¬ QiC t) : QbI p.pop := h.pop (QhU hh).2 ht
theorem QbI.close {p : PS} {t : Str} (h : QbI p) (ht : ¬ QiC t) : QbI (p.close t) := by
 unfold PS.close
 split
 ·exact h
 split
 ·rename_i hh; exact h.has hh ht
 ·exact .inl rfl
theorem QbI.var {p : PS} (x : Str) (h : QbI p) : QbI (p.var x).2 := by
 unfold PS.var
 split
 ·exact h
 ·exact h
def Ql5 (f : PS → Nd × PS) : Prop := ∀ p, QbI p → QbI (f p).2
theorem QbI.loop {f : PS → Nd × PS} (hf : Ql5 f) : ∀ (n : Nat) (p : PS), QbI p → QbI (QR f n p).2
 | 0, p, h => h
 | n + 1, p, h => by
  unfold QR
  split
  ·rename_i hh; exact QbI.loop hf n _ (hf _ (h.has hh.2 (by simp [QiC])))
  ·exact h
theorem QbI.terms {f : PS → Nd × PS} (hf : Ql5 f) (t : Str) (ht : ¬ QiC t) (p : PS) (h : QbI p) : QbI (Qaf f t p).2 := (QbI.loop hf _ _ (hf p h)).close ht
theorem QbI.term : ∀ d, Ql5 (QQ d)
 | 0, p, h => .inl rfl
 | d + 1, p, h => by
  unfold QQ
  split
  ·exact .inl rfl
  ·exact .inl rfl
  ·rename_i c r q hl
   split
   ·rename_i e; exact h.pop hl (by rw [e]; simp [QiC])
   split
   ·rename_i hne hu
    refine QbI.var _ (h.pop hl ?_)
    rintro (e | e)
    ·cases e
    ·cases e; exact absurd hu Yg
   split
   ·by_cases e : c :: r = [45]
    ·left; rw [e, Qmg]; simp
    ·rcases h.pop hl (by rintro (e' | e'); cases e'; exact e e') with h' | h'
     ·left
      have : p.bad = true := h'
      simp [this]
     ·exact .inr h'
   split
   ·exact .inl rfl
   ·rename_i h45 hlo
    have hb : ¬ QiC (c :: r) := by
     rintro (e | e)
     ·cases e
     ·cases e; exact h45 rfl
    split
    ·rename_i hp; exact QbI.terms (QbI.term d) [41] (by simp [QiC]) _ ((h.pop hl hb).has hp (by simp [QiC]))
    ·exact h.pop hl hb
theorem QrP.fail {s : RS} {p q : PS} (h : QrP s p) (e : Int) (hq : QbI q) : QrP (s.fail e) q := ⟨by simp [RS.fail, h.1], rfl, rfl, hq⟩
theorem QrP.adv {s : RS} {p q : PS} (h : QrP s p) (hq : QbI q) : QrP s.adv q := by
 have : s.adv = ⟨[], [], s.vars, s.err⟩ := by
  unfold RS.adv
  rw [h.2.2.1]
  rfl
 rw [this]
 exact ⟨h.1, rfl, rfl, hq⟩
theorem Qih.fail {s : RS} {p : PS} (h : Qih s p) {q : PS} (hq : QbI q) : QrP (s.fail 1) q := ⟨by simp [RS.fail, h.1], rfl, rfl, hq⟩
theorem Qhf {f : UInt8 → Bool} : ∀ (l : Str), ∀ c ∈ l.take (Qbh f l), f c = true
 | [], c, h => by simp at h
 | x :: l, c, h => by
  unfold Qbh at h
  cases hx : f x with
  | false => rw [hx] at h; simp at h
  | true =>
   rw [hx] at h
   simp only [cond_true, List.take_succ_cons] at h
   rcases List.mem_cons.1 h with rfl | h
   ·exact hx
   ·exact Qhf l c h
theorem Qr5 {c : UInt8} (h : (upB c || QdQ c) = true) : Qbu c = false ∧ (c == 45) = false ∧ c ≠ 33 := by
 have hh : ∀ n : Fin 256, (upB (UInt8.ofNat n.val) || QdQ (UInt8.ofNat n.val)) = true → Qbu (UInt8.ofNat n.val) = false ∧ (UInt8.ofNat n.val == 45) = false ∧ UInt8.ofNat n.val ≠ 33 := by decide +kernel
 have := hh ⟨c.toNat, c.toNat_lt⟩
 simp only [UInt8.ofNat_toNat] at this
 exact this h
theorem Qq9 {c : UInt8} (h : Qbu c = true) : upB c = false ∧ QdQ c = false ∧ (c == 45) = false ∧ c ≠ 33 := by
 have hh : ∀ n : Fin 256, Qbu (UInt8.ofNat n.val) = true → upB (UInt8.ofNat n.val) = false ∧ QdQ (UInt8.ofNat n.val) = false ∧ (UInt8.ofNat n.val == 45) = false ∧ UInt8.ofNat n.val ≠ 33 := by decide +kernel
 have := hh ⟨c.toNat, c.toNat_lt⟩
 simp only [UInt8.ofNat_toNat] at this
 exact this h
theorem Qox {c : UInt8} (h : Qeo.contains c = true) : Qbu c = false ∧ (c == 45) = false := by
 have hh : ∀ n : Fin 256, Qeo.contains (UInt8.ofNat n.val) = true → Qbu (UInt8.ofNat n.val) = false ∧ (UInt8.ofNat n.val == 45) = false := by decide +kernel
 have := hh ⟨c.toNat, c.toNat_lt⟩
 simp only [UInt8.ofNat_toNat] at this
 exact this h
theorem Qr6 (c : UInt8) (r : Str) : (Q7 (c :: r) = Qav (c :: r) ∧ (Q7 (c :: r) ≠ 0 → QuY ((c :: r).take (Q7 (c :: r))))) ∨ (Q7 (c :: r) = 0 ∧ Qav (c :: r) = 1 ∧ c = 45) := by
 have hT : ∀ x, 1 + x ≠ 0 := fun x => by omega
 by_cases h1 : (upB c || QdQ c) = true
 ·left
  have e1 : Q7 (c :: r) = 1 + Qbh QdQ r := by simp only [Q7, h1, if_true]
  have e2 : Qav (c :: r) = 1 + Qbh QdQ r := by simp only [Qav, Bool.or_comm (QdQ c), h1, if_true]
  rw [e1, e2]
  have hf := Qr5 h1
  refine ⟨rfl, fun _ => ⟨by rw [Nat.add_comm, List.take_succ_cons]; simp, fun h => ?_, fun h => ?_⟩⟩
  ·rw [Nat.add_comm, List.take_succ_cons] at h
   simp only [Qes, hf.1, hf.2.1, Bool.or_self, Bool.false_eq_true] at h
  ·rw [Nat.add_comm, List.take_succ_cons] at h
   exact absurd h hf.2.2
 have h1' : (upB c || QdQ c) = false := by simpa using h1
 by_cases h2 : Qbu c = true
 ·left
  have hf := Qq9 h2
  have e : Qbh Qbu (c :: r) = 1 + Qbh Qbu r := by simp [Qbh, h2]; omega
  have e1 : Q7 (c :: r) = Qbh Qbu (c :: r) := by simp only [Q7, h1', h2, Bool.false_eq_true, if_false, if_true]
  have e2 : Qav (c :: r) = 1 + Qbh Qbu r := by simp only [Qav, Bool.or_comm (QdQ c), h1', h2, Bool.true_or, Bool.false_eq_true, if_false, if_true]
  rw [e1, e2]
  refine ⟨e, fun _ => ⟨by rw [e, Nat.add_comm, List.take_succ_cons]; simp, fun h => .inl ⟨by rw [e, Nat.add_comm, List.take_succ_cons]; simp, Qhf _⟩, fun h => ?_⟩⟩
  rw [e, Nat.add_comm, List.take_succ_cons] at h
  exact absurd h hf.2.2.2
 have h2' : Qbu c = false := by simpa using h2
 by_cases h3 : c = 45
 ·subst h3
  have e2 : Qav (45 :: r) = 1 + Qbh Qbu r := by
   have a1 : (QdQ 45 || upB 45) = false := by decide
   have a2 : (Qbu 45 || ((45 : UInt8) == 45)) = true := by decide
   simp only [Qav, a1, a2, Bool.false_eq_true, if_false, if_true]
  have e1 : Q7 (45 :: r) = if 0 < Qbh Qbu r then 1 + Qbh Qbu r else 0 := by
   simp only [Q7, h1', h2', Bool.false_eq_true, if_false, if_true]
  by_cases h4 : 0 < Qbh Qbu r
  ·left
   rw [e1, e2, if_pos h4]
   refine ⟨rfl, fun _ => ⟨by rw [Nat.add_comm, List.take_succ_cons]; simp, fun h => .inr ⟨r.take (Qbh Qbu r), by rw [Nat.add_comm, List.take_succ_cons], ?_, Qhf r⟩, fun h => ?_⟩⟩
   ·intro e
    have := congrArg List.length e
    have hle := Qc4 Qbu r
    simp only [List.length_take, List.length_nil] at this
    omega
   ·rw [Nat.add_comm, List.take_succ_cons] at h
    have h' : (45 : UInt8) = 33 := h
    exact absurd h' Yg
  ·right
   rw [e1, e2, if_neg h4]
   exact ⟨rfl, by omega, rfl⟩
 have h3' : (c == 45) = false := by simp [h3]
 left
 by_cases h5 : ([58, 45] : Str).isPrefixOf (c :: r) = true
 ·have e1 : Q7 (c :: r) = 2 := by
   simp only [Q7, h1', h2', h3, Bool.false_eq_true, if_false]
   rw [if_pos h5]
  have e2 : Qav (c :: r) = 2 := by
   simp only [Qav, Bool.or_comm (QdQ c), h1', h2', h3', Bool.or_self, Bool.false_eq_true, if_false]
   rw [if_pos h5]
  rw [e1, e2]
  cases r with
  | nil => simp [List.isPrefixOf] at h5
  | cons x r =>
   have : c = 58 := by simp [List.isPrefixOf] at h5; exact h5.1.symm
   subst this
   exact ⟨rfl, fun _ => ⟨by simp, fun h => absurd h (by simp [Qes, Qbu]), fun h => absurd h (by simp [Qes])⟩⟩
 have e1 : Q7 (c :: r) = if Qeo.contains c then 1 else 0 := by
  simp only [Q7, h1', h2', h3, Bool.false_eq_true, if_false]
  rw [if_neg h5]
 have e2 : Qav (c :: r) = if Qeo.contains c then 1 else 0 := by
  simp only [Qav, Bool.or_comm (QdQ c), h1', h2', h3', Bool.or_self, Bool.false_eq_true, if_false]
  rw [if_neg h5]
 rw [e1, e2]
 by_cases h6 : Qeo.contains c = true
 ·rw [if_pos h6]
  have hf := Qox h6
  refine ⟨rfl, fun _ => ⟨by simp, fun h => ?_, fun h => ?_⟩⟩
  ·have : (Qbu c || (c == 45)) = true := h
   rw [hf.1, hf.2] at this
   cases this
  ·have : c = 33 := h
   rw [this]; rfl
 ·rw [if_neg h6]
  exact ⟨rfl, fun h => absurd rfl h⟩
theorem QiF : ∀ R : Str, Qct R = Qct (Qb5 R)
 | [] => rfl
 | c :: r => by
  unfold Qb5
  rw [List.dropWhile_cons]
  split
  ·rename_i h; rw [Qmd r h]; exact QiF r
  ·rfl
theorem QpM {R : Str} {c : UInt8} {r : Str} (h : Qb5 R = c :: r) : QiG c = false := by
 unfold Qb5 at h
 induction R with
 | nil => simp at h
 | cons x R ih =>
  rw [List.dropWhile_cons] at h
  split at h
  ·exact ih h
  ·rename_i hx; cases h; simpa using hx
theorem QrH {s : RS} {p : PS} (he : s.err = 0) (hb : p.bad = false) (hv : s.vars = p.vars) (hl : p.l = Qct s.rest) : Rel s.adv p := by
 rw [QiF] at hl
 unfold RS.adv
 simp only
 cases ht : Qb5 s.rest with
 | nil =>
  rw [ht] at hl
  rw [if_neg Yd]
  exact .inl ⟨he, hb, hv, .inl ⟨rfl, rfl, hl⟩⟩
 | cons c r =>
  have hw := QpM ht
  rw [ht] at hl
  rcases Qr6 c r with ⟨h1, h2⟩ | ⟨h1, h2, h3⟩
  ·by_cases h0 : Q7 (c :: r) = 0
   ·rw [if_pos ⟨h0, by simp⟩]
    rw [Qpz r hw Ya] at hl
    exact .inr ⟨by simp [RS.fail, he], rfl, rfl, .inr ⟨[], by rw [hl]; simp, .inl rfl⟩⟩
   ·rw [if_neg (by simp [h0])]
    rw [QiE r hw Ya, ← h1] at hl
    exact .inl ⟨he, hb, hv, .inr ⟨h2 h0, hl⟩⟩
  ·subst h3
   rw [if_pos ⟨h1, by simp⟩]
   rw [QiE r hw Ya, h2] at hl
   exact .inr ⟨by simp [RS.fail, he], rfl, rfl, .inr ⟨[45], by rw [hl]; simp, .inr rfl⟩⟩
theorem Qih.tok {s : RS} {p : PS} (h : Qih s p) {t : Str} (ht : t ≠ []) : (s.token = t) ↔ p.has t = true := by
 rcases h.2.2.2 with ⟨h1, _, h3⟩ | ⟨h1, h3⟩
 ·rw [h1]; unfold PS.has; rw [h3]; simp; exact fun e => ht (by first | exact e | exact e.symm)
 ·unfold PS.has; rw [h3]; simp
theorem Qih.adv {s : RS} {p : PS} (h : Qih s p) (hn : s.token ≠ []) : Rel s.adv p.pop := by
 rcases h.2.2.2 with ⟨h1, _, _⟩ | ⟨h1, h3⟩
 ·exact absurd h1 hn
 ·exact QrH h.1 h.2.1 h.2.2.1 (by simp [PS.pop, h3])
theorem Rel.take {s : RS} {p : PS} (h : Rel s p) {t : Str} (ht : ¬ QiC t) : Rel (s.take t) (p.close t) := by
 have hne : t ≠ [] := fun e => ht (.inl e)
 rcases h with h | h
 ·have e2 : p.close t = if p.has t then p.pop else p.spoil := by unfold PS.close; rw [if_neg (by simp [h.2.1])]
  rw [e2]
  by_cases e : s.token = t
  ·have e1 : s.take t = s.adv := by unfold RS.take; rw [if_pos e]
   rw [e1, if_pos ((h.tok hne).1 e)]
   exact h.adv (by rw [e]; exact hne)
  ·have e1 : s.take t = (s.fail 1).adv := by unfold RS.take; rw [if_neg e]
   rw [e1, if_neg fun e' => e ((h.tok hne).2 e')]
   exact .inr ((h.fail (q := p.spoil) (.inl rfl)).adv (.inl rfl))
 ·have e1 : s.take t = (s.fail 1).adv := by unfold RS.take; rw [if_neg (by rw [h.2.1]; exact fun e => hne e.symm)]
  rw [e1]
  exact .inr ((h.fail 1 (h.2.2.2.close ht)).adv (h.2.2.2.close ht))
def Qu5 (f : RS → Nd × RS) (g : PS → Nd × PS) : Prop := ∀ s p, Rel s p → Rel (f s).2 (g p).2 ∧ ((f s).2.err = 0 → (f s).1 = (g p).1)
theorem Rel.live {s : RS} {p : PS} (h : Rel s p) (he : s.err = 0) : Qih s p := by
 rcases h with h | h
 ·exact h
 ·have := h.1; omega
def Ql3 (f : RS → Nd × RS) : Prop := ∀ s, (f s).2.err = 0 → s.err = 0
theorem Qbr (s : RS) (e : Int) (he : e ≠ 0) : (s.fail e).err ≠ 0 := by
 simp only [RS.fail]
 split
 ·exact he
 ·assumption
theorem QbS (s : RS) (h : s.adv.err = 0) : s.err = 0 := by
 unfold RS.adv at h
 simp only at h
 split at h
 ·exact absurd h (Qbr s 1 Yg)
 ·exact h
theorem Qcd (s : RS) (t : Str) (h : (s.take t).err = 0) : s.err = 0 ∧ s.token = t := by
 unfold RS.take at h
 split at h
 ·rename_i e; exact ⟨QbS s h, e⟩
 ·exact absurd (QbS _ h) (Qbr s 1 Yg)
theorem Qf3 {f : RS → Nd × RS} (hf : Ql3 f) : ∀ (n : Nat) (s : RS), (QaV f n s).2.err = 0 → s.err = 0
 | 0, s, h => h
 | n + 1, s, h => by
  unfold QaV at h
  split at h
  ·exact QbS s (hf _ (Qf3 hf n _ h))
  ·exact h
theorem QeE {f : RS → Nd × RS} (hf : Ql3 f) : ∀ s : RS, (QL f s).2.err = 0 → (f s).2.err = 0 := fun s h => Qf3 hf _ _ h
theorem Qmf (s : RS) (x : Str) : (s.var x).2.err = s.err := by unfold RS.var; split <;> rfl
theorem Qbz (num : Str → Option Int) : ∀ d, Ql3 (Qw num d)
 | 0, s, h => absurd h (Qbr s 1 Yg)
 | d + 1, s, h => by
  unfold Qw at h
  split at h
  ·exact absurd h (Qbr s 1 Yg)
  ·simp only at h
   split at h
   ·rw [Qmf] at h; exact QbS s h
   split at h
   ·have h1 := (Qcd _ _ h).1
    have h2 := Qbz num d _ (QeE (Qbz num d) _ h1)
    exact QbS s (Qcd _ _ h2).1
   split at h
   ·exact QbS s h
   split at h
   ·simp only [RS.number] at h
    split at h
    ·exact QbS s h
    ·exact absurd h (Qbr _ 1 Yg)
   ·exact absurd h (Qbr _ 1 Yg)
theorem Qu5.loop {f : RS → Nd × RS} {g : PS → Nd × PS} (hb : Qu5 f g) (hf : QuA f) (hg : Qm8 g) (hs : Ql3 f) (hk : Ql5 g) : ∀ (n : Nat) (s : RS) (p : PS), s.left ≤ n → Rel s p →
  Rel (QaV f s.left s).2 (QR g p.l.length p).2 ∧ ((QaV f s.left s).2.err = 0 → (QaV f s.left s).1 = (QR g p.l.length p).1) := by
 intro n
 induction n with
 | zero =>
  intro s p hn h
  rcases h with h | h
  ·have ht : s.token = [] := by unfold RS.left at hn; exact List.eq_nil_of_length_eq_zero Ya
   have h1 : ¬ s.token = [44] := by rw [ht]; simp
   rw [QcN h1, Qgp fun e => h1 ((h.tok Yd).2 e.2)]
   exact ⟨.inl h, fun _ => rfl⟩
  ·have h1 : ¬ s.token = [44] := by rw [h.2.1]; simp
   rw [QcN h1]
   exact ⟨.inr ⟨h.1, h.2.1, h.2.2.1, QbI.loop hk _ _ h.2.2.2⟩, fun e => by have := h.1; simp only at e; omega⟩
 | succ n ih =>
  intro s p hn h
  rcases h with h | h
  ·by_cases ht : s.token = [44]
   ·have hp := (h.tok Yd).1 ht
    rw [Qlo hf ht, Qk0 hg ⟨h.2.1, hp⟩]
    have h1 := QcY s (by rw [ht]; simp)
    have h2 := hf s.adv
    have h3 := h.adv (by rw [ht]; simp)
    have h4 := hb _ _ h3
    have h5 := ih (f s.adv).2 (g p.pop).2 Ya h4.1
    refine ⟨h5.1, fun e => ?_⟩
    simp only at e ⊢
    rw [h5.2 e, h4.2 (Qf3 hs _ _ e)]
   ·rw [QcN ht, Qgp fun e => ht ((h.tok Yd).2 e.2)]
    exact ⟨.inl h, fun _ => rfl⟩
  ·have h1 : ¬ s.token = [44] := by rw [h.2.1]; simp
   rw [QcN h1]
   exact ⟨.inr ⟨h.1, h.2.1, h.2.2.1, QbI.loop hk _ _ h.2.2.2⟩, fun e => by have := h.1; simp only at e; omega⟩
theorem Qu5.terms {f : RS → Nd × RS} {g : PS → Nd × PS} (hb : Qu5 f g) (hf : QuA f) (hg : Qm8 g) (hs : Ql3 f) (hk : Ql5 g) (t : Str) (ht : ¬ QiC t) (s : RS) (p : PS) (h : Rel s p) :
  Rel ((QL f s).2.take t) (Qaf g t p).2 ∧ ((QL f s).2.err = 0 → (QL f s).1 = (Qaf g t p).1) := by
 have h1 := hb s p h
 have h2 := hb.loop hf hg hs hk _ (f s).2 (g p).2 (Nat.le_refl _) h1.1
 refine ⟨h2.1.take ht, fun e => ?_⟩
 have e1 : (QL f s).1 = (f s).1 :: (QaV f (f s).2.left (f s).2).1 := rfl
 have e2 : (Qaf g t p).1 = (g p).1 :: (QR g (g p).2.l.length (g p).2).1 := rfl
 rw [e1, e2, h1.2 (QeE hs s e), h2.2 e]
theorem Qih.var {s : RS} {p : PS} (h : Qih s p) (x : Str) : (s.var x).1 = (p.var x).1 ∧ Qih (s.var x).2 (p.var x).2 := by
 obtain ⟨h1, h2, h3, h4⟩ := h
 unfold RS.var PS.var
 rw [h3]
 split
 ·exact ⟨rfl, h1, h2, h3, h4⟩
 ·exact ⟨rfl, h1, h2, by simp, h4⟩
theorem QrP.var {s : RS} {p : PS} (h : QrP s p) (x : Str) : QrP (s.var x).2 (p.var x).2 := by
 refine ⟨by rw [Qmf]; exact h.1, ?_, ?_, h.2.2.2.var x⟩
 ·unfold RS.var; split <;> exact h.2.1
 ·unfold RS.var; split <;> exact h.2.2.1
theorem Rel.var {s : RS} {p : PS} (h : Rel s p) (x : Str) : Rel (s.var x).2 (p.var x).2 ∧ ((s.var x).2.err = 0 → (s.var x).1 = (p.var x).1) := by
 rcases h with h | h
 ·exact ⟨.inl (h.var x).2, fun _ => (h.var x).1⟩
 ·exact ⟨.inr (h.var x), fun e => by rw [Qmf] at e; have := h.1; omega⟩
theorem QfD : ∀ d, Qu5 (Qw QG d) (QQ d)
 | 0, s, p, h => by
  refine ⟨?_, fun e => absurd e (Qbr s 1 Yg)⟩
  rcases h with h | h
  ·exact .inr (h.fail (.inl rfl))
  ·exact .inr (h.fail 1 (.inl rfl))
 | d + 1, s, p, h => by
  rcases h with h | h
  ·rcases h.2.2.2 with ⟨h1, h2, h3⟩ | ⟨h1, h3⟩
   ·have e1 : Qw QG (d + 1) s = (Nd.zero, s.fail 1) := by unfold Qw; rw [if_pos h1]
    have e2 : QQ (d + 1) p = (Nd.zero, p.spoil) := by unfold QQ; rw [h3]
    rw [e1, e2]
    exact ⟨.inr (h.fail (.inl rfl)), fun e => absurd e (Qbr s 1 Yg)⟩
   ·obtain ⟨hne, hnum, h33⟩ := h1
    cases ht : s.token with
    | nil => exact absurd ht hne
    | cons c r =>
     rw [ht] at h3 hnum h33
     have hc : Qes (c :: r) = c := rfl
     rw [hc] at hnum h33
     have hadv := h.adv (by rw [ht]; simp)
     have e1 := QaJ QG d ht
     have e2 : QQ (d + 1) p = if c :: r = [33] then (⟨1, 0, [33], .nil⟩, p.pop)
       else if upB c then (⟨0, (p.pop.var (c :: r)).1, [], .nil⟩, (p.pop.var (c :: r)).2)
       else if (c == 45) || Qbu c then (⟨2, (QcG (c :: r)).getD 0, [], .nil⟩, { p.pop with bad := p.bad || (QcG (c :: r)).isNone })
       else if QdQ c = false then (Nd.zero, p.spoil)
       else if p.pop.has [40] then (⟨3, 0, c :: r, Qbw (Qaf (QQ d) [41] p.pop.pop).1⟩, (Qaf (QQ d) [41] p.pop.pop).2)
       else (⟨1, 0, c :: r, .nil⟩, p.pop) := by
      conv => lhs; unfold QQ
      rw [h3]
     by_cases e33 : c = 33
     ·have := h33 e33
      subst e33
      cases this
      have f1 : Qw QG (d + 1) s = (⟨1, 0, [33], .nil⟩, s.adv) := e1
      rw [if_pos rfl] at e2
      rw [f1, e2]
      exact ⟨hadv, fun _ => rfl⟩
     rw [if_neg (by intro e; exact e33 (List.cons.inj e).1)] at e2
     by_cases hu : upB c = true
     ·rw [if_pos hu] at e1 e2
      rw [e1, e2]
      have hv := hadv.var (c :: r)
      exact ⟨hv.1, fun e => by simp only at e ⊢; rw [hv.2 e]⟩
     rw [if_neg hu] at e1 e2
     by_cases hd : ((c == 45) || Qbu c) = true
     ·rw [if_pos hd] at e2
      have hnt := hnum (by rw [Bool.or_comm]; exact hd)
      have hlo : QdQ c = false := by
       have hh : ∀ n : Fin 256, ((UInt8.ofNat n.val == 45) || Qbu (UInt8.ofNat n.val)) = true → QdQ (UInt8.ofNat n.val) = false := by decide +kernel
       have := hh ⟨c.toNat, c.toNat_lt⟩
       simp only [UInt8.ofNat_toNat] at this
       exact this hd
      rw [if_neg (by simp [hlo]), if_neg (by simp [hlo, e33]), if_pos (by rw [Bool.or_comm]; exact hd)] at e1
      rw [e1, e2]
      unfold RS.number
      rw [Qqq hnt]
      cases hv : QcG (c :: r) with
      | some v =>
       simp only [Option.getD_some, Option.isNone_some, Bool.or_false]
       refine ⟨?_, fun _ => trivial⟩
       have : ({ p.pop with bad := p.bad } : PS) = p.pop := rfl
       rw [this]; exact hadv
      | none =>
       simp only [Option.getD_none, Option.isNone_none, Bool.or_true]
       refine ⟨?_, fun e => absurd e (Qbr _ 1 Yg)⟩
       rcases hadv with ha | ha
       ·exact .inr (ha.fail (.inl rfl))
       ·exact .inr (ha.fail 1 (.inl rfl))
     rw [if_neg hd] at e2
     have hd2 : ¬ (Qbu c || (c == 45)) = true := by rw [Bool.or_comm]; exact hd
     by_cases hlo : QdQ c = true
     ·rw [if_neg (by simp [hlo])] at e2
      by_cases hp : s.adv.token = [40]
      ·rw [if_pos (by simp [hlo, hp])] at e1
       rcases hadv with ha | ha
       ·have hh := (ha.tok Yd).1 hp
        rw [if_pos hh] at e2
        have e3 : s.adv.take [40] = s.adv.adv := by unfold RS.take; rw [if_pos hp]
        rw [e3] at e1
        rw [e1, e2]
        have h4 := ha.adv (by rw [hp]; simp)
        have h5 := (QfD d).terms (QaY QG d) (Qce d) (Qbz QG d) (QbI.term d) [41] (by simp [QiC]) _ _ h4
        refine ⟨h5.1, fun e => ?_⟩
        simp only at e ⊢
        rw [h5.2 (Qcd _ _ e).1]
       ·exact absurd ha.2.1 (by rw [hp]; simp)
      ·rw [if_neg (by simp [hp]), if_pos (by simp [hlo])] at e1
       rw [e1]
       rcases hadv with ha | ha
       ·rw [if_neg fun e => hp ((ha.tok Yd).2 e)] at e2
        rw [e2]
        exact ⟨.inl ha, fun _ => rfl⟩
       ·rw [e2]
        refine ⟨.inr ⟨ha.1, ha.2.1, ha.2.2.1, ?_⟩, fun e => by have := ha.1; simp only at e; omega⟩
        split
        ·rename_i hh
         exact QbI.terms (QbI.term d) [41] (by simp [QiC]) _ (ha.2.2.2.has hh (by simp [QiC]))
        ·exact ha.2.2.2
     ·have hlo' : QdQ c = false := by simpa using hlo
      rw [if_pos hlo'] at e2
      rw [if_neg (by simp [hlo']), if_neg (by simp [hlo', e33]), if_neg hd2] at e1
      rw [e1, e2]
      refine ⟨?_, fun e => absurd e (Qbr _ 1 Yg)⟩
      rcases hadv with ha | ha
      ·exact .inr (ha.fail (.inl rfl))
      ·exact .inr (ha.fail 1 (.inl rfl))
  ·have e1 : Qw QG (d + 1) s = (Nd.zero, s.fail 1) := by unfold Qw; rw [if_pos h.2.1]
   rw [e1]
   exact ⟨.inr (h.fail 1 (QbI.term _ _ h.2.2.2)), fun e => absurd e (Qbr s 1 Yg)⟩
theorem Qrb (p : PS) (t : Str) (h : p.bad = true) : (p.close t).bad = true := by unfold PS.close; rw [if_pos h]; exact h
theorem QoL (d : Nat) (p : PS) (h : (QQ d p).2.bad = false) : (QQ d p).2.l.length < p.l.length := by
 cases d with
 | zero => cases h
 | succ d =>
  have hp : ∀ x r, p.l = x :: r → p.pop.l.length < p.l.length := fun x r e => by simp [PS.pop, e]
  unfold QQ at h ⊢
  split at h
  ·cases h
  ·cases h
  ·rename_i c r q hl
   have h1 := hp _ _ hl
   simp only [hl] at h1 ⊢
   split at h
   ·rw [if_pos Ye]; exact h1
   rw [if_neg Ye]
   split at h
   ·rw [if_pos Ye, (Qqb _ _).1]; exact h1
   rw [if_neg Ye]
   split at h
   ·rw [if_pos Ye]; exact h1
   rw [if_neg Ye]
   split at h
   ·cases h
   rw [if_neg Ye]
   split at h
   ·rw [if_pos Ye]
    have h2 := QeJ (Qce d) [41] p.pop.pop
    have h3 := Qi5 p.pop
    simp only
    omega
   ·rw [if_neg Ye]; exact h1
theorem Qur (p : PS) : (QaM p).2.l.length ≤ p.l.length := by
 unfold QaM
 split
 ·have h1 := QeJ (Qce 24) [46] p.pop
  have h2 := Qi5 p
  unfold QaU
  omega
 ·exact Qkh p _
theorem QsZ (p : PS) (h : p.bad = true) : (QaM p).2.bad = true := by
 unfold QaM
 rw [if_neg (by simp [h])]
 exact Qrb p _ h
def Qp (p : PS) : Cl × PS :=
 let h := QQ 24 { p with vars := [] }
 let q := QaM h.2
 (⟨h.1.k, h.1.n, ⟨h.1.s.toArray⟩, h.1.ar, Qbw q.1, (q.2.vars.length : Nat)⟩, q.2)
theorem QdL (p : PS) (h : (Qp p).2.bad = false) : (Qp p).2.l.length < p.l.length := by
 have h1 := Qur (QQ 24 { p with vars := [] }).2
 have h2 : (QQ 24 { p with vars := [] }).2.bad = false := by
  cases hb : (QQ 24 { p with vars := [] }).2.bad with
  | false => rfl
  | true =>
   have := QsZ _ hb
   rw [show (QaM (QQ 24 { p with vars := [] }).2).2.bad = (Qp p).2.bad from rfl, h] at this
   cases this
 have h3 := QoL 24 _ h2
 show (QaM (QQ 24 { p with vars := [] }).2).2.l.length < _
 have e : ({ p with vars := [] } : PS).l = p.l := rfl
 rw [e] at h3
 omega
def Qam : Nat → PS → Option (List Cl)
 | 0, p => some []
 | n + 1, p => if p.l = [] then some [] else
     if (Qp p).2.bad = true ∨ cB (Qp p).1 = false then none
     else (Qam n (Qp p).2).map ((Qp p).1 :: ·)
theorem QkZ : ∀ (n : Nat) (p : PS), p.l.length ≤ n → Qam n p = Qam p.l.length p := by
 intro n
 induction n using Nat.strongRecOn with
 | _ n ih =>
  intro p hn
  cases n with
  | zero => rw [Nat.le_zero.1 hn]
  | succ n =>
   cases hl : p.l with
   | nil => simp [Qam, hl]
   | cons x r =>
    have hne : p.l ≠ [] := by rw [hl]; simp
    rw [hl] at hn
    simp only [List.length_cons] at hn ⊢
    simp only [Qam, hne, if_false]
    split
    ·rfl
    ·rename_i hb
     have h1 := QdL p (by simp only [not_or] at hb; simpa using hb.1)
     rw [hl] at h1
     simp only [List.length_cons] at h1
     by_cases e : n = r.length
     ·rw [e]
     ·rw [ih n Ya _ Ya, ih r.length Ya _ Ya]
theorem QdJ {p : PS} (hne : p.l ≠ []) (hb : ¬ ((Qp p).2.bad = true ∨ cB (Qp p).1 = false)) : Qam p.l.length p = (Qam (Qp p).2.l.length (Qp p).2).map ((Qp p).1 :: ·) := by
 have h1 := QdL p (by simp only [not_or] at hb; simpa using hb.1)
 cases hl : p.l with
 | nil => exact absurd hl hne
 | cons x r =>
  rw [hl] at h1
  simp only [List.length_cons] at h1 ⊢
  simp only [Qam, hne, if_false, if_neg hb]
  rw [QkZ r.length _ Ya]
theorem QdK {p : PS} (hne : p.l ≠ []) (hb : (Qp p).2.bad = true ∨ cB (Qp p).1 = false) : Qam p.l.length p = none := by
 cases hl : p.l with
 | nil => exact absurd hl hne
 | cons x r => simp only [List.length_cons, Qam, hne, if_false, if_pos hb]
theorem QhA {p : PS} (h : p.l = []) : Qam p.l.length p = some [] := by rw [h]; rfl
theorem QbI.body {p : PS} (h : QbI p) : QbI (QaM p).2 := by
 unfold QaM
 split
 ·rename_i hh; exact QbI.terms (QbI.term 24) [46] (by simp [QiC]) _ (h.has hh.2 (by simp [QiC]))
 ·exact h.close (by simp [QiC])
theorem QbI.clause {p : PS} (h : QbI p) : QbI (Qp p).2 := QbI.body (QbI.term 24 _ (show QbI { p with vars := [] } from h))
theorem QbI.prog : ∀ (n : Nat) (p : PS), p.l.length ≤ n → p.bad = false → QbI p → Qam p.l.length p = none := by
 intro n
 induction n with
 | zero =>
  intro p hn hb h
  rcases h with h | ⟨x, hx, _⟩
  ·rw [hb] at h; cases h
  ·have := List.length_pos_of_mem hx; omega
 | succ n ih =>
  intro p hn hb h
  have hne : p.l ≠ [] := by
   rcases h with h | ⟨x, hx, _⟩
   ·rw [hb] at h; cases h
   ·intro e; rw [e] at hx; simp at hx
  by_cases hc : (Qp p).2.bad = true ∨ cB (Qp p).1 = false
  ·exact QdK hne hc
  ·have h0 : (Qp p).2.bad = false := by simp only [not_or] at hc; simpa using hc.1
   have h1 := QdL p h0
   rw [QdJ hne hc, ih _ Ya h0 h.clause]
   rfl
theorem Rel.body {s : RS} {p : PS} (h : Rel s p) : Rel ((QaW QG s).2.take [46]) (QaM p).2 ∧ (((QaW QG s).2.take [46]).err = 0 → (QaW QG s).1 = (QaM p).1) := by
 rcases h with h | h
 ·by_cases ht : s.token = [58, 45]
  ·have hp := (h.tok Yd).1 ht
   have e1 : QaW QG s = QL (Qw QG 24) s.adv := by unfold QaW; rw [if_pos ht]
   have e2 : QaM p = Qaf (QQ 24) [46] p.pop := by unfold QaM QaU; rw [if_pos ⟨h.2.1, hp⟩]
   rw [e1, e2]
   have h5 := (QfD 24).terms (QaY QG 24) (Qce 24) (Qbz QG 24) (QbI.term 24) [46] (by simp [QiC]) _ _ (h.adv (by rw [ht]; simp))
   exact ⟨h5.1, fun e => h5.2 (Qcd _ _ e).1⟩
  ·have e1 : QaW QG s = ([], s) := by unfold QaW; rw [if_neg ht]
   have e2 : QaM p = ([], p.close [46]) := by unfold QaM; rw [if_neg fun e => ht ((h.tok Yd).2 e.2)]
   rw [e1, e2]
   exact ⟨Rel.take (.inl h) (by simp [QiC]), fun _ => rfl⟩
 ·have e1 : QaW QG s = ([], s) := by unfold QaW; rw [if_neg (by rw [h.2.1]; simp)]
  rw [e1]
  have h2 := h.2.2.2.body
  have h3 : s.take [46] = (s.fail 1).adv := by unfold RS.take; rw [if_neg (by rw [h.2.1]; simp)]
  rw [h3]
  have h4 := (h.fail 1 h2).adv h2
  exact ⟨.inr h4, fun e => by have := h4.1; omega⟩
theorem Qfh {s : RS} (h : s.token = []) : QE QG s.left s = ([], s) := Qk5 QG h
theorem Rel.fresh {s : RS} {p : PS} (h : Rel s p) : Rel { s with vars := [] } { p with vars := [] } := by
 rcases h with h | h
 ·exact .inl ⟨h.1, h.2.1, rfl, h.2.2.2⟩
 ·exact .inr ⟨h.1, h.2.1, h.2.2.1, h.2.2.2⟩
theorem Rel.clause {s : RS} {p : PS} (h : Rel s p) : ∃ s3, (QS QG s).2 = (if cB (QS QG s).1 then s3 else s3.fail 1) ∧ Rel s3 (Qp p).2 ∧ (s3.err = 0 → (QS QG s).1 = (Qp p).1) := by
 have h1 := QfD 24 _ _ h.fresh
 have h2 := h1.1.body
 refine ⟨(QaW QG (Qw QG 24 { s with vars := [] }).2).2.take [46], rfl, h2.1, fun e => ?_⟩
 have hl := h2.1.live e
 have e1 := (Qcd _ _ e).1
 have e2 : (Qw QG 24 { s with vars := [] }).2.err = 0 := by
  unfold QaW at e1
  split at e1
  ·exact QbS _ (Qbz QG 24 _ (QeE (Qbz QG 24) _ e1))
  ·exact e1
 simp only [QS, Qp]
 rw [h1.2 e2, h2.2 e, hl.2.2.1]
theorem Qsn : ∀ (n : Nat) (s : RS) (p : PS), s.left ≤ n → p.bad = false → Rel s p →
  match Qam p.l.length p with
  | some L => (QE QG s.left s).1 = L ∧ (QE QG s.left s).2.err = 0
  | none => (QE QG s.left s).2.err = 1 := by
 intro n
 induction n with
 | zero =>
  intro s p hn hb h
  have ht : s.token = [] := by unfold RS.left at hn; exact List.eq_nil_of_length_eq_zero Ya
  rw [Qfh ht]
  rcases h with h | h
  ·rcases h.2.2.2 with ⟨_, _, h3⟩ | ⟨h1, _⟩
   ·rw [QhA h3]; exact ⟨rfl, h.1⟩
   ·exact absurd ht h1.1
  ·rw [QbI.prog _ p (Nat.le_refl _) hb h.2.2.2]; exact h.1
 | succ n ih =>
  intro s p hn hb h
  by_cases ht : s.token = []
  ·rw [Qfh ht]
   rcases h with h | h
   ·rcases h.2.2.2 with ⟨_, _, h3⟩ | ⟨h1, _⟩
    ·rw [QhA h3]; exact ⟨rfl, h.1⟩
    ·exact absurd ht h1.1
   ·rw [QbI.prog _ p (Nat.le_refl _) hb h.2.2.2]; exact h.1
  ·rw [Qk6 QG ht]
   have hlt := Qd2 QG s ht
   have hne : p.l ≠ [] := by
    rcases h with h | h
    ·rcases h.2.2.2 with ⟨h1, _, _⟩ | ⟨_, h3⟩
     ·exact absurd h1 ht
     ·rw [h3]; simp
    ·exact absurd h.2.1 ht
   obtain ⟨s3, e3, hr, heq⟩ := h.clause
   have hdead : ∀ s', s'.token = [] → s'.err = 1 → (QE QG s'.left s').2.err = 1 := fun s' h1 h2 => by rw [Qfh h1]; exact h2
   rcases hr with hl | hd
   ·rw [heq hl.1] at e3
    by_cases hc : cB (Qp p).1 = true
    ·rw [if_pos hc] at e3
     have hb2 : ¬ ((Qp p).2.bad = true ∨ cB (Qp p).1 = false) := by simp [hl.2.1, hc]
     rw [QdJ hne hb2, e3]
     have h5 := ih s3 (Qp p).2 (by rw [e3] at hlt; omega) hl.2.1 (.inl hl)
     cases hp : Qam (Qp p).2.l.length (Qp p).2 with
     | none => rw [hp] at h5; exact h5
     | some L =>
      rw [hp] at h5
      simp only [Option.map_some]
      exact ⟨by rw [heq hl.1, h5.1], h5.2⟩
    ·have hc' : cB (Qp p).1 = false := by simpa using hc
     rw [if_neg hc] at e3
     rw [QdK hne (.inr hc'), e3]
     exact hdead _ rfl (by simp [RS.fail, hl.1])
   ·have h6 : (QS QG s).2.token = [] ∧ (QS QG s).2.err = 1 := by
     rw [e3]
     split
     ·exact ⟨hd.2.1, hd.1⟩
     ·exact ⟨rfl, by simp [RS.fail, hd.1]⟩
    have h7 := hdead _ h6.1 h6.2
    have h8 : Qam p.l.length p = none := by
     by_cases hc : (Qp p).2.bad = true ∨ cB (Qp p).1 = false
     ·exact QdK hne hc
     ·have h0 : (Qp p).2.bad = false := by simp only [not_or] at hc; simpa using hc.1
      rw [QdJ hne hc, QbI.prog _ _ (Nat.le_refl _) h0 hd.2.2.2]
      rfl
    rw [h8]
    exact h7
def PS.start (l : Str) : PS := ⟨Qct l, [], false⟩
theorem QkT (l : Str) (h : ¬ 2000 < l.length) : Rel (RS.start l) (PS.start l) := by
 unfold RS.start
 rw [if_neg h]
 exact QrH rfl rfl rfl rfl
theorem QiP (l : Str) (h : 2000 < l.length) : (RS.start l).token = [] ∧ (RS.start l).err = 3 := by
 unfold RS.start
 rw [if_pos h]
 exact ⟨rfl, rfl⟩
def QeL (l : Str) : List Cl × Int :=
 if 2000 < l.length then ([], 3) else
 match Qam (PS.start l).l.length (PS.start l) with
 | none => ([], 1)
 | some L => if 24 < L.length then ([], 3) else (L, 0)
theorem Qmz (l : Str) : Qq QG l = QeL l := by
 unfold Qq QeL
 by_cases h : 2000 < l.length
 ·obtain ⟨h1, h2⟩ := QiP l h
  rw [if_pos h]
  have e : (if 24 < ([] : List Cl).length then (RS.start l).fail 3 else RS.start l) = RS.start l := if_neg Yg
  simp only [Qfh h1, e]
  rw [if_neg (by rw [h2]; decide), h2]
 ·rw [if_neg h]
  have h1 := Qsn _ (RS.start l) (PS.start l) (Nat.le_refl _) rfl (QkT l h)
  generalize QE QG (RS.start l).left (RS.start l) = q at h1 ⊢
  cases hp : Qam (PS.start l).l.length (PS.start l) with
  | none =>
   rw [hp] at h1
   simp only at h1 ⊢
   have e : (if 24 < q.1.length then q.2.fail 3 else q.2).err = 1 := by
    split
    ·simp [RS.fail, h1]
    ·exact h1
   rw [if_neg (by rw [e]; decide), e]
  | some L =>
   rw [hp] at h1
   simp only at h1 ⊢
   rw [h1.1]
   by_cases h24 : 24 < L.length
   ·rw [if_pos h24, if_pos h24]
    have e : (q.2.fail 3).err = 3 := by simp [RS.fail, h1.2]
    rw [if_neg (by rw [e]; decide), e]
   ·rw [if_neg h24, if_neg h24, if_pos h1.2]
def Qfg (l : Str) : Ts × Nat × Int :=
 if 2000 < l.length then (.nil, 0, 3) else
 let g := QaU (PS.start l)
 if g.2.bad = true ∨ g.2.l ≠ [] ∨ qB (g.2.vars.length : Nat) (Qbw g.1) = false then (.nil, 0, 1) else (Qbw g.1, g.2.vars.length, 0)
theorem Qk3 (l : Str) : QA QG l = Qfg l := by
 unfold QA Qfg
 by_cases h : 2000 < l.length
 ·obtain ⟨h1, h2⟩ := QiP l h
  rw [if_pos h]
  have e1 : (QL (Qw QG 24) (RS.start l)).2.err = 3 := by
   have e0 : (Qw QG 24 (RS.start l)).2 = (RS.start l).fail 1 := by unfold Qw; rw [if_pos h1]
   unfold QL
   simp only [e0]
   rw [QcN (by simp [RS.fail])]
   simp [RS.fail, h2]
  have e2 : ∀ s : RS, s.err = 3 → (s.take [46]).err = 3 := by
   intro s hs
   unfold RS.take RS.adv
   simp only
   split <;> split <;> simp [RS.fail, hs]
  have e3 := e2 _ e1
  simp only
  generalize (QL (Qw QG 24) (RS.start l)).2.take [46] = s at e3
  have e4 : ∀ b : Prop, ∀ _ : Decidable b, (if b then s else s.fail 1).err = 3 := by
   intro b _
   split
   ·exact e3
   ·simp [RS.fail, e3]
  rw [if_neg (by rw [e4]; decide), e4]
 ·rw [if_neg h]
  have h5 := (QfD 24).terms (QaY QG 24) (Qce 24) (Qbz QG 24) (QbI.term 24) [46] (by simp [QiC]) _ _ (QkT l h)
  have h6 : Rel ((QL (Qw QG 24) (RS.start l)).2.take [46]) (QaU (PS.start l)).2 := h5.1
  have h7 : ((QL (Qw QG 24) (RS.start l)).2.take [46]).err = 0 → (QL (Qw QG 24) (RS.start l)).1 = (QaU (PS.start l)).1 := fun e => h5.2 (Qcd _ _ e).1
  clear h5
  simp only
  generalize QaU (PS.start l) = g at *
  generalize QL (Qw QG 24) (RS.start l) = a at *
  generalize a.2.take [46] = s at *
  rcases h6 with hl | hd
  ·rw [h7 hl.1, hl.2.2.1]
   have htk : s.token = [] ↔ g.2.l = [] := by
    rcases hl.2.2.2 with ⟨h1, _, h3⟩ | ⟨h1, h3⟩
    ·simp [h1, h3]
    ·rw [h3]; simp [h1.1]
   by_cases hq : s.token = [] ∧ qB (g.2.vars.length : Nat) (Qbw g.1) = true
   ·rw [if_pos hq, if_pos hl.1, if_neg (by simp [hl.2.1, htk.1 hq.1, hq.2]), hl.2.2.1]
   ·have e : (s.fail 1).err = 1 := by simp [RS.fail, hl.1]
    rw [if_neg hq, if_neg (by rw [e]; decide), e, if_pos]
    by_cases ht : s.token = []
    ·right; right
     have : ¬ qB (g.2.vars.length : Nat) (Qbw g.1) = true := fun h => hq ⟨ht, h⟩
     simpa using this
    ·right; left; exact fun e => ht (htk.2 e)
  ·have e4 : ∀ b : Prop, ∀ _ : Decidable b, (if b then s else s.fail 1).err = 1 := by
    intro b _
    split
    ·exact hd.1
    ·simp [RS.fail, hd.1]
   rw [if_neg (by rw [e4]; decide), e4, if_pos]
   rcases hd.2.2.2 with h | ⟨x, hx, _⟩
   ·exact .inl h
   ·right; left; intro e; rw [e] at hx; simp at hx
def Qcc (w : World) (mb : Nat) (Qcq : List (Int × Value)) : Prop :=
 ∃ es clock, w.heap[mb]? = some (.map es clock) ∧ es.toList.map (fun e => (e.key, e.val)) = Qcq.map (fun x => (Value.int .i64 x.1, x.2))
def Qpm (n : Int) : List (Int × Value) → Option Value
 | [] => none
 | x :: r => if n = x.1 then some x.2 else Qpm n r
def QuE (n : Int) (v : Value) : List (Int × Value) → List (Int × Value)
 | [] => [(n, v)]
 | x :: r => if n = x.1 then (n, v) :: r else x :: QuE n v r
def Qoj (n : Int) : List (Int × Value) → Nat → Option (Nat × Value)
 | [], _ => none
 | x :: r, i => if n = x.1 then some (i, x.2) else Qoj n r (i + 1)
theorem QdV (n : Int) : MapKept.IsKey (.int .i64) (.int .i64 n) := by simp [MapKept.IsKey]
theorem QdZ (n : Int) : ∀ (es : List MapEntry) (Qcq : List (Int × Value)) (i : Nat), es.map (fun e => (e.key, e.val)) = Qcq.map (fun x => (Value.int .i64 x.1, x.2)) →
  Instr.findNow (.int .i64) (.int .i64 n) es i = some (Qoj n Qcq i)
 | [], [], i, _ => rfl
 | [], _ :: _, _, h => by simp at h
 | _ :: _, [], _, h => by simp at h
 | e :: es, x :: Qcq, i, h => by
  simp only [List.map_cons, List.cons.injEq, Prod.mk.injEq] at h
  obtain ⟨⟨h1, h2⟩, h3⟩ := h
  have ih := QdZ n es Qcq (i + 1) h3
  simp only [Instr.findNow, h1, Instr.sameNow, Qoj, if_true]
  by_cases e1 : n = x.1
  ·simp [e1, h2]
  ·have e2 : (n == x.1) = false := by simpa using e1
   rw [e2, if_neg e1, ← ih]
theorem Qif {n : Int} : ∀ {Qcq : List (Int × Value)} {i : Nat}, Qoj n Qcq i = none ↔ Qpm n Qcq = none
 | [], _ => by simp [Qoj, Qpm]
 | x :: r, i => by
  simp only [Qoj, Qpm]
  by_cases e : n = x.1
  ·simp [e]
  ·simp only [e, if_false]; exact Qif
theorem Ql2 {n : Int} : ∀ {Qcq : List (Int × Value)} {i j : Nat} {v : Value}, Qoj n Qcq i = some (j, v) → Qpm n Qcq = some v
 | [], _, _, _, h => by simp [Qoj] at h
 | x :: r, i, j, v, h => by
  simp only [Qoj, Qpm] at *
  by_cases e : n = x.1
  ·simp only [e, if_true, Option.some.injEq, Prod.mk.injEq] at h ⊢; exact h.2
  ·simp only [e, if_false] at h ⊢; exact Ql2 h
theorem Qic {n : Int} {v : Value} : ∀ {Qcq : List (Int × Value)}, Qpm n Qcq = none → QuE n v Qcq = Qcq ++ [(n, v)]
 | [], _ => rfl
 | x :: r, h => by
  simp only [Qpm] at h
  by_cases e : n = x.1
  ·simp [e] at h
  ·simp only [e, if_false] at h
   simp only [QuE, e, if_false, Qic h, List.cons_append]
theorem QlX {n : Int} {v u : Value} : ∀ {Qcq : List (Int × Value)} {i j : Nat}, Qoj n Qcq i = some (j, u) → i ≤ j ∧ (Qcq[j - i]?).map (·.1) = some n ∧ QuE n v Qcq = Qcq.set (j - i) (n, v)
 | [], _, _, h => by simp [Qoj] at h
 | x :: r, i, j, h => by
  simp only [Qoj, QuE] at *
  by_cases e : n = x.1
  ·simp only [e, if_true, Option.some.injEq, Prod.mk.injEq] at h
   obtain ⟨rfl, _⟩ := h
   simp [e]
  ·simp only [e, if_false] at h ⊢
   obtain ⟨h1, h2, h3⟩ := QlX (v := v) h
   have e1 : j - i = (j - (i + 1)) + 1 := by omega
   refine ⟨by omega, by rw [e1]; simpa using h2, by rw [h3, e1]; rfl⟩
section
variable {P : Program} {w : World} {mb : Nat} {Qcq : List (Int × Value)} {t kt et : TypeId}
theorem Qcc.lt (h : Qcc w mb Qcq) : mb < w.heap.size := by
 obtain ⟨es, clock, hb, _⟩ := h
 exact (Array.getElem?_eq_some_iff.1 hb).1
theorem Qcc.keep {w' : World} (h : Qcc w mb Qcq) (hk : w'.heap[mb]? = w.heap[mb]?) : Qcc w' mb Qcq := by
 obtain ⟨es, clock, hb, he⟩ := h
 exact ⟨es, clock, hk.trans hb, he⟩
theorem Qcc.made (w : World) : Qcc (w.alloc (.map #[] 0)) w.heap.size [] := ⟨#[], 0, heap_alloc_new w _, rfl⟩
theorem Qmo {P : Program} (t : TypeId) (w : World) : (Instr.makeMap t none).run P w = .ok (.map (some w.heap.size)) (w.alloc (.map #[] 0)) := by
 simp [Instr.makeMap, newObj, Sem.run]
theorem Qcc.lookup (h : Qcc w mb Qcq) {z : Value} (ht : P.underlying t = some (.map kt et)) (hk : P.underlying kt = some (.int .i64))
  (hz : (zeroValue et).run P w = .ok z w) (n : Int) (c : Bool) :
  (Instr.lookup t (.map (some mb)) (.int .i64 n) c).run P w = .ok (if c then .tuple #[(Qpm n Qcq).getD z, .bool (Qpm n Qcq).isSome] else (Qpm n Qcq).getD z) w := by
 obtain ⟨es, clock, hb, he⟩ := h
 have hf := QdZ n es.toList Qcq 0 he
 cases ha : Qoj n Qcq 0 with
 | none =>
  rw [ha] at hf
  simp [Instr.lookup, run_underlying ht, MapKept.run_getObj_map hb, MapKept.run_checkKey hk (QdV n), MapKept.run_findKey hk hf, hz, Result.andThen, Qif.1 ha]
 | some x =>
  rw [ha] at hf
  simp [Instr.lookup, run_underlying ht, MapKept.run_getObj_map hb, MapKept.run_checkKey hk (QdV n), MapKept.run_findKey hk hf, Result.andThen, Ql2 ha]
theorem Qcc.update (h : Qcc w mb Qcq) (ht : P.underlying t = some (.map kt et)) (hk : P.underlying kt = some (.int .i64)) (n : Int) (v : Value) :
  ∃ w', (Instr.mapUpdate t (.map (some mb)) (.int .i64 n) v).run P w = .ok () w' ∧ Qcc w' mb (QuE n v Qcq) ∧ Chg (fun k => k = mb) w w' ∧ w'.heap.size = w.heap.size := by
 have hlt := h.lt
 obtain ⟨es, clock, hb, he⟩ := h
 have hf := QdZ n es.toList Qcq 0 he
 cases ha : Qoj n Qcq 0 with
 | none =>
  rw [ha] at hf
  refine ⟨{ w with heap := w.heap.setIfInBounds mb (.map (es.push { key := .int .i64 n, val := v, born := clock }) (clock + 1)) }, ?_, ⟨_, _, (MapKept.heap_set hb).1, ?_⟩, ⟨rfl, rfl, rfl, by simp, fun k _ hn => (MapKept.heap_set hb).2 k hn⟩, by simp⟩
  ·simp [Instr.mapUpdate, run_underlying ht, MapKept.run_getObj_map hb, MapKept.run_checkKey hk (QdV n), MapKept.run_findKey hk hf, MapKept.run_setObj_map _ hb, Result.andThen]
  ·rw [Qic (Qif.1 ha), Array.toList_push, List.map_append, List.map_append, he]; rfl
 | some x =>
  obtain ⟨j, u⟩ := x
  rw [ha] at hf
  obtain ⟨_, h2, h3⟩ := QlX (v := v) ha
  simp only [Nat.sub_zero] at h2 h3
  have hent : ∃ e, es[j]? = some e ∧ e.key = .int .i64 n := by
   have h4 := congrArg (fun l => l[j]?) he
   simp only [List.getElem?_map] at h4
   cases h5 : Qcq[j]? with
   | none => rw [h5] at h2; simp at h2
   | some y =>
    rw [h5] at h2 h4
    simp only [Option.map_some, Option.some.injEq] at h2
    cases h6 : es[j]? with
    | none => simp [h6] at h4
    | some e =>
     simp [h6] at h4
     exact ⟨e, rfl, by rw [h4.1, h2]⟩
  obtain ⟨e, hj, hkey⟩ := hent
  refine ⟨{ w with heap := w.heap.setIfInBounds mb (.map (es.modify j fun e => { e with key := .int .i64 n, val := v }) clock) }, ?_, ⟨_, _, (MapKept.heap_set hb).1, ?_⟩, ⟨rfl, rfl, rfl, by simp, fun k _ hn => (MapKept.heap_set hb).2 k hn⟩, by simp⟩
  ·simp [Instr.mapUpdate, run_underlying ht, MapKept.run_getObj_map hb, MapKept.run_checkKey hk (QdV n), MapKept.run_findKey hk hf, hj, hkey, MapKept.run_keyThatStays (QdV n), MapKept.run_setObj_map _ hb, Result.andThen]
  ·rw [h3]
   apply List.ext_getElem?
   intro i
   have h4 := congrArg (fun l => l[i]?) he
   simp only [List.getElem?_map, Array.getElem?_toList] at h4
   simp only [List.getElem?_map, Array.getElem?_toList, Array.getElem?_modify, List.getElem?_set]
   by_cases hij : j = i
   ·subst hij
    have hjl : j < Qcq.length := by
     rcases Nat.lt_or_ge j Qcq.length with hl | hl
     ·exact hl
     ·rw [List.getElem?_eq_none hl] at h2; simp at h2
    simp [hj, hjl]
   ·simp [hij, h4]
theorem Qcc.size (h : Qcc w mb Qcq) : ∃ es clock, w.heap[mb]? = some (.map es clock) ∧ es.size = Qcq.length := by
 obtain ⟨es, clock, hb, he⟩ := h
 refine ⟨es, clock, hb, ?_⟩
 have := congrArg List.length he
 simpa using this
theorem Qcc.len (h : Qcc w mb Qcq) (ht : P.underlying t = some (.map kt et)) (ty : TypeId) : (Builtin.len_ #[t] ty #[.map (some mb)]).run P w = .ok (.int .i64 Qcq.length) w := by
 obtain ⟨es, clock, hb, hs⟩ := h.size
 simp [Builtin.len_, run_underlying ht, MapKept.run_getObj_map hb, Result.andThen, hs, goInt]
end
section
variable {P : Program} {n : Nat} {e : Env} {w : World} {Q : Exit → Act → World → Prop} {ops : Array Oper} {rest : List Oper} {ty : TypeId} {pos : String} {after : Array Edge} {d : Nat}
variable {M : List Nat} {w0 : World} {H H' : List (Nat × Obj)} {F : List (World → Prop)} {mb : Nat} {es : Array MapEntry} {clk : Nat} {Qcq : List (Int × Value)} {x y u : Operand} {v z : Value} {dst : Option Nat} {t kt : TypeId} {i : Int}
end
def pB (L : List Cl) : Bool := decide (L.length ≤ 24) && L.all cB
def QtM (w : World) (L : List Cl) (g : Nat) (sx : Value) (wr : World) : Prop := ∃ D R : List Cl, L = D ++ R ∧ g = R.length ∧ sx = .int .i64 D.length ∧ D.all cB = true ∧ Below w.heap.size w wr
section
variable {w w' : World} {p q : Nat → Prop}
end
end Go.Proofs.YthliapbflkfdiacGreatDoor
