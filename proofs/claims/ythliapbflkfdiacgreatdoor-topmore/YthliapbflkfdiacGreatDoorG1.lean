/- Steps of the proof. -/
import Derived.Test.YthliapbflkfdiacGreatDoorG0
import Derived.Deep.AppendSrc
import Derived.Room.Entries
import Derived.Test.YthliapbflkfdiacGreatDoorProg
import Derived.Lib.Builder
import Derived.Lib.UnsafeStr
import Derived.Deep.Draws
import Derived.Maps.AppendAt
namespace Go.Proofs.YthliapbflkfdiacGreatDoor
open Go.RowKit
set_option linter.unusedSimpArgs false
set_option linter.unusedVariables false
inductive Row (el sz : Nat) : Value → Nat → List Value → List (Nat × Obj) → Prop
 | nil_ : Row el sz (.slice none 0 0) 0 [] []
 | own_ {b len cap : Nat} {xs sp : List Value} (hx : xs.length = len * sz) (hc : (xs ++ sp).length = cap * sz) (hle : len ≤ cap) (hcp : 0 < cap) : Row el sz (.slice (some ⟨b, 0, none⟩) len cap) len xs [(b, .cells (xs ++ sp).toArray el)]
theorem Row.len_ {el sz len : Nat} {v : Value} {xs : List Value} {O : List (Nat × Obj)} (h : Row el sz v len xs O) : xs.length = len * sz := by
 cases h with
 | nil_ => simp
 | own_ hx _ _ _ => exact hx
theorem Row.form {el sz len : Nat} {v : Value} {xs : List Value} {O : List (Nat × Obj)} (h : Row el sz v len xs O) : ∃ A c, v = .slice A len c := by
 cases h with
 | nil_ => exact ⟨_, _, rfl⟩
 | own_ _ _ _ _ => exact ⟨_, _, rfl⟩
theorem Row.built {el sz b len : Nat} {xs : List Value} (hx : xs.length = len * sz) (hp : 0 < len) : Row el sz (.slice (some ⟨b, 0, none⟩) len len) len xs [(b, .cells xs.toArray el)] := by
 have := Row.own_ (el := el) (sz := sz) (b := b) (len := len) (cap := len) (xs := xs) (sp := []) hx (by simpa using hx) (Nat.le_refl _) hp
 simpa using this
section
variable {M : List Nat} {w0 w w' : World} {H H' : List (Nat × Obj)} {F : List (World → Prop)}
theorem St.perm (h : St M w0 H F w) (hp : H.Perm H') : St M w0 H' F w :=
 ⟨fun p hq => h.own p (hp.mem_iff.2 hq), (hp.pairwise_iff (fun {x y} hxy => Ne.symm hxy)).1 h.apart, h.ext, fun p hq => h.new p (hp.mem_iff.2 hq),
  fun φ hφ w2 hw => h.facts φ hφ w2 (hw.mono fun k _ hk => (hp.map _).mem_iff.2 hk)⟩
theorem St.sink {x : Nat × Obj} {L : List (Nat × Obj)} (h : St M w0 (x :: (L ++ H)) F w) : St M w0 (L ++ x :: H) F w := h.perm List.perm_middle.symm
theorem St.raise {x : Nat × Obj} {L : List (Nat × Obj)} (h : St M w0 (L ++ x :: H) F w) : St M w0 (x :: (L ++ H)) F w := h.perm List.perm_middle
theorem St.sink1 {x p : Nat × Obj} {L : List (Nat × Obj)} (h : St M w0 (x :: p :: (L ++ H)) F w) : St M w0 (p :: (L ++ x :: H)) F w := h.perm (List.perm_middle (l₁ := p :: L)).symm
theorem St.raise1 {x p : Nat × Obj} {L : List (Nat × Obj)} (h : St M w0 (p :: (L ++ x :: H)) F w) : St M w0 (x :: p :: (L ++ H)) F w := h.perm (List.perm_middle (l₁ := p :: L))
theorem St.raise2 {x y p : Nat × Obj} {L : List (Nat × Obj)} (h : St M w0 (y :: p :: (L ++ x :: H)) F w) : St M w0 (x :: y :: p :: (L ++ H)) F w := h.perm (List.perm_middle (l₁ := y :: p :: L))
theorem St.up3 {x y p : Nat × Obj} (h : St M w0 (x :: y :: p :: H) F w) : St M w0 (p :: x :: y :: H) F w := h.perm (List.perm_middle (l₁ := [x, y]))
theorem St.down3 {x y p : Nat × Obj} (h : St M w0 (p :: x :: y :: H) F w) : St M w0 (x :: y :: p :: H) F w := h.perm (List.perm_middle (l₁ := [x, y])).symm
theorem St.swap {x p : Nat × Obj} (h : St M w0 (x :: p :: H) F w) : St M w0 (p :: x :: H) F w := h.perm (List.Perm.swap _ _ _)
theorem St.dropL {L : List (Nat × Obj)} (h : St M w0 (L ++ H) F w) : St M w0 H F w := by
 induction L with
 | nil => exact h
 | cons x L ih => exact ih h.drop
end
theorem QbK {b : Nat} {ct : TypeId} : ∀ (vs : List Value) (o : Nat) (cs : List Value) (w : World), w.heap[b]? = some (.cells cs.toArray ct) → o + vs.length ≤ cs.length →
  (w.setCells b o vs).heap[b]? = some (.cells (cs.take o ++ vs ++ cs.drop (o + vs.length)).toArray ct) ∧ Ext [b] w (w.setCells b o vs)
 | [], o, cs, w, h, hl => by simp [World.setCells, h]; exact Ext.refl _ _
 | v :: r, o, cs, w, h, hl => by
  simp only [List.length_cons] at hl
  have h1 := Qhk h o v
  obtain ⟨h2, h3⟩ := QbK r (o + 1) (cs.set o v) _ h1 Yh
  refine ⟨?_, (Qhm b o v).trans h3⟩
  unfold World.setCells
  rw [h2]
  congr 3
  have ho : o < cs.length := by omega
  rw [List.take_set, List.drop_set, if_pos Ya]
  have : (cs.take (o + 1)).set o v = cs.take o ++ [v] := by
   rw [List.take_succ_eq_append_getElem ho, List.set_append_right _ _ Yh]
   simp [List.length_take, Nat.min_eq_left (Nat.le_of_lt ho)]
  rw [this, show o + 1 + r.length = o + (v :: r).length by simp; omega]
  simp
def QZ (l : Str) : List Value := l.map fun b => Value.int .u8 b.toNat
section
variable {P : Program} {n : Nat} {e : Env} {w : World} {Q : Exit → Act → World → Prop} {ops : Array Oper} {rest : List Oper} {ty : TypeId} {pos : String} {after : Array Edge} {d : Nat}
variable {M : List Nat} {w0 : World} {H H' : List (Nat × Obj)} {F : List (World → Prop)} {b : Nat} {x y : Operand} {v : Value} {t tx : TypeId}
theorem QoU {el len k c' : Nat} {xs ys : List Value} {O : List (Nat × Obj)} {i : TypeInfo} {z : Value} {sp' : List Value} (hS : St M w0 H F w) (hx : ev n e x = v) (hy : ev n e y = .slice (some ⟨b, 0, none⟩) k c')
  (hT : QC P t = some el) (hTx : QC P tx = some el) (hi : P.info? el = some i) (hz : i.zero = some z) (hzs : z.cells.size = i.size) (hrow : Row el i.size v len xs O) (hys : ys.length = k * i.size) (h1 : ys.all (·.oneCell') = true)
  (hP : H.Perm ((b, .cells (ys ++ sp').toArray el) :: (O ++ H'))) (hfit : 2 * (len + k) * i.bytes ≤ 281474976710656) (hbig : len + k ≤ 4611686018427387904) (hd : Nat.blt d n = true)
  (h : ∀ v' O' w', Row el i.size v' (len + k) (xs ++ ys) O' → St M w0 (O' ++ H') F w' → Lst P Q ops rest n ((d, v') :: e) w') :
  Lst P Q ops (⟨some d, .call ⟨.builtin .append, #[x, y], #[t, tx]⟩, ty, pos, after, none⟩ :: rest) n e w := by
 have hS := hS.perm hP
 have hb := hS.own _ (List.mem_cons_self ..)
 have hlen := hrow.len_
 have hsrc : ∀ w'', (∀ p ∈ ((b, Obj.cells (ys ++ sp').toArray el) :: (O ++ H')), w''.heap[p.1]? = some p.2) → Src P i.size tx (.slice (some ⟨b, 0, none⟩) k c') k ys w'' := fun w'' ho => by
  refine Src.ofSlice w'' (Qar hTx) ⟨b, 0, none⟩ k c' ys hys (fun j u hj => ?_) (fun u hu => List.all_eq_true.1 h1 u hu)
  have hjl : j < ys.length := by
   rcases Nat.lt_or_ge j ys.length with hl | hl
   ·exact hl
   ·rw [List.getElem?_eq_none hl] at hj; cases hj
  rw [Qaa, Qu (ho _ (List.mem_cons_self ..)), Nat.zero_add, List.getElem?_append_left hjl]; exact hj
 have hop : ∀ r w2, (Builtin.append_ #[t, tx] ty #[v, .slice (some ⟨b, 0, none⟩) k c']).run P w = .ok r w2 → (execOp (ev n e) ⟨some d, .call ⟨.builtin .append, #[x, y], #[t, tx]⟩, ty, pos, after, none⟩).run P w = .ok (.value r) w2 := by
  intro r w2 hr
  simp only [execOp, resolve, List.map_toArray, List.map_cons, List.map_nil, hx, hy, bind, pure, Sem.bind, invoke, builtin]
  rw [Sem.run_bind', hr]
  rfl
 have grow : ∀ (A : Option Addr) (cap : Nat), v = .slice A len cap → cap < len + k → (Builtin.firstCells i.size len (.slice A len cap)).run P w.drew = .ok xs.toArray w.drew → Lst P Q ops (⟨some d, .call ⟨.builtin .append, #[x, y], #[t, tx]⟩, ty, pos, after, none⟩ :: rest) n e w := by
  intro A cap hv hcap hold
  have hn := Go.Room.nextslicecap_le' hcap
  have hr := run_append_grow_src (P := P) w t tx ty el i z (Qar hT) hi hz A len cap xs hold (.slice (some ⟨b, 0, none⟩) k c') k ys (hsrc w hS.own) hcap Ya (Nat.le_trans (Nat.mul_le_mul_right _ hn) hfit)
  rw [← hv] at hr
  refine ZbS ?_
  have hcapn : len + k ≤ grownCap w (len + k) cap el := by unfold grownCap Question.cut; exact Nat.le_add_right _ _
  generalize grownCap w (len + k) cap el = nc at hcapn
  have hzc : (Builtin.zeroCells z.cells (nc - (len + k))) = (Builtin.zeroCells z.cells (nc - (len + k))).toList.toArray := by simp
  have hzl : (Builtin.zeroCells z.cells (nc - (len + k))).toList.length = (nc - (len + k)) * i.size := by simp [Builtin.zeroCells, hzs]
  generalize (Builtin.zeroCells z.cells (nc - (len + k))).toList = zl at hzc hzl
  rw [hzc]
  have hS2 := (hS.drew.alloc (.cells ((xs ++ ys) ++ zl).toArray el))
  rw [show (xs ++ ys).toArray ++ zl.toArray = ((xs ++ ys) ++ zl).toArray by simp]
  refine h _ [(w.heap.size, .cells ((xs ++ ys) ++ zl).toArray el)] _ (Row.own_ ?_ ?_ hcapn Ya) ?_
  ·rw [List.length_append, hlen, hys, Nat.add_mul]
  ·rw [List.length_append, List.length_append, hlen, hys, hzl, ← Nat.add_mul, ← Nat.add_mul]; congr 1; omega
  ·have h3 : St M w0 ((w.heap.size, .cells ((xs ++ ys) ++ zl).toArray el) :: (b, Obj.cells (ys ++ sp').toArray el) :: (O ++ H')) F _ := hS2
   have h4 := h3.perm (List.Perm.swap _ _ _)
   have h5 := h4.drop
   exact St.dropL (L := O) h5.sink
 cases hrow with
 | nil_ =>
  by_cases hk : k = 0
  ·subst hk
   obtain rfl : ys = [] := List.eq_nil_of_length_eq_zero (by simpa using hys)
   have hr : (Builtin.append_ #[t, tx] ty #[.slice none 0 0, .slice (some ⟨b, 0, none⟩) 0 c']).run P w = .ok (.slice none 0 0) w := by
    have hu := run_underlying (Qar hT) w
    have hu2 := run_underlying (Qar hTx) w
    have hs2 := (hsrc w hS.own).cells
    simp [Builtin.append_, hu, hu2, sizeOf, typeInfo, hi, Builtin.lenOf, hs2]
   refine Qa (hop _ _ hr) hd (h _ [] _ Row.nil_ hS.drop)
  ·exact grow none 0 rfl Ya (by simp [Builtin.firstCells, Sem.run, pure])
 | own_ hx2 hc2 hle hcp =>
  rename_i bl cap sp
  have hbl : w.heap[bl]? = some (.cells (xs ++ sp).toArray el) := hS.own (bl, _) Yd
  by_cases hroom : len + k ≤ cap
  ·have hcc : (xs ++ sp).length = cap * i.size := hc2
   have hfitc : len * i.size + ys.length ≤ (xs ++ sp).length := by rw [hcc, hys, ← Nat.add_mul]; exact Nat.mul_le_mul_right _ hroom
   have hr := run_append_room_src (P := P) w t tx ty el i (Qar hT) hi bl 0 len cap (.slice (some ⟨b, 0, none⟩) k c') k ys (hsrc w hS.own) hroom
    (fun j hj => by rw [Qu hbl, Nat.zero_add]; simp only [Option.isSome_iff_exists]; exact ⟨_, List.getElem?_eq_getElem Ya⟩) (fun j hj => by simp [World.frozen?, hbl])
   obtain ⟨hs1, hs2⟩ := QbK ys (0 + len * i.size) (xs ++ sp) w hbl Ya
   refine ZbS ?_
   have hu : Upd ((b, Obj.cells (ys ++ sp').toArray el) :: ([(bl, Obj.cells (xs ++ sp).toArray el)] ++ H')) bl (.cells (xs ++ sp).toArray el) (.cells ((xs ++ sp).take (0 + len * i.size) ++ ys ++ (xs ++ sp).drop (0 + len * i.size + ys.length)).toArray el)
     ((b, Obj.cells (ys ++ sp').toArray el) :: (bl, .cells ((xs ++ sp).take (0 + len * i.size) ++ ys ++ (xs ++ sp).drop (0 + len * i.size + ys.length)).toArray el) :: H') := .tail .head
   have h3 := (hS.turn hu hs2 hs1).drop
   have e1 : (xs ++ sp).take (0 + len * i.size) = xs := by rw [Nat.zero_add, ← hx2]; simp
   have e2 : (xs ++ sp).drop (0 + len * i.size + ys.length) = sp.drop ys.length := by
    rw [Nat.zero_add, ← hx2]; simp [List.drop_append]
   rw [e1, e2] at h3
   refine h _ _ _ (Row.own_ (b := bl) (sp := sp.drop ys.length) ?_ ?_ hroom hcp) h3
   ·rw [List.length_append, hx2, hys, Nat.add_mul]
   ·simp only [List.length_append, List.length_drop] at hcc hfitc ⊢
    omega
  ·refine grow _ cap rfl Ya ?_
   have := run_firstCells_some (P := P) w.drew i.size len ⟨bl, 0, none⟩ len cap xs hx2 (fun j u hj => ?_)
   ·exact this
   ·have hjl : j < xs.length := by
     rcases Nat.lt_or_ge j xs.length with hl | hl
     ·exact hl
     ·rw [List.getElem?_eq_none hl] at hj; cases hj
    rw [Qaa, Qu (w := w.drew) hbl, Nat.zero_add, List.getElem?_append_left hjl]; exact hj
def Qsk (P : Program) (el : TypeId) : Option (Nat × Nat) := match P.info? el with
 | some i => match i.zero with
  | some z => bif Nat.beq z.cells.toList.length i.size then some (i.size, i.bytes) else none
  | none => none
 | none => none
theorem Qa0 {el sz bts : Nat} (h : Qsk P el = some (sz, bts)) : ∃ i z, P.info? el = some i ∧ i.zero = some z ∧ z.cells.size = i.size ∧ i.size = sz ∧ i.bytes = bts := by
 unfold Qsk at h
 split at h
 ·rename_i i hi
  split at h
  ·rename_i z hz
   cases hb : Nat.beq z.cells.toList.length i.size with
   | false => rw [hb] at h; cases h
   | true =>
    rw [hb] at h
    simp only [cond_true, Option.some.injEq, Prod.mk.injEq] at h
    exact ⟨i, z, hi, hz, by simpa using Nat.eq_of_beq_eq_true hb, h.1, h.2⟩
  ·cases h
 ·cases h
theorem Qa8 {el len k c' sz bts : Nat} {xs ys : List Value} {O : List (Nat × Obj)} (hS : St M w0 H F w) (hx : ev n e x = v) (hy : ev n e y = .slice (some ⟨b, 0, none⟩) k c')
  (hT : QC P t = some el) (hTx : QC P tx = some el) (hi : Qsk P el = some (sz, bts)) (hrow : Row el sz v len xs O) (hys : ys.length = k * sz) (h1 : ys.all (·.oneCell') = true)
  (hP : H.Perm ((b, .cells ys.toArray el) :: (O ++ H'))) (hfit : 2 * (len + k) * bts ≤ 281474976710656) (hbig : len + k ≤ 4611686018427387904) (hd : Nat.blt d n = true)
  (h : ∀ v' O' w', Row el sz v' (len + k) (xs ++ ys) O' → St M w0 (O' ++ H') F w' → Lst P Q ops rest n ((d, v') :: e) w') :
  Lst P Q ops (⟨some d, .call ⟨.builtin .append, #[x, y], #[t, tx]⟩, ty, pos, after, none⟩ :: rest) n e w := by
 obtain ⟨i, z, h2, h3, h4, rfl, rfl⟩ := Qa0 hi
 exact QoU (sp' := []) hS hx hy hT hTx h2 h3 h4 hrow hys h1 (by simpa using hP) hfit hbig hd h
theorem QdY {f : FuncId} {R : Ending → World → Prop} {k : List Item} {fn : Func} {a sz : Nat} {o : Nat} {cs vs : List Value} {ct : TypeId} (hS : St M w0 H F w) (hf : P.funcs[f]? = some fn) (hr : fn.results = #[.cell a t]) (hv : ev n e (.tmp a) = .pointer (some ⟨b, o, none⟩))
  (hA : QeW P t = some true) (hs : QaD P t = some sz) (hb : At H b (.cells cs.toArray ct)) (hc : Cut cs o sz vs) (hR : R (.returned (.agg vs.toArray)) w) : Qau P f R (.code .ret :: k) (act n e) w := by
 unfold Qau
 intro fr cs' hb' hk
 refine ⟨.returned (.agg vs.toArray), w, { fr.at (act n e) (.code .ret :: k) with mode := .returning }, hR, Steps.one step_ret, hb', rfl, rfl, hk, fn, ?_, ?_⟩
 ·show P.funcs[fr.fn]? = some fn
  rw [hb']; exact hf
 ·show (results fn (arr n e)).run P w = _
  have h1 := Qci (w := w) hA
  have h2 := Qac (w := w) hs
  have h3 := run_loadCells_list (P := P) (w := w) ⟨b, o, none⟩ vs (fun j v hj => by
   rw [Qaa, Qu (hS.at_ hb)]
   have hjk : j < sz := by
    rcases Nat.lt_or_ge j sz with h | h
    ·exact h
    ·rw [List.getElem?_eq_none (by rw [hc.length]; exact h)] at hj; cases hj
   rw [hc.get j hjk]; exact hj)
  rw [hc.length] at h3
  have hv' : (arr n e).getD a undef = .pointer (some ⟨b, o, none⟩) := by rw [QaA]; exact hv
  simp only [Array.getD_eq_getD_getElem?] at hv'
  simp only [results, hr]
  simp [hv', asAddr, loadVar, h1, h2, h3]
theorem QjW {el len k : Nat} {l : Str} {xs : List Value} {O : List (Nat × Obj)} {i : TypeInfo} {z : Value} (hS : St M w0 H F w) (hx : ev n e x = v) (hy : ev n e y = sv l) (hk : l.length = k)
  (hT : QC P t = some el) (hTx : QaF P tx = true) (hz1 : i.size = 1) (hi : P.info? el = some i) (hz : i.zero = some z) (hzs : z.cells.size = i.size) (hrow : Row el i.size v len xs O) (hP : H.Perm (O ++ H')) (hfit : 2 * (len + k) * i.bytes ≤ 281474976710656) (hbig : len + k ≤ 4611686018427387904) (hd : Nat.blt d n = true)
  (h : ∀ v' O' w', Row el i.size v' (len + k) (xs ++ QZ l) O' → St M w0 (O' ++ H') F w' → Lst P Q ops rest n ((d, v') :: e) w') :
  Lst P Q ops (⟨some d, .call ⟨.builtin .append, #[x, y], #[t, tx]⟩, ty, pos, after, none⟩ :: rest) n e w := by
 have hS := hS.perm hP
 have hlen := hrow.len_
 generalize hy2 : QZ l = ys at h
 have hys : ys.length = k * i.size := by rw [← hy2, hz1, ← hk]; simp [QZ]
 have hsrc : ∀ w'' : World, Src P i.size tx (sv l) k ys w'' := fun w'' => by
  have h := Src.ofString (P := P) w'' (tx := tx) (QfS hTx) ⟨l.toArray⟩
  rw [Qbk, hk] at h
  rw [hz1, ← hy2]
  have e : byteCells ⟨l.toArray⟩ = QZ l := by simp [byteCells, QZ]
  rw [e] at h
  exact h
 have hop : ∀ r w2, (Builtin.append_ #[t, tx] ty #[v, sv l]).run P w = .ok r w2 → (execOp (ev n e) ⟨some d, .call ⟨.builtin .append, #[x, y], #[t, tx]⟩, ty, pos, after, none⟩).run P w = .ok (.value r) w2 := by
  intro r w2 hr
  simp only [execOp, resolve, List.map_toArray, List.map_cons, List.map_nil, hx, hy, bind, pure, Sem.bind, invoke, builtin]
  rw [Sem.run_bind', hr]
  rfl
 have grow : ∀ (A : Option Addr) (cap : Nat), v = .slice A len cap → cap < len + k → (Builtin.firstCells i.size len (.slice A len cap)).run P w.drew = .ok xs.toArray w.drew → Lst P Q ops (⟨some d, .call ⟨.builtin .append, #[x, y], #[t, tx]⟩, ty, pos, after, none⟩ :: rest) n e w := by
  intro A cap hv hcap hold
  have hn := Go.Room.nextslicecap_le' hcap
  have hr := run_append_grow_src (P := P) w t tx ty el i z (Qar hT) hi hz A len cap xs hold (sv l) k ys (hsrc w) hcap Ya (Nat.le_trans (Nat.mul_le_mul_right _ hn) hfit)
  rw [← hv] at hr
  refine ZbS ?_
  have hcapn : len + k ≤ grownCap w (len + k) cap el := by unfold grownCap Question.cut; exact Nat.le_add_right _ _
  generalize grownCap w (len + k) cap el = nc at hcapn
  have hzc : (Builtin.zeroCells z.cells (nc - (len + k))) = (Builtin.zeroCells z.cells (nc - (len + k))).toList.toArray := by simp
  have hzl : (Builtin.zeroCells z.cells (nc - (len + k))).toList.length = (nc - (len + k)) * i.size := by simp [Builtin.zeroCells, hzs]
  generalize (Builtin.zeroCells z.cells (nc - (len + k))).toList = zl at hzc hzl
  rw [hzc]
  have hS2 := (hS.drew.alloc (.cells ((xs ++ ys) ++ zl).toArray el))
  rw [show (xs ++ ys).toArray ++ zl.toArray = ((xs ++ ys) ++ zl).toArray by simp]
  refine h _ [(w.heap.size, .cells ((xs ++ ys) ++ zl).toArray el)] _ (Row.own_ ?_ ?_ hcapn Ya) ?_
  ·rw [List.length_append, hlen, hys, Nat.add_mul]
  ·rw [List.length_append, List.length_append, hlen, hys, hzl, ← Nat.add_mul, ← Nat.add_mul]; congr 1; omega
  ·have h5 : St M w0 ((w.heap.size, .cells ((xs ++ ys) ++ zl).toArray el) :: (O ++ H')) F _ := hS2
   exact St.dropL (L := O) h5.sink
 cases hrow with
 | nil_ =>
  by_cases hk0 : k = 0
  ·subst hk0
   have hl0 : l = [] := List.eq_nil_of_length_eq_zero hk
   have hye : ys = [] := List.eq_nil_of_length_eq_zero (by simpa using hys)
   rw [hye] at h
   have hr : (Builtin.append_ #[t, tx] ty #[.slice none 0 0, sv l]).run P w = .ok (.slice none 0 0) w := by
    have hu := run_underlying (Qar hT) w
    have hu2 := run_underlying (QfS hTx) w
    subst hl0
    simp [Builtin.append_, hu, hu2, sizeOf, typeInfo, hi, Builtin.lenOf, Builtin.firstCells, Qbk]
   refine Qa (hop _ _ hr) hd (h _ [] _ Row.nil_ hS)
  ·exact grow none 0 rfl Ya (by simp [Builtin.firstCells, Sem.run, pure])
 | own_ hx2 hc2 hle hcp =>
  rename_i bl cap sp
  have hbl : w.heap[bl]? = some (.cells (xs ++ sp).toArray el) := hS.own (bl, _) Yd
  by_cases hroom : len + k ≤ cap
  ·have hcc : (xs ++ sp).length = cap * i.size := hc2
   have hfitc : len * i.size + ys.length ≤ (xs ++ sp).length := by rw [hcc, hys, ← Nat.add_mul]; exact Nat.mul_le_mul_right _ hroom
   have hr := run_append_room_src (P := P) w t tx ty el i (Qar hT) hi bl 0 len cap (sv l) k ys (hsrc w) hroom
    (fun j hj => by rw [Qu hbl, Nat.zero_add]; simp only [Option.isSome_iff_exists]; exact ⟨_, List.getElem?_eq_getElem Ya⟩) (fun j hj => by simp [World.frozen?, hbl])
   obtain ⟨hs1, hs2⟩ := QbK ys (0 + len * i.size) (xs ++ sp) w hbl Ya
   refine ZbS ?_
   have hu : Upd ([(bl, Obj.cells (xs ++ sp).toArray el)] ++ H') bl (.cells (xs ++ sp).toArray el) (.cells ((xs ++ sp).take (0 + len * i.size) ++ ys ++ (xs ++ sp).drop (0 + len * i.size + ys.length)).toArray el)
     ((bl, .cells ((xs ++ sp).take (0 + len * i.size) ++ ys ++ (xs ++ sp).drop (0 + len * i.size + ys.length)).toArray el) :: H') := .head
   have h3 := hS.turn hu hs2 hs1
   have e1 : (xs ++ sp).take (0 + len * i.size) = xs := by rw [Nat.zero_add, ← hx2]; simp
   have e2 : (xs ++ sp).drop (0 + len * i.size + ys.length) = sp.drop ys.length := by
    rw [Nat.zero_add, ← hx2]; simp [List.drop_append]
   rw [e1, e2] at h3
   refine h _ _ _ (Row.own_ (b := bl) (sp := sp.drop ys.length) ?_ ?_ hroom hcp) h3
   ·rw [List.length_append, hx2, hys, Nat.add_mul]
   ·simp only [List.length_append, List.length_drop] at hcc hfitc ⊢
    omega
  ·refine grow _ cap rfl Ya ?_
   have := run_firstCells_some (P := P) w.drew i.size len ⟨bl, 0, none⟩ len cap xs hx2 (fun j u hj => ?_)
   ·exact this
   ·have hjl : j < xs.length := by
     rcases Nat.lt_or_ge j xs.length with hl | hl
     ·exact hl
     ·rw [List.getElem?_eq_none hl] at hj; cases hj
    rw [Qaa, Qu (w := w.drew) hbl, Nat.zero_add, List.getElem?_append_left hjl]; exact hj
theorem Qjd {el len : Nat} {l : Str} {xs : List Value} {O : List (Nat × Obj)} (hS : St M w0 H F w) (hx : ev n e x = v) (hy : ev n e y = sv l)
  (hT : QC P t = some el) (hTx : QaF P tx = true) (hi : Qsk P el = some (1, 1)) (hrow : Row el 1 v len xs O)
  (hP : H.Perm (O ++ H')) (hfit : len + l.length ≤ 140737488355328) (hd : Nat.blt d n = true)
  (h : ∀ v' O' w', Row el 1 v' (len + l.length) (xs ++ QZ l) O' → St M w0 (O' ++ H') F w' → Lst P Q ops rest n ((d, v') :: e) w') :
  Lst P Q ops (⟨some d, .call ⟨.builtin .append, #[x, y], #[t, tx]⟩, ty, pos, after, none⟩ :: rest) n e w := by
 obtain ⟨i, z, h2, h3, h4, h5, h6⟩ := Qa0 hi
 refine QjW hS hx hy rfl hT hTx h5 h2 h3 h4 (by rw [h5]; exact hrow) hP (by rw [h6]; omega) Ya hd ?_
 rw [h5]; exact h
end
set_option maxRecDepth 100000
set_option maxHeartbeats 1000000
section
variable {P : Program} {n : Nat} {e : Env} {w : World} {ty : TypeId} {pos : String} {after : Array Edge} {x y : Operand} {dst : Option Nat} {t t2 el : TypeId} {a : Addr}
theorem Qgy {j : TypeInfo} (hx : ev n e x = .pointer (some a)) (hy : ev n e y = .pointer (some a)) (hT : QhQ P t = some el) (hi : P.info? el = some j) :
  (execOp (ev n e) ⟨dst, .binOp .neq t x y t2, ty, pos, after, none⟩).run P w = .ok (.value (.bool false)) w := by
 have h1 := Lib.run_neq_ptr_same (P := P) w a (Qvq hT) hi
 have h2 : (execOp (ev n e) ⟨dst, .binOp .neq t x y t2, ty, pos, after, none⟩) = (binOp .neq t (.pointer (some a)) (.pointer (some a))).bind fun r => .pure (.value r) := by
  simp only [execOp, hx, hy, eqGuard]
  simp only [bind, pure, Bool.not_true, Bool.false_eq_true, if_false, Sem.bind]
 rw [h2, Sem.run_bind', h1]
 rfl
theorem Qez {u v : Value} {src dt : TypeId} (hx : ev n e x = u) (h : (convert src dt u).run P w = .ok v w) : (execOp (ev n e) ⟨dst, .convert src dt x, ty, pos, after, none⟩).run P w = .ok (.value v) w := by
 subst hx
 show (Sem.bind (convert _ _ _) _).run _ _ = _
 rw [Sem.run_bind', h]
 rfl
theorem Qb7 {u v : Value} {ts : Array TypeId} (hx : ev n e x = u) (h : (Builtin.unsafeSliceData_ ts ty #[u]).run P w = .ok v w) : (execOp (ev n e) ⟨dst, .call ⟨.builtin .unsafeSliceData, #[x], ts⟩, ty, pos, after, none⟩).run P w = .ok (.value v) w := by
 simp only [execOp, resolve, List.map_toArray, List.map_cons, List.map_nil, hx, bind, pure, Sem.bind, invoke, builtin]
 rw [Sem.run_bind', h]
 rfl
theorem Qc5 {u v r : Value} {ts : Array TypeId} {w' : World} (hx : ev n e x = u) (hy : ev n e y = v) (h : (Builtin.unsafeString_ ts ty #[u, v]).run P w = .ok r w') : (execOp (ev n e) ⟨dst, .call ⟨.builtin .unsafeString, #[x, y], ts⟩, ty, pos, after, none⟩).run P w = .ok (.value r) w' := by
 simp only [execOp, resolve, List.map_toArray, List.map_cons, List.map_nil, hx, hy, bind, pure, Sem.bind, invoke, builtin]
 rw [Sem.run_bind', h]
 rfl
theorem Qms {g : FuncId} {fn : Func} {ex : Array Value → Sem Value} {u v : Value} {ar : Array Operand} {ts : Array TypeId} (ha : ar.map (ev n e) = #[u]) (hf : P.funcs[g]? = some fn) (hname : (fn.name == "runtime.NumGoroutine") = false) (hb : fn.body.isNone = true) (hn : Extern.findNext fn = none) (he : Extern.find fn = some ex)
  (h : (ex #[u]).run P w = .ok v w) : (execOp (ev n e) ⟨dst, .call ⟨.value (.func g), ar, ts⟩, ty, pos, after, none⟩).run P w = .ok (.value v) w := by
 have h1 := run_callFunc_extern hf hname hb hn he #[u] w
 rw [h] at h1
 rw [← ha] at h1
 simpa [execOp, resolve, ev, Deferred.ofValue, invoke, bind, Sem.bind, pure, Sem.run] using h1
end
abbrev QeM (b : Nat) : Value := .pointer (some ⟨b, 0, none⟩)
abbrev prn (p B V : Value) : Obj := .cells [p, B, V].toArray 165
def Ql6 (b : Nat) (p : Value) : Prop := p = .pointer none ∨ p = QeM b
section
variable {M : List Nat} {w0 : World} {H : List (Nat × Obj)} {F : List (World → Prop)} {b : Nat}
theorem Qe9 {w : World} {cs : List Value} {ct : TypeId} (h : w.heap[b]? = some (.cells cs.toArray ct)) : w.shape? b = some (ct, cs.length) := by simp [World.shape?, h]
theorem Qfz (p : Value) (A A2 : Option Addr) (l c l2 c2 : Nat) (w : World) (hp : Ql6 b p) (hS : St M w0 ((b, prn p (.slice A l c) (.slice A2 l2 c2)) :: H) F w) :
  Calls Tryz.prog 107 #[QeM b] w fun e w' => e = .returned (.tuple #[]) ∧ St M w0 ((b, prn (QeM b) (.slice A l c) (.slice A2 l2 c2)) :: H) F w' := by
 have hsh := Qe9 (hS.at_ .head)
 rcases hp with rfl | rfl
 ·refine Zd7 ?_
  refine ZcY ?_
  refine Zd8 ?_
  refine Zcm ?_
  refine Zfp ?_
  refine Zfq ?_
  refine Zfr ?_
  refine Zal ?_
  refine Zt ?_
  clear hS
  intro wx1 hS
  refine Zb ?_
  refine QD Tryz.func107 rfl ?_
  exact ⟨rfl, hS⟩
 ·refine Zd7 ?_
  refine ZcY ?_
  refine Zd8 ?_
  refine ZeF ?_
  refine Zak ?_
  refine ZbB ?_
  refine Zfs ?_
  refine Zq ?_
  refine QD Tryz.func107 rfl ?_
  exact ⟨rfl, hS⟩
abbrev Buf (l : Str) (B : Value) (O : List (Nat × Obj)) : Prop := Row 5 1 B l.length (QZ l) O
theorem Qg2 (p B V : Value) (l x : Str) (O : List (Nat × Obj)) (A2 : Option Addr) (l2 c2 : Nat) (hV : V = .slice A2 l2 c2) (w : World) (hp : Ql6 b p) (hB : Buf l B O) (hl : l.length + x.length ≤ 1099511627776) (hS : St M w0 ((b, prn p B V) :: (O ++ H)) F w) :
  Calls Tryz.prog 66 #[QeM b, sv x] w fun e w' => ∃ B' O', e = .returned (.tuple #[.int .i64 (x.length : Nat), .nilIface]) ∧ Buf (l ++ x) B' O' ∧ St M w0 ((b, prn (QeM b) B' V) :: (O' ++ H)) F w' := by
 subst hV
 obtain ⟨A, c, rfl⟩ := hB.form
 refine Qg Tryz.func66 rfl Tryz.ntmps66 rfl ?_
 refine ZcZ ?_
 refine ZG ?_
 refine Calls.mono (Qfz p A A2 _ c l2 c2 _ hp hS) ?_
 rintro _ w1 ⟨rfl, hS'⟩
 refine Za ?_
 replace hS := hS'
 clear hS'
 refine ZbC ?_
 refine Za8 ?_
 refine ZbB ?_
 refine Qjd hS Yb rfl rfl rfl rfl hB List.perm_middle.symm Ya rfl ?_
 clear hS
 intro B' O' w2 hB' hS
 replace hS := hS.raise
 obtain ⟨A', c', rfl⟩ := hB'.form
 refine Zc0 ?_
 clear hS
 intro wx1 hS
 refine Zbn ?_
 refine Za5 ?_
 refine Zl ?_
 refine Qa3 Tryz.func66 rfl Yb Yb ?_
 refine ⟨_, O', rfl, ?_, hS⟩
 show Row _ _ _ (l ++ x).length (QZ (l ++ x)) _
 rw [List.length_append, show QZ (l ++ x) = QZ l ++ QZ x by simp [QZ]]; exact hB'
theorem Qc0 (p B V : Value) (l : Str) (c : UInt8) (O : List (Nat × Obj)) (A2 : Option Addr) (l2 c2 : Nat) (hV : V = .slice A2 l2 c2) (w : World) (hp : Ql6 b p) (hB : Buf l B O) (hl : l.length + 1 ≤ 1099511627776) (hS : St M w0 ((b, prn p B V) :: (O ++ H)) F w) :
  Calls Tryz.prog 65 #[QeM b, .int .u8 c.toNat] w fun e w' => ∃ B' O', e = .returned .nilIface ∧ Buf (l ++ [c]) B' O' ∧ St M w0 ((b, prn (QeM b) B' V) :: (O' ++ H)) F w' := by
 subst hV
 obtain ⟨A, cc, rfl⟩ := hB.form
 refine Qg Tryz.func65 rfl Tryz.ntmps65 rfl ?_
 refine Zc1 ?_
 refine Calls.mono (Qfz p A A2 _ cc l2 c2 _ hp hS) ?_
 rintro _ w1 ⟨rfl, hS'⟩
 refine Za ?_
 replace hS := hS'
 clear hS'
 refine ZbC ?_
 refine Za8 ?_
 refine ZbB ?_
 refine ZaR ?_
 clear hS
 intro b1 wx1 hS
 refine Zft ?_
 clear hS
 intro B' O' w2 hB' hS
 replace hS := hS.raise
 obtain ⟨A', c', rfl⟩ := hB'.form
 refine Zc0 ?_
 clear hS
 intro wx2 hS
 refine Zbo ?_
 refine Qc Tryz.func65 rfl Yb ?_
 refine ⟨_, O', rfl, ?_, hS⟩
 show Row _ _ _ (l ++ [c]).length (QZ (l ++ [c])) _
 rw [List.length_append, show QZ (l ++ [c]) = QZ l ++ QZ [c] by simp [QZ]]; exact hB'
theorem St.dropMid' {w : World} {p q : Nat × Obj} (h : St M w0 (p :: ([q] ++ H)) F w) : St M w0 (p :: H) F w := h.swap.drop
theorem St.lose {g : Nat} {o : Obj} {w w' : World} (h : St M w0 ((g, o) :: H) F w) (hx : Ext [g] w w') : St M w0 H F w' := by
 have hx' : Ext (((g, o) :: H).map (·.1)) w w' := hx.mono fun k _ hk => by simp at hk ⊢; exact .inl hk
 refine ⟨fun q hq => ?_, (List.pairwise_cons.1 h.apart).2, h.over hx', fun q hq => h.new q (List.mem_cons_of_mem _ hq), fun φ hφ w2 hw => h.facts φ hφ w2 (hx'.trans (hw.mono fun k _ hk => by simp at hk ⊢; exact .inr hk))⟩
 have hq' := h.own q (List.mem_cons_of_mem _ hq)
 rw [hx.block q.1 (QcL hq') (by simpa using Ne.symm ((List.pairwise_cons.1 h.apart).1 q hq))]
 exact hq'
theorem Qjp (w : World) (g n : Nat) : Ext [g] w (w.freeze ⟨g, 0, none⟩ n) := by
 unfold World.freeze
 split
 ·exact Ext.refl _ _
 ·exact ⟨rfl, rfl, rfl, by simp, fun k _ hk => by
   have : k ≠ g := by simpa using hk
   simp [Array.getElem?_modify, Ne.symm this]⟩
theorem Qou (p B V : Value) (l : Str) (O : List (Nat × Obj)) (A2 : Option Addr) (l2 c2 : Nat) (hV : V = .slice A2 l2 c2) (w : World) (hB : Buf l B O) (hl : l.length ≤ 1099511627776) (hS : St M w0 ((b, prn p B V) :: (O ++ H)) F w) :
  Calls Tryz.prog 69 #[QeM b] w fun e w' => e = .returned (sv l) ∧ St M w0 H F w' := by
 subst hV
 have hF := hS
 have hB2 : Row 5 1 B l.length (QZ l) O := hB
 clear hB
 generalize hll : l.length = ll at hB2
 generalize hbl : QZ l = bl at hB2
 cases hB2 with
 | nil_ =>
  obtain rfl : l = [] := List.eq_nil_of_length_eq_zero hll
  clear hF
  refine Zd9 ?_
  refine Zc2 ?_
  refine Zea ?_
  replace hS := hS.drew
  refine ZaL ?_
  refine ZaL ?_
  refine ZaJ ?_
  refine Zp ?_
  refine Qa (Qb7 rfl rfl) rfl ?_
  refine QaR hS ?_
  refine Zp ?_
  refine Zeb ?_
  refine QaR hS ?_
  refine Zc3 ?_
  exact ⟨rfl, hS.drop⟩
 | own_ h1 h2 h3 h4 =>
  rename_i g cap sp
  have hg : w.heap[g]? = some (.cells (bl ++ sp).toArray 5) := hF.own (g, _) Yd
  replace hS := St.dropMid' hS
  refine Zd9 ?_
  refine Zc2 ?_
  refine Zea ?_
  replace hS := hS.drew
  refine ZaL ?_
  refine ZaL ?_
  refine ZaJ ?_
  refine Zp ?_
  refine Qa (Qb7 rfl (Lib.run_unsafeSliceData_row _ _ _ _ _ _ Ya)) rfl ?_
  refine QaR hS ?_
  refine Zp ?_
  by_cases hl0 : l = []
  ·subst hl0
   obtain rfl : 0 = ll := hll
   refine Zeb ?_
   refine QaR hS ?_
   refine Zc3 ?_
   exact ⟨rfl, hS.drop⟩
  ·have hus := Lib.run_unsafeString_row (P := Tryz.prog) w.drew 167 3 9 5 Yc Yc g (bl ++ sp).length (Qe9 (w := w.drew) hg) l hl0 (by simp at h2 ⊢; omega) Ya ?_
   ·rw [hll] at hus
    replace hS := (St.swap hF.drew).lose (Qjp _ g ll)
    refine Qa (Qc5 rfl rfl hus) rfl ?_
    refine QaR hS ?_
    refine Zc3 ?_
    exact ⟨rfl, hS.drop⟩
   ·intro j x hx
    subst hbl
    have hj : j < l.length := (List.getElem?_eq_some_iff.1 hx).1
    have : (QZ l ++ sp)[j]? = some (.int .u8 x.toNat) := by
     rw [List.getElem?_append_left (by simp [QZ]; omega)]
     simp [QZ, hx]
    rw [← this, ← Qu (w := w.drew) hg j]
    simp only [Addr.add]
    split
    ·rename_i h0; subst h0; rfl
    ·simp
end
section
variable {P : Program} {n : Nat} {e : Env} {w : World} {ty : TypeId} {pos : String} {after : Array Edge} {x y z : Operand} {dst : Option Nat} {t : TypeId}
theorem QM {i : Int} {A : Option Addr} {len cap el sz : Nat} (hx : ev n e x = .slice A len cap) (hy : ev n e y = .int .i64 i) (hT : QC P t = some el) (hs : QaD P el = some sz) (h0 : 0 ≤ i) (h1 : i ≤ cap) :
  (execOp (ev n e) ⟨dst, .slice t x none (some y) none, ty, pos, after, none⟩).run P w = .ok (.value (.slice A i.toNat cap)) w := by
 have h2 := run_underlying (Qar hT) w
 have h3 := Qac (w := w) hs
 simp only [execOp, Instr.sliceAt, Instr.slice, hx, hy, Option.map_some, Option.map_none, bind, pure, Sem.bind]
 rw [Sem.run_bind', Sem.run_bind', h2]
 simp only [Result.andThen_ok]
 rw [Sem.run_bind', h2]
 simp only [Result.andThen_ok, Instr.sliceBounds, Option.isSome_none, Bool.false_eq_true, if_false, bind, pure, Sem.bind]
 rw [Sem.run_bind', Sem.run_bind', QcJ rfl h0 h1]
 simp only [Result.andThen_ok]
 rw [show Sem.run P (Sem.pure (0, i.toNat, cap)) w = .ok (0, i.toNat, cap) w from rfl]
 simp only [Result.andThen_ok]
 rw [Sem.run_bind', h3]
 simp [Sem.run, Addr.add]
theorem QbF {i : Int} {A : Option Addr} {len cap el sz : Nat} (hx : ev n e x = .slice A len cap) (hy : ev n e y = .int .i64 i) (hT : QC P t = some el) (hs : QaD P el = some sz) (h0 : 0 ≤ i) (h1 : i ≤ len) :
  (execOp (ev n e) ⟨dst, .slice t x (some y) none none, ty, pos, after, none⟩).run P w = .ok (.value (.slice (if cap = i.toNat then A else A.map (·.add (i.toNat * sz))) (len - i.toNat) (cap - i.toNat))) w := by
 have h2 := run_underlying (Qar hT) w
 have h3 := Qac (w := w) hs
 simp only [execOp, Instr.sliceAt, Instr.slice, hx, hy, Option.map_some, Option.map_none, bind, pure, Sem.bind]
 rw [Sem.run_bind', Sem.run_bind', h2]
 simp only [Result.andThen_ok]
 rw [Sem.run_bind', h2]
 simp only [Result.andThen_ok, Instr.sliceBounds, Option.isSome_none, Bool.false_eq_true, if_false, bind, pure, Sem.bind]
 rw [Sem.run_bind', Sem.run_bind', QcJ rfl h0 h1]
 simp only [Result.andThen_ok]
 rw [show Sem.run P (Sem.pure (i.toNat, len, cap)) w = .ok (i.toNat, len, cap) w from rfl]
 simp only [Result.andThen_ok]
 rw [Sem.run_bind', h3]
 simp [Sem.run]
theorem QdD {i : Int} {b o len cap el sz : Nat} (hx : ev n e x = .slice (some ⟨b, o, none⟩) len cap) (hy : ev n e y = .int .i64 i) (hT : QC P t = some el) (hs : QaD P el = some sz) (h0 : 0 ≤ i) (h1 : i ≤ len) (h2 : i < cap) :
  (execOp (ev n e) ⟨dst, .slice t x (some y) none none, ty, pos, after, none⟩).run P w = .ok (.value (.slice (some ⟨b, o + i.toNat * sz, none⟩) (len - i.toNat) (cap - i.toNat))) w := by
 rw [QbF hx hy hT hs h0 h1, if_neg Ya, Option.map_some, Qaa]
end
theorem Row.cut {el sz len cap m : Nat} {A : Option Addr} {xs : List Value} {O : List (Nat × Obj)} (h : Row el sz (.slice A len cap) len xs O) (hm : m ≤ len) : Row el sz (.slice A m cap) m (xs.take (m * sz)) O := by
 have hx := h.len_
 generalize hv : Value.slice A len cap = v at h
 cases h with
 | nil_ =>
  simp only [Value.slice.injEq] at hv
  obtain ⟨rfl, _, rfl⟩ := hv
  obtain rfl : m = 0 := by omega
  simpa using Row.nil_
 | own_ hx2 hc hle hcp =>
  rename_i b cap' sp
  simp only [Value.slice.injEq] at hv
  obtain ⟨rfl, _, rfl⟩ := hv
  have e : xs ++ sp = xs.take (m * sz) ++ (xs.drop (m * sz) ++ sp) := by rw [← List.append_assoc, List.take_append_drop]
  have hml : m * sz ≤ xs.length := by rw [hx]; exact Nat.mul_le_mul_right _ hm
  have hr := Row.own_ (el := el) (sz := sz) (b := b) (len := m) (cap := cap) (xs := xs.take (m * sz)) (sp := xs.drop (m * sz) ++ sp) Yh (by rw [← e]; exact hc) Ya hcp
  rw [← e] at hr
  exact hr
theorem Row.cap {el sz len cap : Nat} {A : Option Addr} {l2 : Nat} {xs : List Value} {O : List (Nat × Obj)} (h : Row el sz (.slice A l2 cap) len xs O) : len ≤ cap := by
 generalize hv : Value.slice A l2 cap = v at h
 cases h with
 | nil_ => omega
 | own_ _ _ hle _ => simp only [Value.slice.injEq] at hv; obtain ⟨_, _, rfl⟩ := hv; exact hle
theorem Row.some_ {el sz len cap l2 : Nat} {A : Option Addr} {xs : List Value} {O : List (Nat × Obj)} (h : Row el sz (.slice A l2 cap) len xs O) (hl : 0 < len) : ∃ g sp, A = some ⟨g, 0, none⟩ ∧ O = [(g, .cells (xs ++ sp).toArray el)] ∧ (xs ++ sp).length = cap * sz := by
 generalize hv : Value.slice A l2 cap = v at h
 cases h with
 | nil_ => omega
 | own_ _ hc _ _ => simp only [Value.slice.injEq] at hv; obtain ⟨h1, _, rfl⟩ := hv; exact ⟨_, _, h1, rfl, hc⟩
def Und (F : List (World → Prop)) (ψ : World → Prop) : Prop := ∀ w, (∀ φ ∈ F, φ w) → ψ w
theorem Und.mono {F F' : List (World → Prop)} {ψ : World → Prop} (h : Und F ψ) (hs : ∀ φ ∈ F, φ ∈ F') : Und F' ψ := fun w hw => h w fun φ hφ => hw φ (hs φ hφ)
theorem Und.tail {F : List (World → Prop)} {φ ψ : World → Prop} (h : Und F ψ) : Und (φ :: F) ψ := h.mono fun _ h => List.mem_cons_of_mem _ h
theorem Und.imp {F : List (World → Prop)} {φ ψ : World → Prop} (h : Und F φ) (g : ∀ w, φ w → ψ w) : Und F ψ := fun w hw => g w (h w hw)
theorem Und.head {F : List (World → Prop)} {φ : World → Prop} : Und (φ :: F) φ := fun w hw => hw φ (.head _)
section
variable {M : List Nat} {w0 w w' : World} {H : List (Nat × Obj)} {F : List (World → Prop)}
theorem St.und (h : St M w0 H F w) {ψ : World → Prop} (hψ : Und F ψ) : ψ w := hψ w fun φ hφ => h.fact hφ
theorem St.bareL {L : List (Nat × Obj)} (h : St M w0 (L ++ H) F w) : St M w0 L [] w := by
 refine ⟨fun p hp => h.own p (List.mem_append_left _ hp), (List.pairwise_append.1 h.apart).1, h.ext, fun p hp => h.new p (List.mem_append_left _ hp), fun φ hφ => by cases hφ⟩
theorem St.bare1 {x : Nat × Obj} (h : St M w0 (x :: H) F w) : St M w0 [x] [] w := St.bareL (L := [x]) h
theorem St.bare2 {x y : Nat × Obj} (h : St M w0 (x :: y :: H) F w) : St M w0 [x, y] [] w := St.bareL (L := [x, y]) h
theorem St.bare3 {x y z : Nat × Obj} (h : St M w0 (x :: y :: z :: H) F w) : St M w0 [x, y, z] [] w := St.bareL (L := [x, y, z]) h
theorem St.only1 {x : Nat × Obj} {w : World} (h : St M w0 (x :: H) F w) : St M w0 [x] F w :=
 ⟨fun q hq => h.own q (by simp at hq; simp [hq]), by simp, h.ext, fun q hq => h.new q (by simp at hq; simp [hq]), fun φ hφ w' hw => h.facts φ hφ w' (hw.mono fun k _ hk => by simp at hk; simp [hk])⟩
theorem St.only2 {x y : Nat × Obj} {w : World} (h : St M w0 (x :: y :: H) F w) : St M w0 [x, y] F w :=
 ⟨fun q hq => h.own q (by simp at hq; rcases hq with rfl | rfl <;> simp), by simpa using (List.pairwise_cons.1 h.apart).1 y Yd, h.ext, fun q hq => h.new q (by simp at hq; rcases hq with rfl | rfl <;> simp), fun φ hφ w' hw => h.facts φ hφ w' (hw.mono fun k _ hk => by simp at hk; rcases hk with rfl | rfl <;> simp)⟩
end
inductive Ts where
 | nil
 | cons (k n : Int) (s : ByteArray) (ar r : Ts)
def Ts.length : Ts → Nat
 | .nil => 0
 | .cons _ _ _ _ r => r.length + 1
def Ts.nodes : Ts → Nat
 | .nil => 0
 | .cons _ _ _ ar r => ar.nodes + r.nodes + 1
def Ts.app : Ts → Ts → Ts
 | .nil, y => y
 | .cons k n s ar r, y => .cons k n s ar (r.app y)
theorem Ts.length_le (T : Ts) : T.length ≤ T.nodes := by
 induction T with
 | nil => exact Nat.le_refl _
 | cons k n s ar r _ ih => simp only [length, nodes]; omega
theorem Ts.app_nil (T : Ts) : T.app .nil = T := by
 induction T with
 | nil => rfl
 | cons k n s ar r _ ih => simp only [app, ih]
theorem Ts.app_assoc (a b c : Ts) : (a.app b).app c = a.app (b.app c) := by
 induction a with
 | nil => rfl
 | cons k n s ar r _ ih => simp only [app, ih]
theorem Ts.length_app (a b : Ts) : (a.app b).length = a.length + b.length := by
 induction a with
 | nil => simp [app, length]
 | cons k n s ar r _ ih => simp only [app, length, ih]; omega
theorem Ts.nodes_app (a b : Ts) : (a.app b).nodes = a.nodes + b.nodes := by
 induction a with
 | nil => simp [app, nodes]
 | cons k n s ar r _ ih => simp only [app, nodes, ih]; omega
theorem Ts.nil_of_length {T : Ts} (h : T.length = 0) : T = .nil := by
 cases T with
 | nil => rfl
 | cons k n s ar r => simp [length] at h
def Seg (w : World) (p : Nat → Prop) : Ts → Nat → Nat → Prop
 | .nil, _, _ => True
 | .cons k n s ar r, b, o => p b ∧ w.cell? ⟨b, o, none⟩ = some (.int .i64 k) ∧ w.cell? ⟨b, o + 1, none⟩ = some (.int .i64 n) ∧ w.cell? ⟨b, o + 2, none⟩ = some (.string s) ∧
   (∃ A c, w.cell? ⟨b, o + 3, none⟩ = some (.slice A ar.length c) ∧ ar.length ≤ c ∧ (0 < ar.length → ∃ b' o', A = some ⟨b', o', none⟩ ∧ Seg w p ar b' o')) ∧ Seg w p r b (o + 4)
def Sl (w : World) (p : Nat → Prop) (v : Value) (T : Ts) : Prop :=
 ∃ A c, v = .slice A T.length c ∧ T.length ≤ c ∧ (0 < T.length → ∃ b o, A = some ⟨b, o, none⟩ ∧ Seg w p T b o)
theorem QaT {w : World} {p : Nat → Prop} {k n : Int} {s : ByteArray} {ar r : Ts} {b o : Nat} : Seg w p (.cons k n s ar r) b o ↔
  p b ∧ w.cell? ⟨b, o, none⟩ = some (.int .i64 k) ∧ w.cell? ⟨b, o + 1, none⟩ = some (.int .i64 n) ∧ w.cell? ⟨b, o + 2, none⟩ = some (.string s) ∧
   (∃ v, w.cell? ⟨b, o + 3, none⟩ = some v ∧ Sl w p v ar) ∧ Seg w p r b (o + 4) := by
 constructor
 ·rintro ⟨h1, h2, h3, h4, ⟨A, c, h5, h6, h7⟩, h8⟩
  exact ⟨h1, h2, h3, h4, ⟨_, h5, A, c, rfl, h6, h7⟩, h8⟩
 ·rintro ⟨h1, h2, h3, h4, ⟨v, h5, A, c, rfl, h6, h7⟩, h8⟩
  exact ⟨h1, h2, h3, h4, ⟨A, c, h5, h6, h7⟩, h8⟩
theorem Qbe {w : World} {a : Addr} {v : Value} (h : w.cell? a = some v) : a.block < w.heap.size := by
 rcases Nat.lt_or_ge a.block w.heap.size with hl | hg
 ·exact hl
 ·simp [World.cell?, Array.getElem?_eq_none hg] at h
section
variable {w w' : World} {p q : Nat → Prop}
theorem Seg.imp {T : Ts} : ∀ {b o : Nat}, Seg w p T b o → (∀ k, p k → k < w.heap.size → q k) → Seg w q T b o := by
 induction T with
 | nil => intros; trivial
 | cons k n s ar r iha ihr =>
  intro b o h hq
  obtain ⟨h1, h2, h3, h4, ⟨A, c, h5, h6, h7⟩, h8⟩ := h
  refine ⟨hq _ h1 (Qbe h2), h2, h3, h4, ⟨A, c, h5, h6, fun hl => ?_⟩, ihr h8 hq⟩
  obtain ⟨b', o', e, h9⟩ := h7 hl
  exact ⟨b', o', e, iha h9 hq⟩
theorem Seg.keep {T : Ts} : ∀ {b o : Nat}, Seg w p T b o → (∀ k, p k → k < w.heap.size → w'.heap[k]? = w.heap[k]?) → Seg w' p T b o := by
 induction T with
 | nil => intros; trivial
 | cons k n s ar r iha ihr =>
  intro b o h hk
  obtain ⟨h1, h2, h3, h4, ⟨A, c, h5, h6, h7⟩, h8⟩ := h
  have e := hk b h1 (Qbe h2)
  refine ⟨h1, ?_, ?_, ?_, ⟨A, c, ?_, h6, fun hl => ?_⟩, ihr h8 hk⟩
  ·rw [World.cell?_of_block (w := w) (w' := w') (a := ⟨b, o, none⟩) e]; exact h2
  ·rw [World.cell?_of_block (w := w) (w' := w') (a := ⟨b, o + 1, none⟩) e]; exact h3
  ·rw [World.cell?_of_block (w := w) (w' := w') (a := ⟨b, o + 2, none⟩) e]; exact h4
  ·rw [World.cell?_of_block (w := w) (w' := w') (a := ⟨b, o + 3, none⟩) e]; exact h5
  ·obtain ⟨b', o', e', h9⟩ := h7 hl
   exact ⟨b', o', e', iha h9 hk⟩
theorem Sl.imp {T : Ts} {v : Value} (h : Sl w p v T) (hq : ∀ k, p k → k < w.heap.size → q k) : Sl w q v T := by
 obtain ⟨A, c, hv, hc, hs⟩ := h
 refine ⟨A, c, hv, hc, fun hl => ?_⟩
 obtain ⟨b, o, e, h9⟩ := hs hl
 exact ⟨b, o, e, h9.imp hq⟩
theorem Sl.keep {T : Ts} {v : Value} (h : Sl w p v T) (hk : ∀ k, p k → k < w.heap.size → w'.heap[k]? = w.heap[k]?) : Sl w' p v T := by
 obtain ⟨A, c, hv, hc, hs⟩ := h
 refine ⟨A, c, hv, hc, fun hl => ?_⟩
 obtain ⟨b, o, e, h9⟩ := hs hl
 exact ⟨b, o, e, h9.keep hk⟩
theorem Seg.below {T : Ts} {b o : Nat} (h : Seg w p T b o) (hb : Below w.heap.size w w') : Seg w' p T b o := h.keep fun k _ hk => hb.block k hk
theorem Sl.below {T : Ts} {v : Value} (h : Sl w p v T) (hb : Below w.heap.size w w') : Sl w' p v T := h.keep fun k _ hk => hb.block k hk
theorem Sl.form {T : Ts} {v : Value} (h : Sl w p v T) : ∃ A c, v = .slice A T.length c ∧ Sl w p (.slice A T.length c) T := by
 obtain ⟨A, c, rfl, h2⟩ := h
 exact ⟨A, c, rfl, A, c, rfl, h2⟩
end
def Qan (w : World) (g : Nat) (t : TypeId) (cs : Array Value) : Prop := w.heap[g]? = some (.cells cs t (0, 0))
section
variable {w w' : World} {g : Nat} {t : TypeId} {cs : Array Value}
theorem Qan.move (h : Qan w g t cs) (e : w'.heap[g]? = w.heap[g]?) : Qan w' g t cs := Eq.trans e h
theorem Qan.lt (h : Qan w g t cs) : g < w.heap.size := (Array.getElem?_eq_some_iff.1 h).1
theorem Qan.cell (h : Qan w g t cs) (i : Nat) : w.cell? ⟨g, i, none⟩ = cs[i]? := by
 have := cell_of_row w g i cs t (0, 0) h
 exact this
theorem Qan.frozen (h : Qan w g t cs) (i : Nat) : w.frozen? ⟨g, i, none⟩ = false := by
 have e : w.heap[g]? = some (.cells cs t (0, 0)) := h
 rw [World.frozen?]
 simp only [e]
 simp
theorem Qan.new (w : World) (t : TypeId) (cs : Array Value) : Qan (w.alloc (.cells cs t)) w.heap.size t cs := by
 show (w.alloc _).heap[w.heap.size]? = _
 rw [heap_alloc_new]
theorem Qan.alloc (h : Qan w g t cs) (o : Obj) : Qan (w.alloc o) g t cs := h.move (Below.heap_alloc w o g h.lt)
theorem Qan.far (h : Qan w g t cs) {p : Addr} (hp : g ≠ p.block) (u : Value) : Qan (w.setCell p u) g t cs := h.move (Below.heap_setCell w p u g hp)
theorem Qan.below (h : Qan w g t cs) (hb : Below w.heap.size w w') : Qan w' g t cs := h.move (hb.block g h.lt)
theorem Qan.grown {row : Option Nat} (h : Qan w g t cs) (hb : w.grownBy w' row) (hg : some g ≠ row) : Qan w' g t cs := h.move (hb.block g h.lt hg)
theorem Qan.set_ (h : Qan w g t cs) (i : Nat) (u : Value) : Qan (w.setCell ⟨g, i, none⟩ u) g t (cs.setIfInBounds i u) := by
 have e : w.heap[g]? = some (.cells cs t (0, 0)) := h
 show (w.setCell _ u).heap[g]? = _
 rw [World.setCell]
 simp [Array.getElem?_modify, e]
theorem Qan.four {a b c d : Value} (h : Qan w g t #[a, b, c, d]) : w.cell? ⟨g, 0, none⟩ = some a ∧ w.cell? ⟨g, 1, none⟩ = some b ∧ w.cell? ⟨g, 2, none⟩ = some c ∧ w.cell? ⟨g, 3, none⟩ = some d ∧ (∀ o, w.frozen? ⟨g, o, none⟩ = false) :=
 ⟨h.cell 0, h.cell 1, h.cell 2, h.cell 3, h.frozen⟩
end
def Cs (w : World) (p : Nat → Prop) : Ts → List Value → Prop
 | .nil, xs => xs = []
 | .cons k n s ar r, xs => ∃ v ys, xs = .int .i64 k :: .int .i64 n :: .string s :: v :: ys ∧ Sl w p v ar ∧ Cs w p r ys
section
variable {w w' : World} {p q : Nat → Prop}
theorem Cs.length {T : Ts} : ∀ {xs : List Value}, Cs w p T xs → xs.length = T.length * 4 := by
 induction T with
 | nil => intro xs h; rw [show xs = [] from h]; rfl
 | cons k n s ar r _ ih =>
  rintro xs ⟨v, ys, rfl, _, h⟩
  simp only [List.length_cons, Ts.length, ih h]; omega
theorem Cs.app {T : Ts} : ∀ {xs ys : List Value} {U : Ts}, Cs w p T xs → Cs w p U ys → Cs w p (T.app U) (xs ++ ys) := by
 induction T with
 | nil => intro xs ys U h h'; rw [show xs = [] from h]; exact h'
 | cons k n s ar r _ ih =>
  rintro xs ys U ⟨v, zs, rfl, hv, h⟩ h'
  exact ⟨v, zs ++ ys, rfl, hv, ih h h'⟩
theorem Cs.seg {T : Ts} : ∀ {xs : List Value} {b o : Nat}, Cs w p T xs → (0 < T.length → p b) → (∀ j u, xs[j]? = some u → w.cell? ⟨b, o + j, none⟩ = some u) → Seg w p T b o := by
 induction T with
 | nil => intros; trivial
 | cons k n s ar r _ ih =>
  rintro xs b o ⟨v, ys, rfl, hv, h⟩ hp hc
  have hb : p b := hp (by simp [Ts.length])
  refine QaT.2 ⟨hb, by simpa using hc 0 _ rfl, hc 1 _ rfl, hc 2 _ rfl, ⟨v, hc 3 _ rfl, hv⟩, ih h (fun _ => hb) fun j u hu => ?_⟩
  have := hc (j + 4) u (by simpa using hu)
  rwa [show o + 4 + j = o + (j + 4) by omega]
theorem Seg.cells {T : Ts} : ∀ {b o : Nat}, Seg w p T b o → ∃ xs, Cs w p T xs ∧ ∀ j u, xs[j]? = some u → w.cell? ⟨b, o + j, none⟩ = some u := by
 induction T with
 | nil => intro b o _; exact ⟨[], rfl, fun j u hu => by simp at hu⟩
 | cons k n s ar r _ ih =>
  intro b o h
  obtain ⟨h1, h2, h3, h4, ⟨v, h5, h6⟩, h8⟩ := QaT.1 h
  obtain ⟨ys, hy, hc⟩ := ih h8
  refine ⟨_, ⟨v, ys, rfl, h6, hy⟩, fun j u hu => ?_⟩
  match j, hu with
  | 0, hu => simp at hu; subst hu; simpa using h2
  | 1, hu => simp at hu; subst hu; exact h3
  | 2, hu => simp at hu; subst hu; exact h4
  | 3, hu => simp at hu; subst hu; exact h5
  | j + 4, hu => rw [show o + (j + 4) = o + 4 + j by omega]; exact hc j u (by simpa using hu)
theorem Cs.one {T : Ts} : ∀ {xs : List Value}, Cs w p T xs → ∀ u ∈ xs, u.oneCell' = true := by
 induction T with
 | nil => intro xs h u hu; rw [show xs = [] from h] at hu; cases hu
 | cons k n s ar r _ ih =>
  rintro xs ⟨v, ys, rfl, ⟨A, c, rfl, _⟩, h⟩ u hu
  simp only [List.mem_cons] at hu
  rcases hu with rfl | rfl | rfl | rfl | hu
  ·rfl
  ·rfl
  ·rfl
  ·rfl
  ·exact ih h u hu
end
theorem Qev {P : Program} {w : World} {a : Addr} {f : Fn} {x y : Array Value} {u : Value} (h : w.cell? a = some u) (hf : w.frozen? a = false) : (store a (.func f x y)).run P w = .ok () (w.setCell a (.func f x y)) := by
 simp [store, Sem.run, h, hf]
theorem Qhl (w : World) (u v : Value) (t : TypeId) : (w.alloc (.cells #[u] t)).setCell ⟨w.heap.size, 0, none⟩ v = w.alloc (.cells #[v] t) := by
 show ({ w with heap := (w.heap.push (.cells #[u] t)).modify w.heap.size _ } : World) = { w with heap := w.heap.push (.cells #[v] t) }
 congr 1
 apply Array.ext_getElem?
 intro j
 rw [Array.getElem?_modify, Array.getElem?_push, Array.getElem?_push]
 by_cases e : w.heap.size = j
 ·subst e; simp
 ·simp [e, Ne.symm e]
theorem Qsf {a : Array Value} {i : Nat} {v : Value} (h : a[i]? = some v) : a.setIfInBounds i v = a := by
 apply Array.ext_getElem?
 intro j
 by_cases hj : i = j
 ·subst hj
  rw [Array.getElem?_setIfInBounds_self_of_lt (Array.getElem?_eq_some_iff.1 h).1, h]
 ·rw [Array.getElem?_setIfInBounds_ne hj]
theorem QgN {w : World} {base : Nat} {e : TypeId} {size : Nat} {v : Value} {n : Nat} {xs : List Value} (h : w.ownsRow base e size v n xs) : ∃ A cap, v = .slice A n cap := by
 rcases h.2 with ⟨rfl, rfl⟩ | ⟨g, cap, cur, rfl, _⟩
 ·exact ⟨_, _, rfl⟩
 ·exact ⟨_, _, rfl⟩
theorem Qqh {w : World} {base : Nat} {e : TypeId} {size : Nat} {A : Option Addr} {n c : Nat} {xs : List Value} (h : w.ownsRow base e size (.slice A n c) n xs) :
  n ≤ c ∧ ∃ (g : Nat) (cur : Array Value), 0 < n → A = some ⟨g, 0, none⟩ ∧ base ≤ g ∧ Qan w g e cur ∧ ∀ (j : Nat) u, xs[j]? = some u → cur[j]? = some u := by
 rcases h.2 with ⟨h1, rfl⟩ | ⟨g, cap, cur, h1, hb, hh, hnc, _, _, htk⟩
 ·exact ⟨Nat.zero_le _, 0, #[], fun h => absurd h (Nat.lt_irrefl _)⟩
 ·simp only [Value.slice.injEq, true_and] at h1
  obtain ⟨rfl, rfl⟩ := h1
  refine ⟨hnc, g, cur, fun _ => ⟨rfl, hb, hh, fun j u hu => ?_⟩⟩
  rw [← htk, List.getElem?_take] at hu
  split at hu
  ·simpa using hu
  ·cases hu
theorem QsV (w : World) (cs : List Value) (t : TypeId) : ∀ j u, cs[j]? = some u → (w.alloc (.cells cs.toArray t)).cell? ((⟨w.heap.size, 0, none⟩ : Addr).add j) = some u := by
 intro j u hu
 have h := (Qan.new w t cs.toArray).cell j
 simp only [List.getElem?_toArray] at h
 by_cases hj : j = 0
 ·subst hj; rw [← hu]; exact h
 ·simp [Addr.add, hj, h, hu]
theorem Qqi {w w' : World} {base : Nat} {e : TypeId} {size : Nat} {v : Value} {n : Nat} {xs : List Value} (h : w.ownsRow base e size v n xs) (hb : Below w.heap.size w w') : w'.ownsRow base e size v n xs :=
 h.kept (row := none) ⟨hb.os, hb.tape, hb.output, hb.size, fun k hk _ => hb.block k hk⟩ (by cases v.ownBlock <;> simp)
theorem Qdi {P : Program} (w : World) {ops : Array Oper} {rest : List Oper} {o : Oper} {a : Act} {Q : Exit → Act → World → Prop} (hgd : o.guard = none) (s x : Operand) (t : TypeId)
  (ho : o.op = .call { callee := .builtin .append, args := #[s, x], argTypes := #[t, t] })
  (base : Nat) (e : TypeId) (i : TypeInfo) (z : Value) (size bytes : Nat) (ht : P.underlying t = some (.slice e)) (hi : P.info? e = some i) (hz : i.zero = some z)
  (hsize : i.size = size) (hby : i.bytes = bytes) (hzs : z.cells.size = size) (hsz : 0 < size)
  (v : Value) (n : Nat) (xs : List Value) (hs : a.eval s = v) (hown : w.ownsRow base e size v n xs)
  (ad : Addr) (m c : Nat) (news : List Value) (hx : a.eval x = .slice (some ad) m c) (hl : news.length = m * size) (hnews : ∀ j u, news[j]? = some u → w.cell? (ad.add j) = some u) (h1 : ∀ u ∈ news, u.oneCell' = true)
  (h63 : n + m ≤ maxLen) (hbytes : (n + m) * bytes ≤ 140737488355328) (hbase : base ≤ w.heap.size)
  (h : ∀ v' w', w'.ownsRow base e size v' (n + m) (xs ++ news) → w.grownBy w' v.ownBlock → (v'.ownBlock = v.ownBlock ∨ v'.ownBlock = some w.heap.size) → wpList P ops Q rest (a.put o.dst v') w') : wpList P ops Q (o :: rest) a w := by
 refine wpList_plain hgd fun K hK => ?_
 obtain ⟨v', w', hr, h2, h3, _, h5⟩ := run_append_own_at (P := P) w base t o.type e i z size bytes ht hi hz hsize hby hzs hsz v n xs hown ad m c news hl hnews h1 h63 hbytes hbase
 unfold Oper.wp execOp
 simp only [ho, resolve, invoke, builtin, Sem.run_bind, Sem.run_pure, Result.andThen_ok, List.map_toArray, List.map_cons, List.map_nil, hs, hx, hr]
 exact hK _ _ (h v' w' h2 h3 h5)
theorem QiN {s t : ByteArray} : s.toList = t.toList ↔ s = t := by
 rw [ByteArray.toList_eq, ByteArray.toList_eq]
 constructor
 ·intro h
  have : s.data = t.data := Array.toList_inj.1 h
  cases s; cases t; simp at this; rw [this]
 ·intro h; rw [h]
theorem Seg.skip {w : World} {p : Nat → Prop} {R : Ts} {b : Nat} : ∀ {D : Ts} {o : Nat}, Seg w p (D.app R) b o → Seg w p R b (o + D.length * 4) := by
 intro D
 induction D with
 | nil => intro o h; simpa [Ts.length, Ts.app] using h
 | cons k n s ar r _ ih =>
  intro o h
  have := ih (QaT.1 h).2.2.2.2.2
  rw [show (Ts.cons k n s ar r).length = r.length + 1 from rfl, show o + (r.length + 1) * 4 = o + 4 + r.length * 4 by omega]
  exact this
theorem Sl.at_ {w : World} {p : Nat → Prop} {A : Option Addr} {len c : Nat} {D R : Ts} (h : Sl w p (.slice A len c) (D.app R)) (hR : 0 < R.length) :
  ∃ b o, A = some ⟨b, o, none⟩ ∧ Seg w p R b (o + D.length * 4) := by
 obtain ⟨A', c', e, _, hs⟩ := h
 simp only [Value.slice.injEq] at e
 obtain ⟨rfl, rfl, rfl⟩ := e
 obtain ⟨b, o, rfl, hseg⟩ := hs (by rw [Ts.length_app]; omega)
 exact ⟨b, o, rfl, hseg.skip⟩
structure Chg (S : Nat → Prop) (w w' : World) : Prop where
 os : w'.os = w.os
 tape : w'.tape = w.tape
 output : w'.output = w.output
 size : w.heap.size ≤ w'.heap.size
 block : ∀ k, k < w.heap.size → ¬ S k → w'.heap[k]? = w.heap[k]?
section
variable {S S' : Nat → Prop} {w w' w'' : World}
theorem Chg.refl (S : Nat → Prop) (w : World) : Chg S w w := ⟨rfl, rfl, rfl, Nat.le_refl _, fun _ _ _ => rfl⟩
theorem Chg.trans (h : Chg S w w') (h' : Chg S' w' w'') (hs : ∀ k, k < w.heap.size → S' k → S k) : Chg S w w'' :=
 ⟨h'.os.trans h.os, h'.tape.trans h.tape, h'.output.trans h.output, Nat.le_trans h.size h'.size, fun k hk hS => (h'.block k (Nat.lt_of_lt_of_le hk h.size) fun hs' => hS (hs k hk hs')).trans (h.block k hk hS)⟩
theorem Chg.of_fresh (h : Below w.heap.size w w') : Chg S w w' := ⟨h.os, h.tape, h.output, h.size, fun k hk _ => h.block k hk⟩
theorem Chg.of_grown {row : Option Nat} (h : w.grownBy w' row) : Chg (fun k => row = some k) w w' := ⟨h.os, h.tape, h.output, h.size, fun k hk hS => h.block k hk fun e => hS e.symm⟩
theorem Chg.below {B : Nat} (h : Chg S w w') (hB : B ≤ w.heap.size) (hs : ∀ k, S k → k < w.heap.size → B ≤ k) : Below B w w' :=
 ⟨h.os, h.tape, h.output, h.size, fun k hk => h.block k Ya fun hS => by have := hs k hS Ya; omega⟩
theorem Chg.setCell (h : Chg S w w') {p : Addr} (hp : p.block < w.heap.size → S p.block) (u : Value) : Chg S w (w'.setCell p u) :=
 ⟨h.os, h.tape, h.output, by simpa [World.setCell] using h.size, fun k hk hS => (Below.heap_setCell w' p u k (fun e => hS (e ▸ hp (e ▸ hk)))).trans (h.block k hk hS)⟩
theorem Chg.alloc (h : Chg S w w') (o : Obj) : Chg S w (w'.alloc o) :=
 ⟨h.os, h.tape, h.output, Nat.le_trans h.size Yd, fun k hk hS => (Below.heap_alloc w' o k (Nat.lt_of_lt_of_le hk h.size)).trans (h.block k hk hS)⟩
theorem Chg.drew (h : Chg S w w') : Chg S w w'.drew := ⟨h.os, h.tape, h.output, h.size, h.block⟩
theorem Qan.chg {g : Nat} {t : TypeId} {cs : Array Value} (h : Qan w g t cs) (hc : Chg S w w') (hg : ¬ S g) : Qan w' g t cs := (hc.block g h.lt hg).trans h
theorem Qt7 {base : Nat} {e : TypeId} {size : Nat} {v : Value} {n : Nat} {xs : List Value} (h : w.ownsRow base e size v n xs) (hc : Chg S w w') (hv : ∀ g, v.ownBlock = some g → ¬ S g) : w'.ownsRow base e size v n xs := by
 obtain ⟨h1, h2⟩ := h
 refine ⟨h1, ?_⟩
 rcases h2 with h2 | ⟨g, cap, cur, rfl, hg, hh, r⟩
 ·exact .inl h2
 ·have hl : g < w.heap.size := by
   rcases Nat.lt_or_ge g w.heap.size with hl | hl
   ·exact hl
   ·rw [Array.getElem?_eq_none hl] at hh; cases hh
  exact .inr ⟨g, cap, cur, rfl, hg, (hc.block g hl (hv g rfl)).trans hh, r⟩
theorem Sl.chg {p : Nat → Prop} {T : Ts} {v : Value} (h : Sl w p v T) (hc : Chg S w w') (hp : ∀ k, p k → ¬ S k) : Sl w' p v T := h.keep fun k hk hl => hc.block k hl (hp k hk)
end
def upB (c : UInt8) : Bool := decide ((c.toNat : Int) ≥ 65) && decide ((c.toNat : Int) ≤ 90)
def QdQ (c : UInt8) : Bool := decide ((c.toNat : Int) ≥ 97) && decide ((c.toNat : Int) ≤ 122)
def Qbu (c : UInt8) : Bool := decide ((c.toNat : Int) ≥ 48) && decide ((c.toNat : Int) ≤ 57)
def QiG (c : UInt8) : Bool := ([32, 10, 13, 9] : Str).contains c
def Qbh (p : UInt8 → Bool) : Str → Nat
 | [] => 0
 | c :: r => bif p c then Qbh p r + 1 else 0
theorem Qc4 (p : UInt8 → Bool) : ∀ l : Str, Qbh p l ≤ l.length
 | [] => Nat.le_refl _
 | c :: r => by
  have := Qc4 p r
  unfold Qbh
  cases p c <;> simp <;> omega
def Qb5 (l : Str) : Str := l.dropWhile QiG
theorem Qnk (l : Str) : (Qb5 l).length ≤ l.length := by
 unfold Qb5
 induction l with
 | nil => simp
 | cons c r ih => rw [List.dropWhile_cons]; split <;> simp <;> omega
def Qeo : Str := [40, 41, 44, 46, 33]
def Q7 : Str → Nat
 | [] => 0
 | c :: r =>
  if upB c || QdQ c then 1 + Qbh QdQ r
  else if Qbu c then Qbh Qbu (c :: r)
  else if c = 45 then (if 0 < Qbh Qbu r then 1 + Qbh Qbu r else 0)
  else if ([58, 45] : Str).isPrefixOf (c :: r) then 2
  else if Qeo.contains c then 1
  else 0
theorem QkP (l : Str) : Q7 l ≤ l.length := by
 cases l with
 | nil => exact Nat.le_refl _
 | cons c r =>
  have h1 := Qc4 QdQ r
  have h2 := Qc4 Qbu r
  have h3 := Qc4 Qbu (c :: r)
  simp only [Q7]
  split
  ·simp; omega
  split
  ·exact h3
  split
  ·split
   ·simp; omega
   ·simp
  split
  ·rename_i h
   cases r with
   | nil => simp [List.isPrefixOf] at h
   | cons d r => simp
  split
  ·simp
  ·simp
structure RS where
 token : Str
 rest : Str
 vars : List Str
 err : Int
def RS.fail (s : RS) (e : Int) : RS := ⟨[], [], s.vars, if s.err = 0 then e else s.err⟩
def RS.adv (s : RS) : RS :=
 let t := Qb5 s.rest
 if Q7 t = 0 ∧ t ≠ [] then s.fail 1 else ⟨t.take (Q7 t), t.drop (Q7 t), s.vars, s.err⟩
def RS.take (s : RS) (tok : Str) : RS := if s.token = tok then s.adv else (s.fail 1).adv
def RS.left (s : RS) : Nat := s.token.length + s.rest.length
theorem QfH (s : RS) : s.adv.left ≤ s.rest.length := by
 unfold RS.adv RS.left
 have h1 := Qnk s.rest
 have h2 := QkP (Qb5 s.rest)
 simp only
 split
 ·simp [RS.fail]
 ·simp; omega
theorem QcY (s : RS) (h : s.token ≠ []) : s.adv.left < s.left := by
 have := QfH s
 unfold RS.left at *
 cases ht : s.token with
 | nil => exact absurd ht h
 | cons c r => simp; omega
theorem QlK (s : RS) (e : Int) : (s.fail e).left = 0 := rfl
theorem take_left (s : RS) (t : Str) : (s.take t).left ≤ s.left := by
 unfold RS.take
 split
 ·have := QfH s; unfold RS.left at *; omega
 ·have := QfH (s.fail 1); simp [RS.fail] at this ⊢; omega
def Qfq : List Str → Str → Nat
 | [], _ => 0
 | v :: r, x => if v = x then 0 else Qfq r x + 1
def RS.var (s : RS) (x : Str) : Nat × RS := if x ∈ s.vars then (Qfq s.vars x, s) else (s.vars.length, { s with vars := s.vars ++ [x] })
structure Nd where
 k : Int
 n : Int
 s : Str
 ar : Ts
def Nd.zero : Nd := ⟨0, 0, [], .nil⟩
def Qbw : List Nd → Ts
 | [] => .nil
 | x :: r => .cons x.k x.n ⟨x.s.toArray⟩ x.ar (Qbw r)
section
variable (num : Str → Option Int)
def RS.number (s : RS) (tok : Str) : Int × RS := match num tok with | some n => (n, s) | none => (0, s.fail 1)
def QaV (f : RS → Nd × RS) : Nat → RS → List Nd × RS
 | 0, s => ([], s)
 | fuel + 1, s => if s.token = [44] then
   let p := f s.adv
   let q := QaV f fuel p.2
   (p.1 :: q.1, q.2)
  else ([], s)
def QL (f : RS → Nd × RS) (s : RS) : List Nd × RS :=
 let p := f s
 let q := QaV f p.2.left p.2
 (p.1 :: q.1, q.2)
def Qes : Str → UInt8
 | [] => 0
 | c :: _ => c
def Qw : Nat → RS → Nd × RS
 | 0, s => (Nd.zero, s.fail 1)
 | d + 1, s =>
  if s.token = [] then (Nd.zero, s.fail 1) else
  let c := Qes s.token
  let s1 := s.adv
  if upB c then (⟨0, (s1.var s.token).1, [], .nil⟩, (s1.var s.token).2)
  else if QdQ c && (s1.token == [40]) then
   let q := QL (Qw d) (s1.take [40])
   (⟨3, 0, s.token, Qbw q.1⟩, q.2.take [41])
  else if QdQ c || (c == 33) then (⟨1, 0, s.token, .nil⟩, s1)
  else if Qbu c || (c == 45) then (⟨2, (s1.number num s.token).1, [], .nil⟩, (s1.number num s.token).2)
  else (Nd.zero, s1.fail 1)
end
theorem QtV {c : UInt8} {n : Nat} (h : c.toNat = n) : c = UInt8.ofNat n := by subst h; simp
theorem QhP (c : UInt8) (w : World) : Calls Tryz.prog 114 #[.int .u8 c.toNat] w fun e w' => e = .returned (.bool (upB c)) ∧ w' = w := by
 refine Qh Tryz.func114 rfl Tryz.ntmps114 rfl ?_
 refine Za9 ?_
 refine ZW ?_
 refine Ze ?_
 unfold upB
 cases decide ((c.toNat : Int) ≥ 65)
 ·refine ZY ?_
  refine ZN ?_
  refine Qc Tryz.func114 rfl Yb ?_
  exact ⟨rfl, rfl⟩
 ·refine ZO ?_
  refine Zdz ?_
  refine ZN ?_
  refine Qc Tryz.func114 rfl Yb ?_
  exact ⟨rfl, rfl⟩
theorem QbD (c : UInt8) (w : World) : Calls Tryz.prog 116 #[.int .u8 c.toNat] w fun e w' => e = .returned (.bool (QdQ c)) ∧ w' = w := by
 refine Qh Tryz.func116 rfl Tryz.ntmps116 rfl ?_
 refine Za9 ?_
 refine ZW ?_
 refine Ze ?_
 unfold QdQ
 cases decide ((c.toNat : Int) ≥ 97)
 ·refine ZY ?_
  refine ZN ?_
  refine Qc Tryz.func116 rfl Yb ?_
  exact ⟨rfl, rfl⟩
 ·refine ZO ?_
  refine Zdz ?_
  refine ZN ?_
  refine Qc Tryz.func116 rfl Yb ?_
  exact ⟨rfl, rfl⟩
theorem Qdc (c : UInt8) (w : World) : Calls Tryz.prog 118 #[.int .u8 c.toNat] w fun e w' => e = .returned (.bool (Qbu c)) ∧ w' = w := by
 refine Qh Tryz.func118 rfl Tryz.ntmps118 rfl ?_
 refine Za9 ?_
 refine ZW ?_
 refine Ze ?_
 unfold Qbu
 cases decide ((c.toNat : Int) ≥ 48)
 ·refine ZY ?_
  refine ZN ?_
  refine Qc Tryz.func118 rfl Yb ?_
  exact ⟨rfl, rfl⟩
 ·refine ZO ?_
  refine Zdz ?_
  refine ZN ?_
  refine Qc Tryz.func118 rfl Yb ?_
  exact ⟨rfl, rfl⟩
theorem QgH (p : UInt8 → Bool) (g : FuncId) (hc : QfB Tryz.prog g = true) (hg : ∀ (c : UInt8) (w : World), Calls Tryz.prog g #[.int .u8 c.toNat] w fun e w' => e = .returned (.bool (p c)) ∧ w' = w)
  (l : Str) (w : World) (hl : l.length ≤ 1048576) : Calls Tryz.prog 172 #[sv l, .func (.func g) #[] #[]] w fun e w' => e = .returned (.int .i64 (Qbh p l : Nat)) ∧ w' = w := by
 refine Qg Tryz.func172 rfl Tryz.ntmps172 rfl ?_
 refine Zj ?_
 refine Zj ?_
 refine Zap ?_
 refine Qo 5 (6 :: 7 :: 8 :: 9 :: 10 :: 11 :: 12 :: 13 :: 14 :: 15 :: 16 :: 17 :: 18 :: []) (fun (R : Str) v w' => w' = w ∧ ∃ D, l = D ++ R ∧ v = .int .i64 (D.length : Nat) ∧ Qbh p l = D.length + Qbh p R) (fun R => R.length) (l) ?_ Yb ?_
 ·exact ⟨rfl, [], rfl, rfl, by simp⟩
 rintro R _ w1 jv ⟨rfl, D, hD, rfl, hN⟩ ih
 have hlen : l.length = D.length + R.length := by rw [hD, List.length_append]
 cases R with
 | nil =>
  simp only [List.length_nil] at hlen
  refine Zc4 ?_
  refine Za5 ?_
  refine Zr ?_
  refine Zc5 ?_
  refine ZS ?_
  refine Zbp ?_
  refine ZQ ?_
  refine Qc Tryz.func172 rfl Yb ?_
  exact ⟨by rw [hN]; rfl, rfl⟩
 | cons c r =>
  simp only [List.length_cons] at hlen
  have hget : l[((D.length : Nat) : Int).toNat]? = some c := by rw [hD]; simp
  refine Zc4 ?_
  refine Za5 ?_
  refine ZaM ?_
  refine Zaj ?_
  refine ZbT ?_
  refine Zv ?_
  refine QbM (QkY rfl hc (Qoe Yb)) rfl ?_
  refine Calls.mono (hg c _) ?_
  rintro _ w2 ⟨rfl, rfl⟩
  refine Za ?_
  cases hp : p c with
  | true =>
   refine ZaK ?_
   refine Zb2 ?_
   refine ZU ?_
   refine Zz ?_
   refine Zc ?_
   refine ZaH ?_
   refine ih (r) _ _ _ ?_ ?_ Yb Yc
   ·simp
   ·exact ⟨rfl, D ++ [c], by rw [hD, List.append_assoc]; rfl, by simp, by rw [hN]; simp only [Qbh, hp, cond_true, List.length_append, List.length_cons, List.length_nil]; omega⟩
  | false =>
   refine ZS ?_
   refine Zbp ?_
   refine ZQ ?_
   refine Qc Tryz.func172 rfl Yb ?_
   exact ⟨by rw [hN]; simp [Qbh, hp], rfl⟩
structure Qpp : Prop where
 prefix_ : ∀ (l m : Str) (w : World), Calls Tryz.prog 173 #[sv l, sv m] w fun e w' => e = .returned (.bool (m.isPrefixOf l)) ∧ w' = w
 sign : ∀ (c : UInt8) (w : World), Calls Tryz.prog 129 #[sv Qeo, .int .u8 c.toNat] w fun e w' => (∃ i : Int, e = .returned (.int .i64 i) ∧ decide (i ≥ 0) = Qeo.contains c) ∧ w' = w
theorem QdA (L1 : Qpp) (l : Str) (w : World) (hl : l.length ≤ 1048576) : Calls Tryz.prog 113 #[sv l] w fun e w' => e = .returned (.int .i64 (Q7 l : Nat)) ∧ w' = w := by
 cases l with
 | nil =>
  refine Qh Tryz.func113 rfl Tryz.ntmps113 rfl ?_
  refine Zj ?_
  refine Zap ?_
  refine Zm ?_
  refine ZdW ?_
  refine ZI ?_
  refine Zj ?_
  refine Zbu ?_
  exact ⟨rfl, rfl⟩
 | cons c r =>
  have h1 := Qc4 QdQ r
  have h2 := Qc4 Qbu r
  simp only [List.length_cons] at hl
  refine Qh Tryz.func113 rfl Tryz.ntmps113 rfl ?_
  refine Zj ?_
  refine Zap ?_
  refine Zm ?_
  refine ZdW ?_
  refine ZR ?_
  refine Zm ?_
  refine ZbT ?_
  refine Zk ?_
  refine Calls.mono (QhP c _) ?_
  rintro _ w1 ⟨rfl, rfl⟩
  refine Za ?_
  refine Ze ?_
  cases hu : upB c with
  | true =>
   refine ZY ?_
   refine Zan ?_
   refine Zcn ?_
   refine Zm ?_
   refine ZeR ?_
   refine Zf ?_
   refine Calls.mono (QgH QdQ _ Yc QbD r _ Ya) ?_
   rintro _ w2 ⟨rfl, rfl⟩
   refine Za ?_
   refine Zz ?_
   refine Zc ?_
   refine Zbu ?_
   refine ⟨?_, rfl⟩
   simp [Q7, hu]
  | false =>
   refine ZO ?_
   refine ZbT ?_
   refine Zv ?_
   refine Zk ?_
   refine Calls.mono (QbD c _) ?_
   rintro _ w2 ⟨rfl, rfl⟩
   refine Za ?_
   refine ZN ?_
   cases hlo : QdQ c with
   | true =>
    refine ZI ?_
    refine Zm ?_
    refine ZeR ?_
    refine Zf ?_
    refine Calls.mono (QgH QdQ _ Yc QbD r _ Ya) ?_
    rintro _ w3 ⟨rfl, rfl⟩
    refine Za ?_
    refine Zz ?_
    refine Zc ?_
    refine Zbu ?_
    refine ⟨?_, rfl⟩
    simp [Q7, hu, hlo]
   | false =>
    refine ZR ?_
    refine Zm ?_
    refine ZbT ?_
    refine Zk ?_
    refine Calls.mono (Qdc c _) ?_
    rintro _ w3 ⟨rfl, rfl⟩
    refine ZH ?_
    cases hd : Qbu c with
    | true =>
     refine ZI ?_
     refine Zbq ?_
     refine Calls.mono (QgH Qbu _ Yc Qdc (c :: r) _ Yh) ?_
     rintro _ w4 ⟨rfl, rfl⟩
     refine ZH ?_
     refine Zbu ?_
     refine ⟨?_, rfl⟩
     simp [Q7, hu, hlo, hd]
    | false =>
     by_cases hm : c = 45
     ·subst hm
      refine ZR ?_
      refine Zm ?_
      refine ZbT ?_
      refine Zci ?_
      refine ZI ?_
      refine Zm ?_
      refine ZeR ?_
      refine Zf ?_
      refine Calls.mono (QgH Qbu _ Yc Qdc r _ Ya) ?_
      rintro _ w4 ⟨rfl, rfl⟩
      refine ZH ?_
      refine Zm ?_
      refine ZP ?_
      refine Zb ?_
      refine Qcn rfl (fun h => ?_) (fun h => ?_)
      ·have h' : 0 < Qbh Qbu r := by have := of_decide_eq_true h; omega
       refine Zm ?_
       refine Zz ?_
       refine Zc ?_
       refine Zbu ?_
       refine ⟨?_, rfl⟩
       simp [Q7, hu, hlo, hd, h']
      ·have h' : ¬ 0 < Qbh Qbu r := by have := of_decide_eq_false h; omega
       refine ZbD ?_
       refine Zj ?_
       refine Zbu ?_
       refine ⟨?_, rfl⟩
       simp [Q7, hu, hlo, hd, h']
     ·have hm' : ((c.toNat : Nat) : Int) ≠ 45 := fun h => hm (QtV (n := 45) Ya)
      refine ZR ?_
      refine Zm ?_
      refine ZbT ?_
      refine Zci ?_
      refine ZR ?_
      refine Zbq ?_
      refine Calls.mono (L1.prefix_ (c :: r) [58, 45] _) ?_
      rintro _ w4 ⟨rfl, rfl⟩
      refine ZH ?_
      cases hp : ([58, 45] : Str).isPrefixOf (c :: r) with
      | true =>
       refine ZI ?_
       refine Zj ?_
       refine Zbu ?_
       refine ⟨?_, rfl⟩
       simp only [Q7, hu, hlo, hd, hm, hp]; rfl
      | false =>
       refine ZR ?_
       refine Zm ?_
       refine ZbT ?_
       refine Zf ?_
       refine Calls.mono (L1.sign c _) ?_
       rintro _ w5 ⟨⟨i, rfl, hi⟩, rfl⟩
       refine Za ?_
       refine ZW ?_
       refine Zc ?_
       refine Qcn rfl (fun h => ?_) (fun h => ?_)
       ·refine Zj ?_
        refine Zbu ?_
        refine ⟨?_, rfl⟩
        have hs : Qeo.contains c = true := by rw [← hi]; exact h
        simp only [Q7, hu, hlo, hd, hm, hp, hs]; rfl
       ·refine ZbD ?_
        refine Zj ?_
        refine Zbu ?_
        refine ⟨?_, rfl⟩
        have hs : Qeo.contains c = false := by rw [← hi]; exact h
        simp only [Q7, hu, hlo, hd, hm, hp, hs]; rfl
end Go.Proofs.YthliapbflkfdiacGreatDoor
