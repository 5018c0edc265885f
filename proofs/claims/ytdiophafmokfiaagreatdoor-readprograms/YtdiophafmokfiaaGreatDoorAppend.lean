/-
  append onto a slice of the call's own. No program is named here.
-/
import Derived.Test.YtdiophafmokfiaaGreatDoorG3
import Derived.Deep.AppendSrc
import Derived.Room.Entries
namespace Go.Proofs.YtdiophafmokfiaaGreatDoor
open Go.RowKit
set_option linter.unusedSimpArgs false
set_option linter.unusedVariables false

/-- The value v is a slice of the call's own, of len elements of sz cells each: the cells xs; O: its block. -/
inductive Row (el sz : Nat) : Value → Nat → List Value → List (Nat × Obj) → Prop
  | nil_ : Row el sz (.slice none 0 0) 0 [] []
  | own_ {b len cap : Nat} {xs sp : List Value} (hx : xs.length = len * sz) (hc : (xs ++ sp).length = cap * sz) (hle : len ≤ cap) (hcp : 0 < cap) : Row el sz (.slice (some ⟨b, 0, none⟩) len cap) len xs [(b, .cells (xs ++ sp).toArray el)]
theorem Row.len_ {el sz len : Nat} {v : Value} {xs : List Value} {O : List (Nat × Obj)} (h : Row el sz v len xs O) : xs.length = len * sz := by
  cases h with
  | nil_ => simp
  | own_ hx _ _ _ => exact hx
theorem Row.form {el sz len : Nat} {v : Value} {xs : List Value} {O : List (Nat × Obj)} (h : Row el sz v len xs O) : ∃ A c, v = .slice A len c := by
  cases h with
  | nil_ => exact ⟨_, _, rfl⟩
  | own_ _ _ _ _ => exact ⟨_, _, rfl⟩
theorem Row.built {el sz b len : Nat} {xs : List Value} (hx : xs.length = len * sz) (hp : 0 < len) : Row el sz (.slice (some ⟨b, 0, none⟩) len len) len xs [(b, .cells xs.toArray el)] := by
  have := Row.own_ (el := el) (sz := sz) (b := b) (len := len) (cap := len) (xs := xs) (sp := []) hx (by simpa using hx) (Nat.le_refl _) hp
  simpa using this

section
variable {M : List Nat} {w0 w w' : World} {H H' : List (Nat × Obj)} {F : List (World → Prop)}
theorem St.perm (h : St M w0 H F w) (hp : H.Perm H') : St M w0 H' F w :=
  ⟨fun p hq => h.own p (hp.mem_iff.2 hq), (hp.pairwise_iff (fun {x y} hxy => Ne.symm hxy)).1 h.apart, h.ext, fun p hq => h.new p (hp.mem_iff.2 hq),
    fun φ hφ w2 hw => h.facts φ hφ w2 (hw.mono fun k _ hk => (hp.map _).mem_iff.2 hk)⟩
theorem St.sink {x : Nat × Obj} {L : List (Nat × Obj)} (h : St M w0 (x :: (L ++ H)) F w) : St M w0 (L ++ x :: H) F w := h.perm List.perm_middle.symm
theorem St.raise {x : Nat × Obj} {L : List (Nat × Obj)} (h : St M w0 (L ++ x :: H) F w) : St M w0 (x :: (L ++ H)) F w := h.perm List.perm_middle
theorem St.sink1 {x p : Nat × Obj} {L : List (Nat × Obj)} (h : St M w0 (x :: p :: (L ++ H)) F w) : St M w0 (p :: (L ++ x :: H)) F w := h.perm (List.perm_middle (l₁ := p :: L)).symm
theorem St.raise1 {x p : Nat × Obj} {L : List (Nat × Obj)} (h : St M w0 (p :: (L ++ x :: H)) F w) : St M w0 (x :: p :: (L ++ H)) F w := h.perm (List.perm_middle (l₁ := p :: L))
theorem St.raise2 {x y p : Nat × Obj} {L : List (Nat × Obj)} (h : St M w0 (y :: p :: (L ++ x :: H)) F w) : St M w0 (x :: y :: p :: (L ++ H)) F w := h.perm (List.perm_middle (l₁ := y :: p :: L))
theorem St.up3 {x y p : Nat × Obj} (h : St M w0 (x :: y :: p :: H) F w) : St M w0 (p :: x :: y :: H) F w := h.perm (List.perm_middle (l₁ := [x, y]))
theorem St.down3 {x y p : Nat × Obj} (h : St M w0 (p :: x :: y :: H) F w) : St M w0 (x :: y :: p :: H) F w := h.perm (List.perm_middle (l₁ := [x, y])).symm
theorem St.swap {x p : Nat × Obj} (h : St M w0 (x :: p :: H) F w) : St M w0 (p :: x :: H) F w := h.perm (List.Perm.swap _ _ _)
theorem St.dropL {L : List (Nat × Obj)} (h : St M w0 (L ++ H) F w) : St M w0 H F w := by
  induction L with
  | nil => exact h
  | cons x L ih => exact ih h.drop
end
theorem setCells_row {b : Nat} {ct : TypeId} : ∀ (vs : List Value) (o : Nat) (cs : List Value) (w : World), w.heap[b]? = some (.cells cs.toArray ct) → o + vs.length ≤ cs.length →
    (w.setCells b o vs).heap[b]? = some (.cells (cs.take o ++ vs ++ cs.drop (o + vs.length)).toArray ct) ∧ Ext [b] w (w.setCells b o vs)
  | [], o, cs, w, h, hl => by simp [World.setCells, h]; exact Ext.refl _ _
  | v :: r, o, cs, w, h, hl => by
    simp only [List.length_cons] at hl
    have h1 := setCell_own h o v
    obtain ⟨h2, h3⟩ := setCells_row r (o + 1) (cs.set o v) _ h1 (by simp; omega)
    refine ⟨?_, (setCell_ext b o v).trans h3⟩
    unfold World.setCells
    rw [h2]
    congr 3
    have ho : o < cs.length := by omega
    rw [List.take_set, List.drop_set, if_pos (by omega)]
    have : (cs.take (o + 1)).set o v = cs.take o ++ [v] := by
      rw [List.take_succ_eq_append_getElem ho, List.set_append_right _ _ (by simp; omega)]
      simp [List.length_take, Nat.min_eq_left (Nat.le_of_lt ho)]
    rw [this, show o + 1 + r.length = o + (v :: r).length by simp; omega]
    simp

/-- A string's bytes, as cells. -/
def bytesV (l : Str) : List Value := l.map fun b => Value.int .u8 b.toNat
section
variable {P : Program} {n : Nat} {e : Env} {w : World} {Q : Exit → Act → World → Prop} {ops : Array Oper} {rest : List Oper} {ty : TypeId} {pos : String} {after : Array Edge} {d : Nat}
variable {M : List Nat} {w0 : World} {H H' : List (Nat × Obj)} {F : List (World → Prop)} {b : Nat} {x y : Operand} {v : Value} {t tx : TypeId}
/-- append(s, ys...), where ys is a slice of the call's own, too. -/
theorem lst_append {el len k c' : Nat} {xs ys : List Value} {O : List (Nat × Obj)} {i : TypeInfo} {z : Value} {sp' : List Value} (hS : St M w0 H F w) (hx : ev n e x = v) (hy : ev n e y = .slice (some ⟨b, 0, none⟩) k c')
    (hT : isSliceP P t = some el) (hTx : isSliceP P tx = some el) (hi : P.info? el = some i) (hz : i.zero = some z) (hzs : z.cells.size = i.size) (hrow : Row el i.size v len xs O) (hys : ys.length = k * i.size) (h1 : ys.all (·.oneCell') = true)
    (hP : H.Perm ((b, .cells (ys ++ sp').toArray el) :: (O ++ H'))) (hfit : 2 * (len + k) * i.bytes ≤ 281474976710656) (hbig : len + k ≤ 4611686018427387904) (hd : Nat.blt d n = true)
    (h : ∀ v' O' w', Row el i.size v' (len + k) (xs ++ ys) O' → St M w0 (O' ++ H') F w' → Lst P Q ops rest n ((d, v') :: e) w') :
    Lst P Q ops (⟨some d, .call ⟨.builtin .append, #[x, y], #[t, tx]⟩, ty, pos, after, none⟩ :: rest) n e w := by
  have hS := hS.perm hP
  have hb := hS.own _ (List.mem_cons_self ..)
  have hlen := hrow.len_
  have hsrc : ∀ w'', (∀ p ∈ ((b, Obj.cells (ys ++ sp').toArray el) :: (O ++ H')), w''.heap[p.1]? = some p.2) → Src P i.size tx (.slice (some ⟨b, 0, none⟩) k c') k ys w'' := fun w'' ho => by
    refine Src.ofSlice w'' (sliceP hTx) ⟨b, 0, none⟩ k c' ys hys (fun j u hj => ?_) (fun u hu => List.all_eq_true.1 h1 u hu)
    have hjl : j < ys.length := by
      rcases Nat.lt_or_ge j ys.length with hl | hl
      · exact hl
      · rw [List.getElem?_eq_none hl] at hj; cases hj
    rw [addrPlus, cell_own (ho _ (List.mem_cons_self ..)), Nat.zero_add, List.getElem?_append_left hjl]; exact hj
  have hop : ∀ r w2, (Builtin.append_ #[t, tx] ty #[v, .slice (some ⟨b, 0, none⟩) k c']).run P w = .ok r w2 → (execOp (ev n e) ⟨some d, .call ⟨.builtin .append, #[x, y], #[t, tx]⟩, ty, pos, after, none⟩).run P w = .ok (.value r) w2 := by
    intro r w2 hr
    simp only [execOp, resolve, List.map_toArray, List.map_cons, List.map_nil, hx, hy, bind, pure, Sem.bind, invoke, builtin]
    rw [Sem.run_bind', hr]
    rfl
  have grow : ∀ (A : Option Addr) (cap : Nat), v = .slice A len cap → cap < len + k → (Builtin.firstCells i.size len (.slice A len cap)).run P w.drew = .ok xs.toArray w.drew → Lst P Q ops (⟨some d, .call ⟨.builtin .append, #[x, y], #[t, tx]⟩, ty, pos, after, none⟩ :: rest) n e w := by
    intro A cap hv hcap hold
    have hn := Go.Room.nextslicecap_le' hcap
    have hr := run_append_grow_src (P := P) w t tx ty el i z (sliceP hT) hi hz A len cap xs hold (.slice (some ⟨b, 0, none⟩) k c') k ys (hsrc w hS.own) hcap (by omega) (Nat.le_trans (Nat.mul_le_mul_right _ hn) hfit)
    rw [← hv] at hr
    refine lst_run (hop _ _ hr) hd ?_
    have hcapn : len + k ≤ grownCap w (len + k) cap el := by unfold grownCap Question.cut; exact Nat.le_add_right _ _
    generalize grownCap w (len + k) cap el = nc at hcapn
    have hzc : (Builtin.zeroCells z.cells (nc - (len + k))) = (Builtin.zeroCells z.cells (nc - (len + k))).toList.toArray := by simp
    have hzl : (Builtin.zeroCells z.cells (nc - (len + k))).toList.length = (nc - (len + k)) * i.size := by simp [Builtin.zeroCells, hzs]
    generalize (Builtin.zeroCells z.cells (nc - (len + k))).toList = zl at hzc hzl
    rw [hzc]
    have hS2 := (hS.drew.alloc (.cells ((xs ++ ys) ++ zl).toArray el))
    rw [show (xs ++ ys).toArray ++ zl.toArray = ((xs ++ ys) ++ zl).toArray by simp]
    refine h _ [(w.heap.size, .cells ((xs ++ ys) ++ zl).toArray el)] _ (Row.own_ ?_ ?_ hcapn (by omega)) ?_
    · rw [List.length_append, hlen, hys, Nat.add_mul]
    · rw [List.length_append, List.length_append, hlen, hys, hzl, ← Nat.add_mul, ← Nat.add_mul]; congr 1; omega
    · have h3 : St M w0 ((w.heap.size, .cells ((xs ++ ys) ++ zl).toArray el) :: (b, Obj.cells (ys ++ sp').toArray el) :: (O ++ H')) F _ := hS2
      have h4 := h3.perm (List.Perm.swap _ _ _)
      have h5 := h4.drop
      exact St.dropL (L := O) h5.sink
  cases hrow with
  | nil_ =>
    by_cases hk : k = 0
    · subst hk
      obtain rfl : ys = [] := List.eq_nil_of_length_eq_zero (by simpa using hys)
      have hr : (Builtin.append_ #[t, tx] ty #[.slice none 0 0, .slice (some ⟨b, 0, none⟩) 0 c']).run P w = .ok (.slice none 0 0) w := by
        have hu := run_underlying (sliceP hT) w
        have hu2 := run_underlying (sliceP hTx) w
        have hs2 := (hsrc w hS.own).cells
        simp [Builtin.append_, hu, hu2, sizeOf, typeInfo, hi, Builtin.lenOf, hs2]
      refine lst_run (hop _ _ hr) hd (h _ [] _ Row.nil_ hS.drop)
    · exact grow none 0 rfl (by omega) (by simp [Builtin.firstCells, Sem.run, pure])
  | own_ hx2 hc2 hle hcp =>
    rename_i bl cap sp
    have hbl : w.heap[bl]? = some (.cells (xs ++ sp).toArray el) := hS.own (bl, _) (by simp)
    by_cases hroom : len + k ≤ cap
    · have hcc : (xs ++ sp).length = cap * i.size := hc2
      have hfitc : len * i.size + ys.length ≤ (xs ++ sp).length := by rw [hcc, hys, ← Nat.add_mul]; exact Nat.mul_le_mul_right _ hroom
      have hr := run_append_room_src (P := P) w t tx ty el i (sliceP hT) hi bl 0 len cap (.slice (some ⟨b, 0, none⟩) k c') k ys (hsrc w hS.own) hroom
        (fun j hj => by rw [cell_own hbl, Nat.zero_add]; simp only [Option.isSome_iff_exists]; exact ⟨_, List.getElem?_eq_getElem (by omega)⟩) (fun j hj => by simp [World.frozen?, hbl])
      obtain ⟨hs1, hs2⟩ := setCells_row ys (0 + len * i.size) (xs ++ sp) w hbl (by omega)
      refine lst_run (hop _ _ hr) hd ?_
      have hu : Upd ((b, Obj.cells (ys ++ sp').toArray el) :: ([(bl, Obj.cells (xs ++ sp).toArray el)] ++ H')) bl (.cells (xs ++ sp).toArray el) (.cells ((xs ++ sp).take (0 + len * i.size) ++ ys ++ (xs ++ sp).drop (0 + len * i.size + ys.length)).toArray el)
          ((b, Obj.cells (ys ++ sp').toArray el) :: (bl, .cells ((xs ++ sp).take (0 + len * i.size) ++ ys ++ (xs ++ sp).drop (0 + len * i.size + ys.length)).toArray el) :: H') := .tail .head
      have h3 := (hS.turn hu hs2 hs1).drop
      have e1 : (xs ++ sp).take (0 + len * i.size) = xs := by rw [Nat.zero_add, ← hx2]; simp
      have e2 : (xs ++ sp).drop (0 + len * i.size + ys.length) = sp.drop ys.length := by
        rw [Nat.zero_add, ← hx2]; simp [List.drop_append]
      rw [e1, e2] at h3
      refine h _ _ _ (Row.own_ (b := bl) (sp := sp.drop ys.length) ?_ ?_ hroom hcp) h3
      · rw [List.length_append, hx2, hys, Nat.add_mul]
      · simp only [List.length_append, List.length_drop] at hcc hfitc ⊢
        omega
    · refine grow _ cap rfl (by omega) ?_
      have := run_firstCells_some (P := P) w.drew i.size len ⟨bl, 0, none⟩ len cap xs hx2 (fun j u hj => ?_)
      · exact this
      · have hjl : j < xs.length := by
          rcases Nat.lt_or_ge j xs.length with hl | hl
          · exact hl
          · rw [List.getElem?_eq_none hl] at hj; cases hj
        rw [addrPlus, cell_own (w := w.drew) hbl, Nat.zero_add, List.getElem?_append_left hjl]; exact hj
/-- The cells and bytes of an element. -/
def rowP (P : Program) (el : TypeId) : Option (Nat × Nat) := match P.info? el with
  | some i => match i.zero with
    | some z => bif Nat.beq z.cells.toList.length i.size then some (i.size, i.bytes) else none
    | none => none
  | none => none
theorem rowP_some {el sz bts : Nat} (h : rowP P el = some (sz, bts)) : ∃ i z, P.info? el = some i ∧ i.zero = some z ∧ z.cells.size = i.size ∧ i.size = sz ∧ i.bytes = bts := by
  unfold rowP at h
  split at h
  · rename_i i hi
    split at h
    · rename_i z hz
      cases hb : Nat.beq z.cells.toList.length i.size with
      | false => rw [hb] at h; cases h
      | true =>
        rw [hb] at h
        simp only [cond_true, Option.some.injEq, Prod.mk.injEq] at h
        exact ⟨i, z, hi, hz, by simpa using Nat.eq_of_beq_eq_true hb, h.1, h.2⟩
    · cases h
  · cases h
theorem lst_app {el len k c' sz bts : Nat} {xs ys : List Value} {O : List (Nat × Obj)} (hS : St M w0 H F w) (hx : ev n e x = v) (hy : ev n e y = .slice (some ⟨b, 0, none⟩) k c')
    (hT : isSliceP P t = some el) (hTx : isSliceP P tx = some el) (hi : rowP P el = some (sz, bts)) (hrow : Row el sz v len xs O) (hys : ys.length = k * sz) (h1 : ys.all (·.oneCell') = true)
    (hP : H.Perm ((b, .cells ys.toArray el) :: (O ++ H'))) (hfit : 2 * (len + k) * bts ≤ 281474976710656) (hbig : len + k ≤ 4611686018427387904) (hd : Nat.blt d n = true)
    (h : ∀ v' O' w', Row el sz v' (len + k) (xs ++ ys) O' → St M w0 (O' ++ H') F w' → Lst P Q ops rest n ((d, v') :: e) w') :
    Lst P Q ops (⟨some d, .call ⟨.builtin .append, #[x, y], #[t, tx]⟩, ty, pos, after, none⟩ :: rest) n e w := by
  obtain ⟨i, z, h2, h3, h4, rfl, rfl⟩ := rowP_some hi
  exact lst_append (sp' := []) hS hx hy hT hTx h2 h3 h4 hrow hys h1 (by simpa using hP) hfit hbig hd h
/-- A result that lies in a block of the call's own. -/
theorem goes_retC {f : FuncId} {R : Ending → World → Prop} {k : List Item} {fn : Func} {a sz : Nat} {o : Nat} {cs vs : List Value} {ct : TypeId} (hS : St M w0 H F w) (hf : P.funcs[f]? = some fn) (hr : fn.results = #[.cell a t]) (hv : ev n e (.tmp a) = .pointer (some ⟨b, o, none⟩))
    (hA : aggOf P t = some true) (hs : cellsP P t = some sz) (hb : At H b (.cells cs.toArray ct)) (hc : Cut cs o sz vs) (hR : R (.returned (.agg vs.toArray)) w) : Goes P f R (.code .ret :: k) (act n e) w := by
  unfold Goes
  intro fr cs' hb' hk
  refine ⟨.returned (.agg vs.toArray), w, { fr.at (act n e) (.code .ret :: k) with mode := .returning }, hR, Steps.one step_ret, hb', rfl, rfl, hk, fn, ?_, ?_⟩
  · show P.funcs[fr.fn]? = some fn
    rw [hb']; exact hf
  · show (results fn (arr n e)).run P w = _
    have h1 := run_isAgg (w := w) hA
    have h2 := run_sizeP (w := w) hs
    have h3 := run_loadCells_list (P := P) (w := w) ⟨b, o, none⟩ vs (fun j v hj => by
      rw [addrPlus, cell_own (hS.at_ hb)]
      have hjk : j < sz := by
        rcases Nat.lt_or_ge j sz with h | h
        · exact h
        · rw [List.getElem?_eq_none (by rw [hc.length]; exact h)] at hj; cases hj
      rw [hc.get j hjk]; exact hj)
    rw [hc.length] at h3
    have hv' : (arr n e).getD a undef = .pointer (some ⟨b, o, none⟩) := by rw [arr_getD]; exact hv
    simp only [Array.getD_eq_getD_getElem?] at hv'
    simp only [results, hr]
    simp [hv', asAddr, loadVar, h1, h2, h3]
/-- append(s, x...), where x is a string. -/
theorem lst_appendStr {el len k : Nat} {l : Str} {xs : List Value} {O : List (Nat × Obj)} {i : TypeInfo} {z : Value} (hS : St M w0 H F w) (hx : ev n e x = v) (hy : ev n e y = sv l) (hk : l.length = k)
    (hT : isSliceP P t = some el) (hTx : isStringP P tx = true) (hz1 : i.size = 1) (hi : P.info? el = some i) (hz : i.zero = some z) (hzs : z.cells.size = i.size) (hrow : Row el i.size v len xs O) (hP : H.Perm (O ++ H')) (hfit : 2 * (len + k) * i.bytes ≤ 281474976710656) (hbig : len + k ≤ 4611686018427387904) (hd : Nat.blt d n = true)
    (h : ∀ v' O' w', Row el i.size v' (len + k) (xs ++ bytesV l) O' → St M w0 (O' ++ H') F w' → Lst P Q ops rest n ((d, v') :: e) w') :
    Lst P Q ops (⟨some d, .call ⟨.builtin .append, #[x, y], #[t, tx]⟩, ty, pos, after, none⟩ :: rest) n e w := by
  have hS := hS.perm hP
  have hlen := hrow.len_
  generalize hy2 : bytesV l = ys at h
  have hys : ys.length = k * i.size := by rw [← hy2, hz1, ← hk]; simp [bytesV]
  have hsrc : ∀ w'' : World, Src P i.size tx (sv l) k ys w'' := fun w'' => by
    have h := Src.ofString (P := P) w'' (tx := tx) (stringP hTx) ⟨l.toArray⟩
    rw [size_mk, hk] at h
    rw [hz1, ← hy2]
    have e : byteCells ⟨l.toArray⟩ = bytesV l := by simp [byteCells, bytesV]
    rw [e] at h
    exact h
  have hop : ∀ r w2, (Builtin.append_ #[t, tx] ty #[v, sv l]).run P w = .ok r w2 → (execOp (ev n e) ⟨some d, .call ⟨.builtin .append, #[x, y], #[t, tx]⟩, ty, pos, after, none⟩).run P w = .ok (.value r) w2 := by
    intro r w2 hr
    simp only [execOp, resolve, List.map_toArray, List.map_cons, List.map_nil, hx, hy, bind, pure, Sem.bind, invoke, builtin]
    rw [Sem.run_bind', hr]
    rfl
  have grow : ∀ (A : Option Addr) (cap : Nat), v = .slice A len cap → cap < len + k → (Builtin.firstCells i.size len (.slice A len cap)).run P w.drew = .ok xs.toArray w.drew → Lst P Q ops (⟨some d, .call ⟨.builtin .append, #[x, y], #[t, tx]⟩, ty, pos, after, none⟩ :: rest) n e w := by
    intro A cap hv hcap hold
    have hn := Go.Room.nextslicecap_le' hcap
    have hr := run_append_grow_src (P := P) w t tx ty el i z (sliceP hT) hi hz A len cap xs hold (sv l) k ys (hsrc w) hcap (by omega) (Nat.le_trans (Nat.mul_le_mul_right _ hn) hfit)
    rw [← hv] at hr
    refine lst_run (hop _ _ hr) hd ?_
    have hcapn : len + k ≤ grownCap w (len + k) cap el := by unfold grownCap Question.cut; exact Nat.le_add_right _ _
    generalize grownCap w (len + k) cap el = nc at hcapn
    have hzc : (Builtin.zeroCells z.cells (nc - (len + k))) = (Builtin.zeroCells z.cells (nc - (len + k))).toList.toArray := by simp
    have hzl : (Builtin.zeroCells z.cells (nc - (len + k))).toList.length = (nc - (len + k)) * i.size := by simp [Builtin.zeroCells, hzs]
    generalize (Builtin.zeroCells z.cells (nc - (len + k))).toList = zl at hzc hzl
    rw [hzc]
    have hS2 := (hS.drew.alloc (.cells ((xs ++ ys) ++ zl).toArray el))
    rw [show (xs ++ ys).toArray ++ zl.toArray = ((xs ++ ys) ++ zl).toArray by simp]
    refine h _ [(w.heap.size, .cells ((xs ++ ys) ++ zl).toArray el)] _ (Row.own_ ?_ ?_ hcapn (by omega)) ?_
    · rw [List.length_append, hlen, hys, Nat.add_mul]
    · rw [List.length_append, List.length_append, hlen, hys, hzl, ← Nat.add_mul, ← Nat.add_mul]; congr 1; omega
    · have h5 : St M w0 ((w.heap.size, .cells ((xs ++ ys) ++ zl).toArray el) :: (O ++ H')) F _ := hS2
      exact St.dropL (L := O) h5.sink
  cases hrow with
  | nil_ =>
    by_cases hk0 : k = 0
    · subst hk0
      have hl0 : l = [] := List.eq_nil_of_length_eq_zero hk
      have hye : ys = [] := List.eq_nil_of_length_eq_zero (by simpa using hys)
      rw [hye] at h
      have hr : (Builtin.append_ #[t, tx] ty #[.slice none 0 0, sv l]).run P w = .ok (.slice none 0 0) w := by
        have hu := run_underlying (sliceP hT) w
        have hu2 := run_underlying (stringP hTx) w
        subst hl0
        simp [Builtin.append_, hu, hu2, sizeOf, typeInfo, hi, Builtin.lenOf, Builtin.firstCells, size_mk]
      refine lst_run (hop _ _ hr) hd (h _ [] _ Row.nil_ hS)
    · exact grow none 0 rfl (by omega) (by simp [Builtin.firstCells, Sem.run, pure])
  | own_ hx2 hc2 hle hcp =>
    rename_i bl cap sp
    have hbl : w.heap[bl]? = some (.cells (xs ++ sp).toArray el) := hS.own (bl, _) (by simp)
    by_cases hroom : len + k ≤ cap
    · have hcc : (xs ++ sp).length = cap * i.size := hc2
      have hfitc : len * i.size + ys.length ≤ (xs ++ sp).length := by rw [hcc, hys, ← Nat.add_mul]; exact Nat.mul_le_mul_right _ hroom
      have hr := run_append_room_src (P := P) w t tx ty el i (sliceP hT) hi bl 0 len cap (sv l) k ys (hsrc w) hroom
        (fun j hj => by rw [cell_own hbl, Nat.zero_add]; simp only [Option.isSome_iff_exists]; exact ⟨_, List.getElem?_eq_getElem (by omega)⟩) (fun j hj => by simp [World.frozen?, hbl])
      obtain ⟨hs1, hs2⟩ := setCells_row ys (0 + len * i.size) (xs ++ sp) w hbl (by omega)
      refine lst_run (hop _ _ hr) hd ?_
      have hu : Upd ([(bl, Obj.cells (xs ++ sp).toArray el)] ++ H') bl (.cells (xs ++ sp).toArray el) (.cells ((xs ++ sp).take (0 + len * i.size) ++ ys ++ (xs ++ sp).drop (0 + len * i.size + ys.length)).toArray el)
          ((bl, .cells ((xs ++ sp).take (0 + len * i.size) ++ ys ++ (xs ++ sp).drop (0 + len * i.size + ys.length)).toArray el) :: H') := .head
      have h3 := hS.turn hu hs2 hs1
      have e1 : (xs ++ sp).take (0 + len * i.size) = xs := by rw [Nat.zero_add, ← hx2]; simp
      have e2 : (xs ++ sp).drop (0 + len * i.size + ys.length) = sp.drop ys.length := by
        rw [Nat.zero_add, ← hx2]; simp [List.drop_append]
      rw [e1, e2] at h3
      refine h _ _ _ (Row.own_ (b := bl) (sp := sp.drop ys.length) ?_ ?_ hroom hcp) h3
      · rw [List.length_append, hx2, hys, Nat.add_mul]
      · simp only [List.length_append, List.length_drop] at hcc hfitc ⊢
        omega
    · refine grow _ cap rfl (by omega) ?_
      have := run_firstCells_some (P := P) w.drew i.size len ⟨bl, 0, none⟩ len cap xs hx2 (fun j u hj => ?_)
      · exact this
      · have hjl : j < xs.length := by
          rcases Nat.lt_or_ge j xs.length with hl | hl
          · exact hl
          · rw [List.getElem?_eq_none hl] at hj; cases hj
        rw [addrPlus, cell_own (w := w.drew) hbl, Nat.zero_add, List.getElem?_append_left hjl]; exact hj
theorem lst_appStr {el len : Nat} {l : Str} {xs : List Value} {O : List (Nat × Obj)} (hS : St M w0 H F w) (hx : ev n e x = v) (hy : ev n e y = sv l)
    (hT : isSliceP P t = some el) (hTx : isStringP P tx = true) (hi : rowP P el = some (1, 1)) (hrow : Row el 1 v len xs O)
    (hP : H.Perm (O ++ H')) (hfit : len + l.length ≤ 140737488355328) (hd : Nat.blt d n = true)
    (h : ∀ v' O' w', Row el 1 v' (len + l.length) (xs ++ bytesV l) O' → St M w0 (O' ++ H') F w' → Lst P Q ops rest n ((d, v') :: e) w') :
    Lst P Q ops (⟨some d, .call ⟨.builtin .append, #[x, y], #[t, tx]⟩, ty, pos, after, none⟩ :: rest) n e w := by
  obtain ⟨i, z, h2, h3, h4, h5, h6⟩ := rowP_some hi
  refine lst_appendStr hS hx hy rfl hT hTx h5 h2 h3 h4 (by rw [h5]; exact hrow) hP (by rw [h6]; omega) (by omega) hd ?_
  rw [h5]; exact h
end
end Go.Proofs.YtdiophafmokfiaaGreatDoor
