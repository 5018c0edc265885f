/- Append, HModel, Slc, Base, Rd, Loc, HMem, HOps: texts that follow one another, laid into one file. -/
import Derived.Test.YtjicoifjgokoiabG0
import Derived.Deep.AppendSrc
import Derived.Room.Entries
import Derived.WalkKit
import Derived.ProofKit
import Derived.Below
import Derived.Deep.Draws
import Derived.Maps.AppendAt
import Derived.Lib.Hide
import Derived.Test.YtjicoifjgokoiabProg
import Derived.Laws.StructEq
namespace Go.Proofs.Ytjicoifjgokoiab
open Go.RowKit
set_option linter.unusedSimpArgs false
set_option linter.unusedVariables false

/-- The value v is a slice of the call's own, of len elements of sz cells each: the cells xs; O: its block. -/
inductive Row (el sz : Nat) : Value → Nat → List Value → List (Nat × Obj) → Prop
  | nil_ : Row el sz (.slice none 0 0) 0 [] []
  | own_ {b len cap : Nat} {xs sp : List Value} (hx : xs.length = len * sz) (hc : (xs ++ sp).length = cap * sz) (hle : len ≤ cap) (hcp : 0 < cap) : Row el sz (.slice (some ⟨b, 0, none⟩) len cap) len xs [(b, .cells (xs ++ sp).toArray el)]
theorem Row.len_ {el sz len : Nat} {v : Value} {xs : List Value} {O : List (Nat × Obj)} (h : Row el sz v len xs O) : xs.length = len * sz := by
  cases h with
  | nil_ => simp
  | own_ hx _ _ _ => exact hx
theorem Row.form {el sz len : Nat} {v : Value} {xs : List Value} {O : List (Nat × Obj)} (h : Row el sz v len xs O) : ∃ A c, v = .slice A len c := by
  cases h with
  | nil_ => exact ⟨_, _, rfl⟩
  | own_ _ _ _ _ => exact ⟨_, _, rfl⟩
theorem Row.built {el sz b len : Nat} {xs : List Value} (hx : xs.length = len * sz) (hp : 0 < len) : Row el sz (.slice (some ⟨b, 0, none⟩) len len) len xs [(b, .cells xs.toArray el)] := by
  have := Row.own_ (el := el) (sz := sz) (b := b) (len := len) (cap := len) (xs := xs) (sp := []) hx (by simpa using hx) (Nat.le_refl _) hp
  simpa using this

section
variable {M : List Nat} {w0 w w' : World} {H H' : List (Nat × Obj)} {F : List (World → Prop)}
theorem St.perm (h : St M w0 H F w) (hp : H.Perm H') : St M w0 H' F w :=
  ⟨fun p hq => h.own p (hp.mem_iff.2 hq), (hp.pairwise_iff (fun {x y} hxy => Ne.symm hxy)).1 h.apart, h.ext, fun p hq => h.new p (hp.mem_iff.2 hq),
    fun φ hφ w2 hw => h.facts φ hφ w2 (hw.mono fun k _ hk => (hp.map _).mem_iff.2 hk)⟩
theorem St.sink {x : Nat × Obj} {L : List (Nat × Obj)} (h : St M w0 (x :: (L ++ H)) F w) : St M w0 (L ++ x :: H) F w := h.perm List.perm_middle.symm
theorem St.raise {x : Nat × Obj} {L : List (Nat × Obj)} (h : St M w0 (L ++ x :: H) F w) : St M w0 (x :: (L ++ H)) F w := h.perm List.perm_middle
theorem St.sink1 {x p : Nat × Obj} {L : List (Nat × Obj)} (h : St M w0 (x :: p :: (L ++ H)) F w) : St M w0 (p :: (L ++ x :: H)) F w := h.perm (List.perm_middle (l₁ := p :: L)).symm
theorem St.raise1 {x p : Nat × Obj} {L : List (Nat × Obj)} (h : St M w0 (p :: (L ++ x :: H)) F w) : St M w0 (x :: p :: (L ++ H)) F w := h.perm (List.perm_middle (l₁ := p :: L))
theorem St.raise2 {x y p : Nat × Obj} {L : List (Nat × Obj)} (h : St M w0 (y :: p :: (L ++ x :: H)) F w) : St M w0 (x :: y :: p :: (L ++ H)) F w := h.perm (List.perm_middle (l₁ := y :: p :: L))
theorem St.up3 {x y p : Nat × Obj} (h : St M w0 (x :: y :: p :: H) F w) : St M w0 (p :: x :: y :: H) F w := h.perm (List.perm_middle (l₁ := [x, y]))
theorem St.down3 {x y p : Nat × Obj} (h : St M w0 (p :: x :: y :: H) F w) : St M w0 (x :: y :: p :: H) F w := h.perm (List.perm_middle (l₁ := [x, y])).symm
theorem St.swap {x p : Nat × Obj} (h : St M w0 (x :: p :: H) F w) : St M w0 (p :: x :: H) F w := h.perm (List.Perm.swap _ _ _)
theorem St.dropL {L : List (Nat × Obj)} (h : St M w0 (L ++ H) F w) : St M w0 H F w := by
  induction L with
  | nil => exact h
  | cons x L ih => exact ih h.drop
end
theorem setCells_row {b : Nat} {ct : TypeId} : ∀ (vs : List Value) (o : Nat) (cs : List Value) (w : World), w.heap[b]? = some (.cells cs.toArray ct) → o + vs.length ≤ cs.length →
    (w.setCells b o vs).heap[b]? = some (.cells (cs.take o ++ vs ++ cs.drop (o + vs.length)).toArray ct) ∧ Ext [b] w (w.setCells b o vs)
  | [], o, cs, w, h, hl => by simp [World.setCells, h]; exact Ext.refl _ _
  | v :: r, o, cs, w, h, hl => by
    simp only [List.length_cons] at hl
    have h1 := setCell_own h o v
    obtain ⟨h2, h3⟩ := setCells_row r (o + 1) (cs.set o v) _ h1 (by simp; omega)
    refine ⟨?_, (setCell_ext b o v).trans h3⟩
    unfold World.setCells
    rw [h2]
    congr 3
    have ho : o < cs.length := by omega
    rw [List.take_set, List.drop_set, if_pos (by omega)]
    have : (cs.take (o + 1)).set o v = cs.take o ++ [v] := by
      rw [List.take_succ_eq_append_getElem ho, List.set_append_right _ _ (by simp; omega)]
      simp [List.length_take, Nat.min_eq_left (Nat.le_of_lt ho)]
    rw [this, show o + 1 + r.length = o + (v :: r).length by simp; omega]
    simp

/-- A string's bytes, as cells. -/
def bytesV (l : Str) : List Value := l.map fun b => Value.int .u8 b.toNat
section
variable {P : Program} {n : Nat} {e : Env} {w : World} {Q : Exit → Act → World → Prop} {ops : Array Oper} {rest : List Oper} {ty : TypeId} {pos : String} {after : Array Edge} {d : Nat}
variable {M : List Nat} {w0 : World} {H H' : List (Nat × Obj)} {F : List (World → Prop)} {b : Nat} {x y : Operand} {v : Value} {t tx : TypeId}
/-- append(s, ys...), where ys is a slice of the call's own, too. -/
theorem lst_append {el len k c' : Nat} {xs ys : List Value} {O : List (Nat × Obj)} {i : TypeInfo} {z : Value} {sp' : List Value} (hS : St M w0 H F w) (hx : ev n e x = v) (hy : ev n e y = .slice (some ⟨b, 0, none⟩) k c')
    (hT : isSliceP P t = some el) (hTx : isSliceP P tx = some el) (hi : P.info? el = some i) (hz : i.zero = some z) (hzs : z.cells.size = i.size) (hrow : Row el i.size v len xs O) (hys : ys.length = k * i.size) (h1 : ys.all (·.oneCell') = true)
    (hP : H.Perm ((b, .cells (ys ++ sp').toArray el) :: (O ++ H'))) (hfit : 2 * (len + k) * i.bytes ≤ 281474976710656) (hbig : len + k ≤ 4611686018427387904) (hd : Nat.blt d n = true)
    (h : ∀ v' O' w', Row el i.size v' (len + k) (xs ++ ys) O' → St M w0 (O' ++ H') F w' → Lst P Q ops rest n ((d, v') :: e) w') :
    Lst P Q ops (⟨some d, .call ⟨.builtin .append, #[x, y], #[t, tx]⟩, ty, pos, after, none⟩ :: rest) n e w := by
  have hS := hS.perm hP
  have hb := hS.own _ (List.mem_cons_self ..)
  have hlen := hrow.len_
  have hsrc : ∀ w'', (∀ p ∈ ((b, Obj.cells (ys ++ sp').toArray el) :: (O ++ H')), w''.heap[p.1]? = some p.2) → Src P i.size tx (.slice (some ⟨b, 0, none⟩) k c') k ys w'' := fun w'' ho => by
    refine Src.ofSlice w'' (sliceP hTx) ⟨b, 0, none⟩ k c' ys hys (fun j u hj => ?_) (fun u hu => List.all_eq_true.1 h1 u hu)
    have hjl : j < ys.length := by
      rcases Nat.lt_or_ge j ys.length with hl | hl
      · exact hl
      · rw [List.getElem?_eq_none hl] at hj; cases hj
    rw [addrPlus, cell_own (ho _ (List.mem_cons_self ..)), Nat.zero_add, List.getElem?_append_left hjl]; exact hj
  have hop : ∀ r w2, (Builtin.append_ #[t, tx] ty #[v, .slice (some ⟨b, 0, none⟩) k c']).run P w = .ok r w2 → (execOp (ev n e) ⟨some d, .call ⟨.builtin .append, #[x, y], #[t, tx]⟩, ty, pos, after, none⟩).run P w = .ok (.value r) w2 := by
    intro r w2 hr
    simp only [execOp, resolve, List.map_toArray, List.map_cons, List.map_nil, hx, hy, bind, pure, Sem.bind, invoke, builtin]
    rw [Sem.run_bind', hr]
    rfl
  have grow : ∀ (A : Option Addr) (cap : Nat), v = .slice A len cap → cap < len + k → (Builtin.firstCells i.size len (.slice A len cap)).run P w.drew = .ok xs.toArray w.drew → Lst P Q ops (⟨some d, .call ⟨.builtin .append, #[x, y], #[t, tx]⟩, ty, pos, after, none⟩ :: rest) n e w := by
    intro A cap hv hcap hold
    have hn := Go.Room.nextslicecap_le' hcap
    have hr := run_append_grow_src (P := P) w t tx ty el i z (sliceP hT) hi hz A len cap xs hold (.slice (some ⟨b, 0, none⟩) k c') k ys (hsrc w hS.own) hcap (by omega) (Nat.le_trans (Nat.mul_le_mul_right _ hn) hfit)
    rw [← hv] at hr
    refine lst_run (hop _ _ hr) hd ?_
    have hcapn : len + k ≤ grownCap w (len + k) cap el := by unfold grownCap Question.cut; exact Nat.le_add_right _ _
    generalize grownCap w (len + k) cap el = nc at hcapn
    have hzc : (Builtin.zeroCells z.cells (nc - (len + k))) = (Builtin.zeroCells z.cells (nc - (len + k))).toList.toArray := by simp
    have hzl : (Builtin.zeroCells z.cells (nc - (len + k))).toList.length = (nc - (len + k)) * i.size := by simp [Builtin.zeroCells, hzs]
    generalize (Builtin.zeroCells z.cells (nc - (len + k))).toList = zl at hzc hzl
    rw [hzc]
    have hS2 := (hS.drew.alloc (.cells ((xs ++ ys) ++ zl).toArray el))
    rw [show (xs ++ ys).toArray ++ zl.toArray = ((xs ++ ys) ++ zl).toArray by simp]
    refine h _ [(w.heap.size, .cells ((xs ++ ys) ++ zl).toArray el)] _ (Row.own_ ?_ ?_ hcapn (by omega)) ?_
    · rw [List.length_append, hlen, hys, Nat.add_mul]
    · rw [List.length_append, List.length_append, hlen, hys, hzl, ← Nat.add_mul, ← Nat.add_mul]; congr 1; omega
    · have h3 : St M w0 ((w.heap.size, .cells ((xs ++ ys) ++ zl).toArray el) :: (b, Obj.cells (ys ++ sp').toArray el) :: (O ++ H')) F _ := hS2
      have h4 := h3.perm (List.Perm.swap _ _ _)
      have h5 := h4.drop
      exact St.dropL (L := O) h5.sink
  cases hrow with
  | nil_ =>
    by_cases hk : k = 0
    · subst hk
      obtain rfl : ys = [] := List.eq_nil_of_length_eq_zero (by simpa using hys)
      have hr : (Builtin.append_ #[t, tx] ty #[.slice none 0 0, .slice (some ⟨b, 0, none⟩) 0 c']).run P w = .ok (.slice none 0 0) w := by
        have hu := run_underlying (sliceP hT) w
        have hu2 := run_underlying (sliceP hTx) w
        have hs2 := (hsrc w hS.own).cells
        simp [Builtin.append_, hu, hu2, sizeOf, typeInfo, hi, Builtin.lenOf, hs2]
      refine lst_run (hop _ _ hr) hd (h _ [] _ Row.nil_ hS.drop)
    · exact grow none 0 rfl (by omega) (by simp [Builtin.firstCells, Sem.run, pure])
  | own_ hx2 hc2 hle hcp =>
    rename_i bl cap sp
    have hbl : w.heap[bl]? = some (.cells (xs ++ sp).toArray el) := hS.own (bl, _) (by simp)
    by_cases hroom : len + k ≤ cap
    · have hcc : (xs ++ sp).length = cap * i.size := hc2
      have hfitc : len * i.size + ys.length ≤ (xs ++ sp).length := by rw [hcc, hys, ← Nat.add_mul]; exact Nat.mul_le_mul_right _ hroom
      have hr := run_append_room_src (P := P) w t tx ty el i (sliceP hT) hi bl 0 len cap (.slice (some ⟨b, 0, none⟩) k c') k ys (hsrc w hS.own) hroom
        (fun j hj => by rw [cell_own hbl, Nat.zero_add]; simp only [Option.isSome_iff_exists]; exact ⟨_, List.getElem?_eq_getElem (by omega)⟩) (fun j hj => by simp [World.frozen?, hbl])
      obtain ⟨hs1, hs2⟩ := setCells_row ys (0 + len * i.size) (xs ++ sp) w hbl (by omega)
      refine lst_run (hop _ _ hr) hd ?_
      have hu : Upd ((b, Obj.cells (ys ++ sp').toArray el) :: ([(bl, Obj.cells (xs ++ sp).toArray el)] ++ H')) bl (.cells (xs ++ sp).toArray el) (.cells ((xs ++ sp).take (0 + len * i.size) ++ ys ++ (xs ++ sp).drop (0 + len * i.size + ys.length)).toArray el)
          ((b, Obj.cells (ys ++ sp').toArray el) :: (bl, .cells ((xs ++ sp).take (0 + len * i.size) ++ ys ++ (xs ++ sp).drop (0 + len * i.size + ys.length)).toArray el) :: H') := .tail .head
      have h3 := (hS.turn hu hs2 hs1).drop
      have e1 : (xs ++ sp).take (0 + len * i.size) = xs := by rw [Nat.zero_add, ← hx2]; simp
      have e2 : (xs ++ sp).drop (0 + len * i.size + ys.length) = sp.drop ys.length := by
        rw [Nat.zero_add, ← hx2]; simp [List.drop_append]
      rw [e1, e2] at h3
      refine h _ _ _ (Row.own_ (b := bl) (sp := sp.drop ys.length) ?_ ?_ hroom hcp) h3
      · rw [List.length_append, hx2, hys, Nat.add_mul]
      · simp only [List.length_append, List.length_drop] at hcc hfitc ⊢
        omega
    · refine grow _ cap rfl (by omega) ?_
      have := run_firstCells_some (P := P) w.drew i.size len ⟨bl, 0, none⟩ len cap xs hx2 (fun j u hj => ?_)
      · exact this
      · have hjl : j < xs.length := by
          rcases Nat.lt_or_ge j xs.length with hl | hl
          · exact hl
          · rw [List.getElem?_eq_none hl] at hj; cases hj
        rw [addrPlus, cell_own (w := w.drew) hbl, Nat.zero_add, List.getElem?_append_left hjl]; exact hj
/-- The cells and bytes of an element. -/
def rowP (P : Program) (el : TypeId) : Option (Nat × Nat) := match P.info? el with
  | some i => match i.zero with
    | some z => bif Nat.beq z.cells.toList.length i.size then some (i.size, i.bytes) else none
    | none => none
  | none => none
theorem rowP_some {el sz bts : Nat} (h : rowP P el = some (sz, bts)) : ∃ i z, P.info? el = some i ∧ i.zero = some z ∧ z.cells.size = i.size ∧ i.size = sz ∧ i.bytes = bts := by
  unfold rowP at h
  split at h
  · rename_i i hi
    split at h
    · rename_i z hz
      cases hb : Nat.beq z.cells.toList.length i.size with
      | false => rw [hb] at h; cases h
      | true =>
        rw [hb] at h
        simp only [cond_true, Option.some.injEq, Prod.mk.injEq] at h
        exact ⟨i, z, hi, hz, by simpa using Nat.eq_of_beq_eq_true hb, h.1, h.2⟩
    · cases h
  · cases h
theorem lst_app {el len k c' sz bts : Nat} {xs ys : List Value} {O : List (Nat × Obj)} (hS : St M w0 H F w) (hx : ev n e x = v) (hy : ev n e y = .slice (some ⟨b, 0, none⟩) k c')
    (hT : isSliceP P t = some el) (hTx : isSliceP P tx = some el) (hi : rowP P el = some (sz, bts)) (hrow : Row el sz v len xs O) (hys : ys.length = k * sz) (h1 : ys.all (·.oneCell') = true)
    (hP : H.Perm ((b, .cells ys.toArray el) :: (O ++ H'))) (hfit : 2 * (len + k) * bts ≤ 281474976710656) (hbig : len + k ≤ 4611686018427387904) (hd : Nat.blt d n = true)
    (h : ∀ v' O' w', Row el sz v' (len + k) (xs ++ ys) O' → St M w0 (O' ++ H') F w' → Lst P Q ops rest n ((d, v') :: e) w') :
    Lst P Q ops (⟨some d, .call ⟨.builtin .append, #[x, y], #[t, tx]⟩, ty, pos, after, none⟩ :: rest) n e w := by
  obtain ⟨i, z, h2, h3, h4, rfl, rfl⟩ := rowP_some hi
  exact lst_append (sp' := []) hS hx hy hT hTx h2 h3 h4 hrow hys h1 (by simpa using hP) hfit hbig hd h
/-- A result that lies in a block of the call's own. -/
theorem goes_retC {f : FuncId} {R : Ending → World → Prop} {k : List Item} {fn : Func} {a sz : Nat} {o : Nat} {cs vs : List Value} {ct : TypeId} (hS : St M w0 H F w) (hf : P.funcs[f]? = some fn) (hr : fn.results = #[.cell a t]) (hv : ev n e (.tmp a) = .pointer (some ⟨b, o, none⟩))
    (hA : aggOf P t = some true) (hs : cellsP P t = some sz) (hb : At H b (.cells cs.toArray ct)) (hc : Cut cs o sz vs) (hR : R (.returned (.agg vs.toArray)) w) : Goes P f R (.code .ret :: k) (act n e) w := by
  unfold Goes
  intro fr cs' hb' hk
  refine ⟨.returned (.agg vs.toArray), w, { fr.at (act n e) (.code .ret :: k) with mode := .returning }, hR, Steps.one step_ret, hb', rfl, rfl, hk, fn, ?_, ?_⟩
  · show P.funcs[fr.fn]? = some fn
    rw [hb']; exact hf
  · show (results fn (arr n e)).run P w = _
    have h1 := run_isAgg (w := w) hA
    have h2 := run_sizeP (w := w) hs
    have h3 := run_loadCells_list (P := P) (w := w) ⟨b, o, none⟩ vs (fun j v hj => by
      rw [addrPlus, cell_own (hS.at_ hb)]
      have hjk : j < sz := by
        rcases Nat.lt_or_ge j sz with h | h
        · exact h
        · rw [List.getElem?_eq_none (by rw [hc.length]; exact h)] at hj; cases hj
      rw [hc.get j hjk]; exact hj)
    rw [hc.length] at h3
    have hv' : (arr n e).getD a undef = .pointer (some ⟨b, o, none⟩) := by rw [arr_getD]; exact hv
    simp only [Array.getD_eq_getD_getElem?] at hv'
    simp only [results, hr]
    simp [hv', asAddr, loadVar, h1, h2, h3]
/-- append(s, x...), where x is a string. -/
theorem lst_appendStr {el len k : Nat} {l : Str} {xs : List Value} {O : List (Nat × Obj)} {i : TypeInfo} {z : Value} (hS : St M w0 H F w) (hx : ev n e x = v) (hy : ev n e y = sv l) (hk : l.length = k)
    (hT : isSliceP P t = some el) (hTx : isStringP P tx = true) (hz1 : i.size = 1) (hi : P.info? el = some i) (hz : i.zero = some z) (hzs : z.cells.size = i.size) (hrow : Row el i.size v len xs O) (hP : H.Perm (O ++ H')) (hfit : 2 * (len + k) * i.bytes ≤ 281474976710656) (hbig : len + k ≤ 4611686018427387904) (hd : Nat.blt d n = true)
    (h : ∀ v' O' w', Row el i.size v' (len + k) (xs ++ bytesV l) O' → St M w0 (O' ++ H') F w' → Lst P Q ops rest n ((d, v') :: e) w') :
    Lst P Q ops (⟨some d, .call ⟨.builtin .append, #[x, y], #[t, tx]⟩, ty, pos, after, none⟩ :: rest) n e w := by
  have hS := hS.perm hP
  have hlen := hrow.len_
  generalize hy2 : bytesV l = ys at h
  have hys : ys.length = k * i.size := by rw [← hy2, hz1, ← hk]; simp [bytesV]
  have hsrc : ∀ w'' : World, Src P i.size tx (sv l) k ys w'' := fun w'' => by
    have h := Src.ofString (P := P) w'' (tx := tx) (stringP hTx) ⟨l.toArray⟩
    rw [size_mk, hk] at h
    rw [hz1, ← hy2]
    have e : byteCells ⟨l.toArray⟩ = bytesV l := by simp [byteCells, bytesV]
    rw [e] at h
    exact h
  have hop : ∀ r w2, (Builtin.append_ #[t, tx] ty #[v, sv l]).run P w = .ok r w2 → (execOp (ev n e) ⟨some d, .call ⟨.builtin .append, #[x, y], #[t, tx]⟩, ty, pos, after, none⟩).run P w = .ok (.value r) w2 := by
    intro r w2 hr
    simp only [execOp, resolve, List.map_toArray, List.map_cons, List.map_nil, hx, hy, bind, pure, Sem.bind, invoke, builtin]
    rw [Sem.run_bind', hr]
    rfl
  have grow : ∀ (A : Option Addr) (cap : Nat), v = .slice A len cap → cap < len + k → (Builtin.firstCells i.size len (.slice A len cap)).run P w.drew = .ok xs.toArray w.drew → Lst P Q ops (⟨some d, .call ⟨.builtin .append, #[x, y], #[t, tx]⟩, ty, pos, after, none⟩ :: rest) n e w := by
    intro A cap hv hcap hold
    have hn := Go.Room.nextslicecap_le' hcap
    have hr := run_append_grow_src (P := P) w t tx ty el i z (sliceP hT) hi hz A len cap xs hold (sv l) k ys (hsrc w) hcap (by omega) (Nat.le_trans (Nat.mul_le_mul_right _ hn) hfit)
    rw [← hv] at hr
    refine lst_run (hop _ _ hr) hd ?_
    have hcapn : len + k ≤ grownCap w (len + k) cap el := by unfold grownCap Question.cut; exact Nat.le_add_right _ _
    generalize grownCap w (len + k) cap el = nc at hcapn
    have hzc : (Builtin.zeroCells z.cells (nc - (len + k))) = (Builtin.zeroCells z.cells (nc - (len + k))).toList.toArray := by simp
    have hzl : (Builtin.zeroCells z.cells (nc - (len + k))).toList.length = (nc - (len + k)) * i.size := by simp [Builtin.zeroCells, hzs]
    generalize (Builtin.zeroCells z.cells (nc - (len + k))).toList = zl at hzc hzl
    rw [hzc]
    have hS2 := (hS.drew.alloc (.cells ((xs ++ ys) ++ zl).toArray el))
    rw [show (xs ++ ys).toArray ++ zl.toArray = ((xs ++ ys) ++ zl).toArray by simp]
    refine h _ [(w.heap.size, .cells ((xs ++ ys) ++ zl).toArray el)] _ (Row.own_ ?_ ?_ hcapn (by omega)) ?_
    · rw [List.length_append, hlen, hys, Nat.add_mul]
    · rw [List.length_append, List.length_append, hlen, hys, hzl, ← Nat.add_mul, ← Nat.add_mul]; congr 1; omega
    · have h5 : St M w0 ((w.heap.size, .cells ((xs ++ ys) ++ zl).toArray el) :: (O ++ H')) F _ := hS2
      exact St.dropL (L := O) h5.sink
  cases hrow with
  | nil_ =>
    by_cases hk0 : k = 0
    · subst hk0
      have hl0 : l = [] := List.eq_nil_of_length_eq_zero hk
      have hye : ys = [] := List.eq_nil_of_length_eq_zero (by simpa using hys)
      rw [hye] at h
      have hr : (Builtin.append_ #[t, tx] ty #[.slice none 0 0, sv l]).run P w = .ok (.slice none 0 0) w := by
        have hu := run_underlying (sliceP hT) w
        have hu2 := run_underlying (stringP hTx) w
        subst hl0
        simp [Builtin.append_, hu, hu2, sizeOf, typeInfo, hi, Builtin.lenOf, Builtin.firstCells, size_mk]
      refine lst_run (hop _ _ hr) hd (h _ [] _ Row.nil_ hS)
    · exact grow none 0 rfl (by omega) (by simp [Builtin.firstCells, Sem.run, pure])
  | own_ hx2 hc2 hle hcp =>
    rename_i bl cap sp
    have hbl : w.heap[bl]? = some (.cells (xs ++ sp).toArray el) := hS.own (bl, _) (by simp)
    by_cases hroom : len + k ≤ cap
    · have hcc : (xs ++ sp).length = cap * i.size := hc2
      have hfitc : len * i.size + ys.length ≤ (xs ++ sp).length := by rw [hcc, hys, ← Nat.add_mul]; exact Nat.mul_le_mul_right _ hroom
      have hr := run_append_room_src (P := P) w t tx ty el i (sliceP hT) hi bl 0 len cap (sv l) k ys (hsrc w) hroom
        (fun j hj => by rw [cell_own hbl, Nat.zero_add]; simp only [Option.isSome_iff_exists]; exact ⟨_, List.getElem?_eq_getElem (by omega)⟩) (fun j hj => by simp [World.frozen?, hbl])
      obtain ⟨hs1, hs2⟩ := setCells_row ys (0 + len * i.size) (xs ++ sp) w hbl (by omega)
      refine lst_run (hop _ _ hr) hd ?_
      have hu : Upd ([(bl, Obj.cells (xs ++ sp).toArray el)] ++ H') bl (.cells (xs ++ sp).toArray el) (.cells ((xs ++ sp).take (0 + len * i.size) ++ ys ++ (xs ++ sp).drop (0 + len * i.size + ys.length)).toArray el)
          ((bl, .cells ((xs ++ sp).take (0 + len * i.size) ++ ys ++ (xs ++ sp).drop (0 + len * i.size + ys.length)).toArray el) :: H') := .head
      have h3 := hS.turn hu hs2 hs1
      have e1 : (xs ++ sp).take (0 + len * i.size) = xs := by rw [Nat.zero_add, ← hx2]; simp
      have e2 : (xs ++ sp).drop (0 + len * i.size + ys.length) = sp.drop ys.length := by
        rw [Nat.zero_add, ← hx2]; simp [List.drop_append]
      rw [e1, e2] at h3
      refine h _ _ _ (Row.own_ (b := bl) (sp := sp.drop ys.length) ?_ ?_ hroom hcp) h3
      · rw [List.length_append, hx2, hys, Nat.add_mul]
      · simp only [List.length_append, List.length_drop] at hcc hfitc ⊢
        omega
    · refine grow _ cap rfl (by omega) ?_
      have := run_firstCells_some (P := P) w.drew i.size len ⟨bl, 0, none⟩ len cap xs hx2 (fun j u hj => ?_)
      · exact this
      · have hjl : j < xs.length := by
          rcases Nat.lt_or_ge j xs.length with hl | hl
          · exact hl
          · rw [List.getElem?_eq_none hl] at hj; cases hj
        rw [addrPlus, cell_own (w := w.drew) hbl, Nat.zero_add, List.getElem?_append_left hjl]; exact hj
theorem lst_appStr {el len : Nat} {l : Str} {xs : List Value} {O : List (Nat × Obj)} (hS : St M w0 H F w) (hx : ev n e x = v) (hy : ev n e y = sv l)
    (hT : isSliceP P t = some el) (hTx : isStringP P tx = true) (hi : rowP P el = some (1, 1)) (hrow : Row el 1 v len xs O)
    (hP : H.Perm (O ++ H')) (hfit : len + l.length ≤ 140737488355328) (hd : Nat.blt d n = true)
    (h : ∀ v' O' w', Row el 1 v' (len + l.length) (xs ++ bytesV l) O' → St M w0 (O' ++ H') F w' → Lst P Q ops rest n ((d, v') :: e) w') :
    Lst P Q ops (⟨some d, .call ⟨.builtin .append, #[x, y], #[t, tx]⟩, ty, pos, after, none⟩ :: rest) n e w := by
  obtain ⟨i, z, h2, h3, h4, h5, h6⟩ := rowP_some hi
  refine lst_appendStr hS hx hy rfl hT hTx h5 h2 h3 h4 (by rw [h5]; exact hrow) hP (by rw [h6]; omega) (by omega) hd ?_
  rw [h5]; exact h
end
end Go.Proofs.Ytjicoifjgokoiab
namespace Go.Proofs.Ytjicoifjgokoiab
open Go.RowKit
set_option linter.unusedVariables false

/-- A cell: its kind, number and name. -/
structure HC where
  k : Int
  n : Int
  s : ByteArray
deriving DecidableEq
abbrev eS : ByteArray := ⟨#[]⟩
/-- A heap: its cells, its trail. -/
structure HH where
  cs : List HC
  tr : List Int
/-- A cell of a heap of so many cells, so many of which follow it. -/
def goodC (all : Nat) (c : HC) (follow : Nat) : Bool :=
  if c.k = 0 then decide (0 ≤ c.n) && (decide (c.n < all) && decide (c.s = eS))
  else if c.k = 1 then decide (c.n = 0) && !decide (c.s = eS)
  else if c.k = 2 then decide (c.s = eS)
  else if c.k = 3 then decide (1 ≤ c.n) && (decide (c.n ≤ 4) && (decide (c.n ≤ follow) && !decide (c.s = eS)))
  else false
def goodL (all : Nat) : List HC → Bool
  | [] => true
  | c :: r => goodC all c r.length && goodL all r
def goodCs (L : List HC) : Bool := decide (L.length ≤ 65536) && goodL L.length L
def hat (L : List HC) (a : Int) : Option HC := if 0 ≤ a then L[a.toNat]? else none
def isAddr (L : List HC) (a : Int) : Bool := decide (0 ≤ a) && decide (a < L.length)
def goodTr1 (L : List HC) (a : Int) : Bool := match hat L a with | some c => decide (c.k = 0) | none => false
def goodTr (L : List HC) (T : List Int) : Bool := decide (T.length ≤ 65536) && T.all (goodTr1 L)
def goodH (h : HH) : Bool := goodCs h.cs && goodTr h.cs h.tr
/-- Load. -/
def moved (base : Nat) (c : HC) : HC := if c.k = 0 then ⟨c.k, c.n + base, c.s⟩ else c
def loadH (h : HH) (B : List HC) : HH × Nat × Int :=
  if (goodH h && goodCs B) = false then (h, 0, 1)
  else if 65536 < h.cs.length + B.length then (h, 0, 3)
  else (⟨h.cs ++ B.map (moved h.cs.length), h.tr⟩, h.cs.length, 0)
/-- Look. -/
def hlookF (L : List HC) : Nat → Int → Int
  | 0, _ => -1
  | f + 1, a => match hat L a with
    | none => -1
    | some c => if c.k = 0 ∧ c.n ≠ a then hlookF L f c.n else a
def hlook (L : List HC) (a : Int) : Int := hlookF L L.length a
/-- A cell's number set. -/
def setN (L : List HC) (i : Nat) (x : Int) : List HC := L.modify i fun c => ⟨c.k, x, c.s⟩
def undoL (L : List HC) : List Int → List HC
  | [] => L
  | a :: r => undoL (setN L a.toNat a) r
def undoH (h : HH) (n : Int) : HH × Int :=
  if goodH h = false then (h, 1)
  else if n < 0 ∨ (h.tr.length : Int) < n then (h, 2)
  else (⟨undoL h.cs (h.tr.drop n.toNat), h.tr.take n.toNat⟩, 0)
def cutH (h : HH) (n : Int) : HH × Int :=
  if goodH h = false then (h, 1)
  else if n < 0 ∨ (h.cs.length : Int) < n then (h, 2)
  else if goodH ⟨h.cs.take n.toNat, h.tr⟩ = false then (h, 1)
  else (⟨h.cs.take n.toNat, h.tr⟩, 0)
/-- A unifier: its cells, its trail, the work, whether it is long. -/
structure HU where
  cs : List HC
  tr : List Int
  w : Nat
  lg : Bool
def HU.step (u : HU) : HU := ⟨u.cs, u.tr, u.w + 1, u.lg || decide (400 < u.w + 1)⟩
def HU.look (u : HU) (a : Int) : Int × HU :=
  if u.lg = true then (-1, u) else (hlook u.cs a, ⟨u.cs, u.tr, u.w, decide (hlook u.cs a < 0)⟩)
def HU.bind (u : HU) (a x : Int) : HU := ⟨setN u.cs a.toNat x, u.tr ++ [a], u.w, u.lg⟩
def kindAt (L : List HC) (a : Int) : Int := match hat L a with | some c => c.k | none => -1
def argsC (c : HC) : Int := if c.k = 3 then c.n else 0
def argsAt (L : List HC) (a : Int) : Nat := match hat L a with | some c => (argsC c).toNat | none => 0
def anyU (g : Int → HU → Bool × HU) : Nat → Int → HU → Bool × HU
  | 0, _, u => (false, u)
  | m + 1, x, u => if (g x u).1 = true then g x u else anyU g m (x + 1) (g x u).2
def occU (a : Int) : Nat → Int → HU → Bool × HU
  | 0, b, u => (false, (u.step.look b).2)
  | f + 1, b, u =>
    if (u.step.look b).2.lg = true then (false, (u.step.look b).2)
    else if a = (u.step.look b).1 then (true, (u.step.look b).2)
    else anyU (occU a f) (argsAt u.cs (u.step.look b).1) ((u.step.look b).1 + 1) (u.step.look b).2
def asgU (a b : Int) (u : HU) : Bool × HU :=
  if (occU a 401 b u).1 = true ∨ (occU a 401 b u).2.lg = true then (false, (occU a 401 b u).2) else (true, (occU a 401 b u).2.bind a b)
def allU (g : Int → Int → HU → Bool × HU) : Nat → Int → Int → HU → Bool × HU
  | 0, _, _, u => (true, u)
  | m + 1, x, y, u => if (g x y u).1 = true then allU g m (x + 1) (y + 1) (g x y u).2 else g x y u
def partsU (g : Int → Int → HU → Bool × HU) (a b : Int) (u : HU) : Bool × HU :=
  if hat u.cs a = hat u.cs b then allU g (argsAt u.cs a) (a + 1) (b + 1) u else (false, u)
def uniU : Nat → Int → Int → HU → Bool × HU
  | 0, a, b, u => (false, ((u.step.look a).2.look b).2)
  | f + 1, a, b, u =>
    if ((u.step.look a).2.look b).2.lg = true then (false, ((u.step.look a).2.look b).2)
    else if kindAt u.cs (u.step.look a).1 = 0 then
      if kindAt u.cs ((u.step.look a).2.look b).1 = 0 then
        if (u.step.look a).1 = ((u.step.look a).2.look b).1 then (true, ((u.step.look a).2.look b).2)
        else (true, ((u.step.look a).2.look b).2.bind (max (u.step.look a).1 ((u.step.look a).2.look b).1) (min (u.step.look a).1 ((u.step.look a).2.look b).1))
      else asgU (u.step.look a).1 ((u.step.look a).2.look b).1 ((u.step.look a).2.look b).2
    else if kindAt u.cs ((u.step.look a).2.look b).1 = 0 then asgU ((u.step.look a).2.look b).1 (u.step.look a).1 ((u.step.look a).2.look b).2
    else partsU (uniU f) (u.step.look a).1 ((u.step.look a).2.look b).1 ((u.step.look a).2.look b).2
def unifyH (h : HH) (a b : Int) : HH × Bool × Int :=
  if goodH h = false then (h, false, 1)
  else if (isAddr h.cs a && isAddr h.cs b) = false then (h, false, 4)
  else if (uniU 401 a b ⟨h.cs, h.tr, 0, false⟩).2.lg = true ∨ (uniU 401 a b ⟨h.cs, h.tr, 0, false⟩).1 = true ∧ 65536 < (uniU 401 a b ⟨h.cs, h.tr, 0, false⟩).2.tr.length then (h, false, 3)
  else if (uniU 401 a b ⟨h.cs, h.tr, 0, false⟩).1 = false then (h, false, 0)
  else (⟨(uniU 401 a b ⟨h.cs, h.tr, 0, false⟩).2.cs, (uniU 401 a b ⟨h.cs, h.tr, 0, false⟩).2.tr⟩, true, 0)
end Go.Proofs.Ytjicoifjgokoiab
namespace Go.Proofs.Ytjicoifjgokoiab
open Go.RowKit
set_option linter.unusedVariables false
set_option linter.unusedSimpArgs false
section
variable {P : Program} {n : Nat} {e : Env} {w : World} {ty : TypeId} {pos : String} {after : Array Edge} {x y z : Operand} {dst : Option Nat} {t : TypeId}
theorem addr_add0 (A : Option Addr) : A.map (·.add 0) = A := by cases A <;> simp [Addr.add]
theorem run_slice_slice {i : Int} {A : Option Addr} {len cap el sz : Nat} (hx : ev n e x = .slice A len cap) (hy : ev n e y = .int .i64 i) (hT : isSliceP P t = some el) (hs : cellsP P el = some sz) (h0 : 0 ≤ i) (h1 : i ≤ cap) :
    (execOp (ev n e) ⟨dst, .slice t x none (some y) none, ty, pos, after, none⟩).run P w = .ok (.value (.slice A i.toNat cap)) w := by
  have h2 := run_underlying (sliceP hT) w
  have h3 := run_sizeP (w := w) hs
  simp only [execOp, Instr.sliceAt, Instr.slice, hx, hy, Option.map_some, Option.map_none, bind, pure, Sem.bind]
  rw [Sem.run_bind', Sem.run_bind', h2]
  simp only [Result.andThen_ok]
  rw [Sem.run_bind', h2]
  simp only [Result.andThen_ok, Instr.sliceBounds, Option.isSome_none, Bool.false_eq_true, if_false, bind, pure, Sem.bind]
  rw [Sem.run_bind', Sem.run_bind', run_bound rfl h0 h1]
  simp only [Result.andThen_ok]
  rw [show Sem.run P (Sem.pure (0, i.toNat, cap)) w = .ok (0, i.toNat, cap) w from rfl]
  simp only [Result.andThen_ok]
  rw [Sem.run_bind', h3]
  simp [Sem.run, Addr.add]
theorem run_slice_rest {i : Int} {A : Option Addr} {len cap el sz : Nat} (hx : ev n e x = .slice A len cap) (hy : ev n e y = .int .i64 i) (hT : isSliceP P t = some el) (hs : cellsP P el = some sz) (h0 : 0 ≤ i) (h1 : i ≤ len) :
    (execOp (ev n e) ⟨dst, .slice t x (some y) none none, ty, pos, after, none⟩).run P w = .ok (.value (.slice (if cap = i.toNat then A else A.map (·.add (i.toNat * sz))) (len - i.toNat) (cap - i.toNat))) w := by
  have h2 := run_underlying (sliceP hT) w
  have h3 := run_sizeP (w := w) hs
  simp only [execOp, Instr.sliceAt, Instr.slice, hx, hy, Option.map_some, Option.map_none, bind, pure, Sem.bind]
  rw [Sem.run_bind', Sem.run_bind', h2]
  simp only [Result.andThen_ok]
  rw [Sem.run_bind', h2]
  simp only [Result.andThen_ok, Instr.sliceBounds, Option.isSome_none, Bool.false_eq_true, if_false, bind, pure, Sem.bind]
  rw [Sem.run_bind', Sem.run_bind', run_bound rfl h0 h1]
  simp only [Result.andThen_ok]
  rw [show Sem.run P (Sem.pure (i.toNat, len, cap)) w = .ok (i.toNat, len, cap) w from rfl]
  simp only [Result.andThen_ok]
  rw [Sem.run_bind', h3]
  simp [Sem.run]
/-- A part that is not the very end of a slice's room. -/
theorem run_slice_lt {i : Int} {b o len cap el sz : Nat} (hx : ev n e x = .slice (some ⟨b, o, none⟩) len cap) (hy : ev n e y = .int .i64 i) (hT : isSliceP P t = some el) (hs : cellsP P el = some sz) (h0 : 0 ≤ i) (h1 : i ≤ len) (h2 : i < cap) :
    (execOp (ev n e) ⟨dst, .slice t x (some y) none none, ty, pos, after, none⟩).run P w = .ok (.value (.slice (some ⟨b, o + i.toNat * sz, none⟩) (len - i.toNat) (cap - i.toNat))) w := by
  rw [run_slice_rest hx hy hT hs h0 h1, if_neg (by omega), Option.map_some, addrPlus]
end
/-- The first m elements of a row. -/
theorem Row.cut {el sz len cap m : Nat} {A : Option Addr} {xs : List Value} {O : List (Nat × Obj)} (h : Row el sz (.slice A len cap) len xs O) (hm : m ≤ len) : Row el sz (.slice A m cap) m (xs.take (m * sz)) O := by
  have hx := h.len_
  generalize hv : Value.slice A len cap = v at h
  cases h with
  | nil_ =>
    simp only [Value.slice.injEq] at hv
    obtain ⟨rfl, _, rfl⟩ := hv
    obtain rfl : m = 0 := by omega
    simpa using Row.nil_
  | own_ hx2 hc hle hcp =>
    rename_i b cap' sp
    simp only [Value.slice.injEq] at hv
    obtain ⟨rfl, _, rfl⟩ := hv
    have e : xs ++ sp = xs.take (m * sz) ++ (xs.drop (m * sz) ++ sp) := by rw [← List.append_assoc, List.take_append_drop]
    have hml : m * sz ≤ xs.length := by rw [hx]; exact Nat.mul_le_mul_right _ hm
    have hr := Row.own_ (el := el) (sz := sz) (b := b) (len := m) (cap := cap) (xs := xs.take (m * sz)) (sp := xs.drop (m * sz) ++ sp) (by simp; omega) (by rw [← e]; exact hc) (by omega) hcp
    rw [← e] at hr
    exact hr
theorem Row.cap {el sz len cap : Nat} {A : Option Addr} {l2 : Nat} {xs : List Value} {O : List (Nat × Obj)} (h : Row el sz (.slice A l2 cap) len xs O) : len ≤ cap := by
  generalize hv : Value.slice A l2 cap = v at h
  cases h with
  | nil_ => omega
  | own_ _ _ hle _ => simp only [Value.slice.injEq] at hv; obtain ⟨_, _, rfl⟩ := hv; exact hle
/-- A row that holds something. -/
theorem Row.some_ {el sz len cap l2 : Nat} {A : Option Addr} {xs : List Value} {O : List (Nat × Obj)} (h : Row el sz (.slice A l2 cap) len xs O) (hl : 0 < len) : ∃ g sp, A = some ⟨g, 0, none⟩ ∧ O = [(g, .cells (xs ++ sp).toArray el)] ∧ (xs ++ sp).length = cap * sz := by
  generalize hv : Value.slice A l2 cap = v at h
  cases h with
  | nil_ => omega
  | own_ _ hc _ _ => simp only [Value.slice.injEq] at hv; obtain ⟨h1, _, rfl⟩ := hv; exact ⟨_, _, h1, rfl, hc⟩
/-- What holds in every world in which these facts do. -/
def Und (F : List (World → Prop)) (ψ : World → Prop) : Prop := ∀ w, (∀ φ ∈ F, φ w) → ψ w
theorem Und.mono {F F' : List (World → Prop)} {ψ : World → Prop} (h : Und F ψ) (hs : ∀ φ ∈ F, φ ∈ F') : Und F' ψ := fun w hw => h w fun φ hφ => hw φ (hs φ hφ)
theorem Und.tail {F : List (World → Prop)} {φ ψ : World → Prop} (h : Und F ψ) : Und (φ :: F) ψ := h.mono fun _ h => List.mem_cons_of_mem _ h
theorem Und.imp {F : List (World → Prop)} {φ ψ : World → Prop} (h : Und F φ) (g : ∀ w, φ w → ψ w) : Und F ψ := fun w hw => g w (h w hw)
theorem Und.head {F : List (World → Prop)} {φ : World → Prop} : Und (φ :: F) φ := fun w hw => hw φ (.head _)
section
variable {M : List Nat} {w0 w w' : World} {H : List (Nat × Obj)} {F : List (World → Prop)}
theorem St.und (h : St M w0 H F w) {ψ : World → Prop} (hψ : Und F ψ) : ψ w := hψ w fun φ hφ => h.fact hφ
theorem St.derive (h : St M w0 H F w) {ψ : World → Prop} (hψ : Und F ψ) : St M w0 H (ψ :: F) w := h.learn fun w' hw => hψ w' fun φ hφ => h.facts φ hφ w' hw
/-- The first blocks alone. -/
theorem St.bareL {L : List (Nat × Obj)} (h : St M w0 (L ++ H) F w) : St M w0 L [] w := by
  refine ⟨fun p hp => h.own p (List.mem_append_left _ hp), (List.pairwise_append.1 h.apart).1, h.ext, fun p hp => h.new p (List.mem_append_left _ hp), fun φ hφ => by cases hφ⟩
theorem St.bare1 {x : Nat × Obj} (h : St M w0 (x :: H) F w) : St M w0 [x] [] w := St.bareL (L := [x]) h
theorem St.bare2 {x y : Nat × Obj} (h : St M w0 (x :: y :: H) F w) : St M w0 [x, y] [] w := St.bareL (L := [x, y]) h
theorem St.bare3 {x y z : Nat × Obj} (h : St M w0 (x :: y :: z :: H) F w) : St M w0 [x, y, z] [] w := St.bareL (L := [x, y, z]) h
theorem St.bare4 {x y z u : Nat × Obj} (h : St M w0 (x :: y :: z :: u :: H) F w) : St M w0 [x, y, z, u] [] w := St.bareL (L := [x, y, z, u]) h
theorem St.only1 {x : Nat × Obj} {w : World} (h : St M w0 (x :: H) F w) : St M w0 [x] F w :=
  ⟨fun q hq => h.own q (by simp at hq; simp [hq]), by simp, h.ext, fun q hq => h.new q (by simp at hq; simp [hq]), fun φ hφ w' hw => h.facts φ hφ w' (hw.mono fun k _ hk => by simp at hk; simp [hk])⟩
theorem St.only2 {x y : Nat × Obj} {w : World} (h : St M w0 (x :: y :: H) F w) : St M w0 [x, y] F w :=
  ⟨fun q hq => h.own q (by simp at hq; rcases hq with rfl | rfl <;> simp), by simpa using (List.pairwise_cons.1 h.apart).1 y (by simp), h.ext, fun q hq => h.new q (by simp at hq; rcases hq with rfl | rfl <;> simp), fun φ hφ w' hw => h.facts φ hφ w' (hw.mono fun k _ hk => by simp at hk; rcases hk with rfl | rfl <;> simp)⟩
/-- The facts put in place of others that say no less. -/
theorem St.facts_of (h : St M w0 H F w) {F' : List (World → Prop)} (hF : ∀ ψ ∈ F', Und F ψ) : St M w0 H F' w := ⟨h.own, h.apart, h.ext, h.new, fun ψ hψ w' hw => hF ψ hψ w' fun φ hφ => h.facts φ hφ w' hw⟩
end
end Go.Proofs.Ytjicoifjgokoiab
namespace Go.Proofs.Ytjicoifjgokoiab
open Go.RowKit

/-- A list of terms: the first one's kind, number, name and arguments, and the rest of the list. -/
inductive Ts where
  | nil
  | cons (k n : Int) (s : ByteArray) (ar r : Ts)

def Ts.length : Ts → Nat
  | .nil => 0
  | .cons _ _ _ _ r => r.length + 1
def Ts.nodes : Ts → Nat
  | .nil => 0
  | .cons _ _ _ ar r => ar.nodes + r.nodes + 1
def Ts.app : Ts → Ts → Ts
  | .nil, y => y
  | .cons k n s ar r, y => .cons k n s ar (r.app y)
theorem Ts.length_le (T : Ts) : T.length ≤ T.nodes := by
  induction T with
  | nil => exact Nat.le_refl _
  | cons k n s ar r _ ih => simp only [length, nodes]; omega
theorem Ts.app_nil (T : Ts) : T.app .nil = T := by
  induction T with
  | nil => rfl
  | cons k n s ar r _ ih => simp only [app, ih]
theorem Ts.app_assoc (a b c : Ts) : (a.app b).app c = a.app (b.app c) := by
  induction a with
  | nil => rfl
  | cons k n s ar r _ ih => simp only [app, ih]
theorem Ts.length_app (a b : Ts) : (a.app b).length = a.length + b.length := by
  induction a with
  | nil => simp [app, length]
  | cons k n s ar r _ ih => simp only [app, length, ih]; omega
theorem Ts.nodes_app (a b : Ts) : (a.app b).nodes = a.nodes + b.nodes := by
  induction a with
  | nil => simp [app, nodes]
  | cons k n s ar r _ ih => simp only [app, nodes, ih]; omega
theorem Ts.nil_of_length {T : Ts} (h : T.length = 0) : T = .nil := by
  cases T with
  | nil => rfl
  | cons k n s ar r => simp [length] at h

/-- The terms T lie from cell o of block b on; all blocks that they take are p's. -/
def Seg (w : World) (p : Nat → Prop) : Ts → Nat → Nat → Prop
  | .nil, _, _ => True
  | .cons k n s ar r, b, o => p b ∧ w.cell? ⟨b, o, none⟩ = some (.int .i64 k) ∧ w.cell? ⟨b, o + 1, none⟩ = some (.int .i64 n) ∧ w.cell? ⟨b, o + 2, none⟩ = some (.string s) ∧
      (∃ A c, w.cell? ⟨b, o + 3, none⟩ = some (.slice A ar.length c) ∧ ar.length ≤ c ∧ (0 < ar.length → ∃ b' o', A = some ⟨b', o', none⟩ ∧ Seg w p ar b' o')) ∧ Seg w p r b (o + 4)

/-- The value v is a slice of the terms T. -/
def Sl (w : World) (p : Nat → Prop) (v : Value) (T : Ts) : Prop :=
  ∃ A c, v = .slice A T.length c ∧ T.length ≤ c ∧ (0 < T.length → ∃ b o, A = some ⟨b, o, none⟩ ∧ Seg w p T b o)

theorem seg_cons {w : World} {p : Nat → Prop} {k n : Int} {s : ByteArray} {ar r : Ts} {b o : Nat} : Seg w p (.cons k n s ar r) b o ↔
    p b ∧ w.cell? ⟨b, o, none⟩ = some (.int .i64 k) ∧ w.cell? ⟨b, o + 1, none⟩ = some (.int .i64 n) ∧ w.cell? ⟨b, o + 2, none⟩ = some (.string s) ∧
      (∃ v, w.cell? ⟨b, o + 3, none⟩ = some v ∧ Sl w p v ar) ∧ Seg w p r b (o + 4) := by
  constructor
  · rintro ⟨h1, h2, h3, h4, ⟨A, c, h5, h6, h7⟩, h8⟩
    exact ⟨h1, h2, h3, h4, ⟨_, h5, A, c, rfl, h6, h7⟩, h8⟩
  · rintro ⟨h1, h2, h3, h4, ⟨v, h5, A, c, rfl, h6, h7⟩, h8⟩
    exact ⟨h1, h2, h3, h4, ⟨A, c, h5, h6, h7⟩, h8⟩

theorem lt_of_cell {w : World} {a : Addr} {v : Value} (h : w.cell? a = some v) : a.block < w.heap.size := by
  rcases Nat.lt_or_ge a.block w.heap.size with hl | hg
  · exact hl
  · simp [World.cell?, Array.getElem?_eq_none hg] at h

section
variable {w w' : World} {p q : Nat → Prop}
theorem Seg.imp {T : Ts} : ∀ {b o : Nat}, Seg w p T b o → (∀ k, p k → k < w.heap.size → q k) → Seg w q T b o := by
  induction T with
  | nil => intros; trivial
  | cons k n s ar r iha ihr =>
    intro b o h hq
    obtain ⟨h1, h2, h3, h4, ⟨A, c, h5, h6, h7⟩, h8⟩ := h
    refine ⟨hq _ h1 (lt_of_cell h2), h2, h3, h4, ⟨A, c, h5, h6, fun hl => ?_⟩, ihr h8 hq⟩
    obtain ⟨b', o', e, h9⟩ := h7 hl
    exact ⟨b', o', e, iha h9 hq⟩
/-- As 'imp', for blocks that hold some cell. -/
theorem Seg.imp' {T : Ts} : ∀ {b o : Nat}, Seg w p T b o → (∀ k, p k → (∃ j u, w.cell? ⟨k, j, none⟩ = some u) → q k) → Seg w q T b o := by
  induction T with
  | nil => intros; trivial
  | cons k n s ar r iha ihr =>
    intro b o h hq
    obtain ⟨h1, h2, h3, h4, ⟨A, c, h5, h6, h7⟩, h8⟩ := h
    refine ⟨hq _ h1 ⟨_, _, h2⟩, h2, h3, h4, ⟨A, c, h5, h6, fun hl => ?_⟩, ihr h8 hq⟩
    obtain ⟨b', o', e, h9⟩ := h7 hl
    exact ⟨b', o', e, iha h9 hq⟩
theorem Seg.keep {T : Ts} : ∀ {b o : Nat}, Seg w p T b o → (∀ k, p k → k < w.heap.size → w'.heap[k]? = w.heap[k]?) → Seg w' p T b o := by
  induction T with
  | nil => intros; trivial
  | cons k n s ar r iha ihr =>
    intro b o h hk
    obtain ⟨h1, h2, h3, h4, ⟨A, c, h5, h6, h7⟩, h8⟩ := h
    have e := hk b h1 (lt_of_cell h2)
    refine ⟨h1, ?_, ?_, ?_, ⟨A, c, ?_, h6, fun hl => ?_⟩, ihr h8 hk⟩
    · rw [World.cell?_of_block (w := w) (w' := w') (a := ⟨b, o, none⟩) e]; exact h2
    · rw [World.cell?_of_block (w := w) (w' := w') (a := ⟨b, o + 1, none⟩) e]; exact h3
    · rw [World.cell?_of_block (w := w) (w' := w') (a := ⟨b, o + 2, none⟩) e]; exact h4
    · rw [World.cell?_of_block (w := w) (w' := w') (a := ⟨b, o + 3, none⟩) e]; exact h5
    · obtain ⟨b', o', e', h9⟩ := h7 hl
      exact ⟨b', o', e', iha h9 hk⟩
theorem Sl.imp {T : Ts} {v : Value} (h : Sl w p v T) (hq : ∀ k, p k → k < w.heap.size → q k) : Sl w q v T := by
  obtain ⟨A, c, hv, hc, hs⟩ := h
  refine ⟨A, c, hv, hc, fun hl => ?_⟩
  obtain ⟨b, o, e, h9⟩ := hs hl
  exact ⟨b, o, e, h9.imp hq⟩
theorem Sl.imp' {T : Ts} {v : Value} (h : Sl w p v T) (hq : ∀ k, p k → (∃ j u, w.cell? ⟨k, j, none⟩ = some u) → q k) : Sl w q v T := by
  obtain ⟨A, c, hv, hc, hs⟩ := h
  refine ⟨A, c, hv, hc, fun hl => ?_⟩
  obtain ⟨b, o, e, h9⟩ := hs hl
  exact ⟨b, o, e, h9.imp' hq⟩
theorem Sl.keep {T : Ts} {v : Value} (h : Sl w p v T) (hk : ∀ k, p k → k < w.heap.size → w'.heap[k]? = w.heap[k]?) : Sl w' p v T := by
  obtain ⟨A, c, hv, hc, hs⟩ := h
  refine ⟨A, c, hv, hc, fun hl => ?_⟩
  obtain ⟨b, o, e, h9⟩ := hs hl
  exact ⟨b, o, e, h9.keep hk⟩
theorem Seg.below {T : Ts} {b o : Nat} (h : Seg w p T b o) (hb : Below w.heap.size w w') : Seg w' p T b o := h.keep fun k _ hk => hb.block k hk
theorem Sl.below {T : Ts} {v : Value} (h : Sl w p v T) (hb : Below w.heap.size w w') : Sl w' p v T := h.keep fun k _ hk => hb.block k hk
theorem Sl.any {T : Ts} {v : Value} (h : Sl w p v T) : Sl w (fun _ => True) v T := h.imp fun _ _ _ => trivial
theorem Seg.any {T : Ts} {b o : Nat} (h : Seg w p T b o) : Seg w (fun _ => True) T b o := h.imp fun _ _ _ => trivial
theorem Sl.form {T : Ts} {v : Value} (h : Sl w p v T) : ∃ A c, v = .slice A T.length c ∧ Sl w p (.slice A T.length c) T := by
  obtain ⟨A, c, rfl, h2⟩ := h
  exact ⟨A, c, rfl, A, c, rfl, h2⟩
theorem Sl.nil (w : World) (p : Nat → Prop) : Sl w p (.slice none 0 0) .nil := ⟨none, 0, rfl, Nat.le_refl _, fun h => absurd h (Nat.lt_irrefl _)⟩
end

theorem below_drewN (B : Nat) (w : World) (n : Nat) : Below B w (w.drewN n) := ⟨rfl, rfl, rfl, Nat.le_refl _, fun _ _ => rfl⟩

/-- The terms' own view of a block: it is there whole, of element type t, with the cells cs. -/
def Plot (w : World) (g : Nat) (t : TypeId) (cs : Array Value) : Prop := w.heap[g]? = some (.cells cs t (0, 0))
section
variable {w w' : World} {g : Nat} {t : TypeId} {cs : Array Value}
/-- Where a block has not turned, its plot has not. -/
theorem Plot.move (h : Plot w g t cs) (e : w'.heap[g]? = w.heap[g]?) : Plot w' g t cs := Eq.trans e h
theorem Plot.lt (h : Plot w g t cs) : g < w.heap.size := (Array.getElem?_eq_some_iff.1 h).1
theorem Plot.cell (h : Plot w g t cs) (i : Nat) : w.cell? ⟨g, i, none⟩ = cs[i]? := by
  have := cell_of_row w g i cs t (0, 0) h
  exact this
theorem Plot.frozen (h : Plot w g t cs) (i : Nat) : w.frozen? ⟨g, i, none⟩ = false := by
  have e : w.heap[g]? = some (.cells cs t (0, 0)) := h
  rw [World.frozen?]
  simp only [e]
  simp
theorem Plot.new (w : World) (t : TypeId) (cs : Array Value) : Plot (w.alloc (.cells cs t)) w.heap.size t cs := by
  show (w.alloc _).heap[w.heap.size]? = _
  rw [heap_alloc_new]
theorem Plot.drew (h : Plot w g t cs) : Plot w.drew g t cs := h.move rfl
theorem Plot.drewN (h : Plot w g t cs) (n : Nat) : Plot (w.drewN n) g t cs := h.move rfl
theorem Plot.alloc (h : Plot w g t cs) (o : Obj) : Plot (w.alloc o) g t cs := h.move (Below.heap_alloc w o g h.lt)
theorem Plot.far (h : Plot w g t cs) {p : Addr} (hp : g ≠ p.block) (u : Value) : Plot (w.setCell p u) g t cs := h.move (Below.heap_setCell w p u g hp)
theorem Plot.below (h : Plot w g t cs) (hb : Below w.heap.size w w') : Plot w' g t cs := h.move (hb.block g h.lt)
theorem Plot.grown {row : Option Nat} (h : Plot w g t cs) (hb : w.grownBy w' row) (hg : some g ≠ row) : Plot w' g t cs := h.move (hb.block g h.lt hg)
theorem Plot.set_ (h : Plot w g t cs) (i : Nat) (u : Value) : Plot (w.setCell ⟨g, i, none⟩ u) g t (cs.setIfInBounds i u) := by
  have e : w.heap[g]? = some (.cells cs t (0, 0)) := h
  show (w.setCell _ u).heap[g]? = _
  rw [World.setCell]
  simp [Array.getElem?_modify, e]
theorem Plot.four {a b c d : Value} (h : Plot w g t #[a, b, c, d]) : w.cell? ⟨g, 0, none⟩ = some a ∧ w.cell? ⟨g, 1, none⟩ = some b ∧ w.cell? ⟨g, 2, none⟩ = some c ∧ w.cell? ⟨g, 3, none⟩ = some d ∧ (∀ o, w.frozen? ⟨g, o, none⟩ = false) :=
  ⟨h.cell 0, h.cell 1, h.cell 2, h.cell 3, h.frozen⟩
end

/-- The cells xs, four a term, are the terms T's; what their arguments lie in is p's. -/
def Cs (w : World) (p : Nat → Prop) : Ts → List Value → Prop
  | .nil, xs => xs = []
  | .cons k n s ar r, xs => ∃ v ys, xs = .int .i64 k :: .int .i64 n :: .string s :: v :: ys ∧ Sl w p v ar ∧ Cs w p r ys

section
variable {w w' : World} {p q : Nat → Prop}
theorem Cs.length {T : Ts} : ∀ {xs : List Value}, Cs w p T xs → xs.length = T.length * 4 := by
  induction T with
  | nil => intro xs h; rw [show xs = [] from h]; rfl
  | cons k n s ar r _ ih =>
    rintro xs ⟨v, ys, rfl, _, h⟩
    simp only [List.length_cons, Ts.length, ih h]; omega
theorem Cs.imp {T : Ts} : ∀ {xs : List Value}, Cs w p T xs → (∀ k, p k → k < w.heap.size → q k) → Cs w q T xs := by
  induction T with
  | nil => intro xs h _; exact h
  | cons k n s ar r _ ih =>
    rintro xs ⟨v, ys, rfl, hv, h⟩ hq
    exact ⟨v, ys, rfl, hv.imp hq, ih h hq⟩
theorem Cs.keep {T : Ts} : ∀ {xs : List Value}, Cs w p T xs → (∀ k, p k → k < w.heap.size → w'.heap[k]? = w.heap[k]?) → Cs w' p T xs := by
  induction T with
  | nil => intro xs h _; exact h
  | cons k n s ar r _ ih =>
    rintro xs ⟨v, ys, rfl, hv, h⟩ hk
    exact ⟨v, ys, rfl, hv.keep hk, ih h hk⟩
theorem Cs.below {T : Ts} {xs : List Value} (h : Cs w p T xs) (hb : Below w.heap.size w w') : Cs w' p T xs := h.keep fun k _ hk => hb.block k hk
theorem Cs.app {T : Ts} : ∀ {xs ys : List Value} {U : Ts}, Cs w p T xs → Cs w p U ys → Cs w p (T.app U) (xs ++ ys) := by
  induction T with
  | nil => intro xs ys U h h'; rw [show xs = [] from h]; exact h'
  | cons k n s ar r _ ih =>
    rintro xs ys U ⟨v, zs, rfl, hv, h⟩ h'
    exact ⟨v, zs ++ ys, rfl, hv, ih h h'⟩
theorem Cs.seg {T : Ts} : ∀ {xs : List Value} {b o : Nat}, Cs w p T xs → (0 < T.length → p b) → (∀ j u, xs[j]? = some u → w.cell? ⟨b, o + j, none⟩ = some u) → Seg w p T b o := by
  induction T with
  | nil => intros; trivial
  | cons k n s ar r _ ih =>
    rintro xs b o ⟨v, ys, rfl, hv, h⟩ hp hc
    have hb : p b := hp (by simp [Ts.length])
    refine seg_cons.2 ⟨hb, by simpa using hc 0 _ rfl, hc 1 _ rfl, hc 2 _ rfl, ⟨v, hc 3 _ rfl, hv⟩, ih h (fun _ => hb) fun j u hu => ?_⟩
    have := hc (j + 4) u (by simpa using hu)
    rwa [show o + 4 + j = o + (j + 4) by omega]
theorem Seg.cells {T : Ts} : ∀ {b o : Nat}, Seg w p T b o → ∃ xs, Cs w p T xs ∧ ∀ j u, xs[j]? = some u → w.cell? ⟨b, o + j, none⟩ = some u := by
  induction T with
  | nil => intro b o _; exact ⟨[], rfl, fun j u hu => by simp at hu⟩
  | cons k n s ar r _ ih =>
    intro b o h
    obtain ⟨h1, h2, h3, h4, ⟨v, h5, h6⟩, h8⟩ := seg_cons.1 h
    obtain ⟨ys, hy, hc⟩ := ih h8
    refine ⟨_, ⟨v, ys, rfl, h6, hy⟩, fun j u hu => ?_⟩
    match j, hu with
    | 0, hu => simp at hu; subst hu; simpa using h2
    | 1, hu => simp at hu; subst hu; exact h3
    | 2, hu => simp at hu; subst hu; exact h4
    | 3, hu => simp at hu; subst hu; exact h5
    | j + 4, hu => rw [show o + (j + 4) = o + 4 + j by omega]; exact hc j u (by simpa using hu)
theorem Cs.one {T : Ts} : ∀ {xs : List Value}, Cs w p T xs → ∀ u ∈ xs, u.oneCell' = true := by
  induction T with
  | nil => intro xs h u hu; rw [show xs = [] from h] at hu; cases hu
  | cons k n s ar r _ ih =>
    rintro xs ⟨v, ys, rfl, ⟨A, c, rfl, _⟩, h⟩ u hu
    simp only [List.mem_cons] at hu
    rcases hu with rfl | rfl | rfl | rfl | hu
    · rfl
    · rfl
    · rfl
    · rfl
    · exact ih h u hu
/-- A row of the call's own whose cells are the terms T's is a slice of them. -/
theorem Sl.own {T : Ts} {base : Nat} {e : TypeId} {v : Value} {xs : List Value} (h : w.ownsRow base e 4 v T.length xs) (hc : Cs w p T xs) (hp : ∀ g, v.ownBlock = some g → p g) : Sl w p v T := by
  rcases h.2 with ⟨rfl, hn⟩ | ⟨g, cap, cur, rfl, _, _, hnc, _⟩
  · exact ⟨none, 0, by rw [hn], by omega, fun hl => absurd hl (by omega)⟩
  · refine ⟨_, cap, rfl, hnc, fun _ => ⟨g, 0, rfl, hc.seg (fun _ => hp g rfl) fun j u hu => ?_⟩⟩
    have := h.cells (g := g) rfl j u hu
    simp only [Addr.add] at this
    split at this
    · rename_i h0; subst h0; simpa using this
    · simpa using this
end

theorem run_store_func {P : Program} {w : World} {a : Addr} {f : Fn} {x y : Array Value} {u : Value} (h : w.cell? a = some u) (hf : w.frozen? a = false) : (store a (.func f x y)).run P w = .ok () (w.setCell a (.func f x y)) := by
  simp [store, Sem.run, h, hf]
theorem setCell_new (w : World) (u v : Value) (t : TypeId) : (w.alloc (.cells #[u] t)).setCell ⟨w.heap.size, 0, none⟩ v = w.alloc (.cells #[v] t) := by
  show ({ w with heap := (w.heap.push (.cells #[u] t)).modify w.heap.size _ } : World) = { w with heap := w.heap.push (.cells #[v] t) }
  congr 1
  apply Array.ext_getElem?
  intro j
  rw [Array.getElem?_modify, Array.getElem?_push, Array.getElem?_push]
  by_cases e : w.heap.size = j
  · subst e; simp
  · simp [e, Ne.symm e]
theorem set_same {a : Array Value} {i : Nat} {v : Value} (h : a[i]? = some v) : a.setIfInBounds i v = a := by
  apply Array.ext_getElem?
  intro j
  by_cases hj : i = j
  · subst hj
    rw [Array.getElem?_setIfInBounds_self_of_lt (Array.getElem?_eq_some_iff.1 h).1, h]
  · rw [Array.getElem?_setIfInBounds_ne hj]
theorem own_form {w : World} {base : Nat} {e : TypeId} {size : Nat} {v : Value} {n : Nat} {xs : List Value} (h : w.ownsRow base e size v n xs) : ∃ A cap, v = .slice A n cap := by
  rcases h.2 with ⟨rfl, rfl⟩ | ⟨g, cap, cur, rfl, _⟩
  · exact ⟨_, _, rfl⟩
  · exact ⟨_, _, rfl⟩
theorem own_blk {w : World} {base : Nat} {e : TypeId} {size : Nat} {A : Option Addr} {n c : Nat} {xs : List Value} (h : w.ownsRow base e size (.slice A n c) n xs) :
    n ≤ c ∧ ∃ (g : Nat) (cur : Array Value), 0 < n → A = some ⟨g, 0, none⟩ ∧ base ≤ g ∧ Plot w g e cur ∧ ∀ (j : Nat) u, xs[j]? = some u → cur[j]? = some u := by
  rcases h.2 with ⟨h1, rfl⟩ | ⟨g, cap, cur, h1, hb, hh, hnc, _, _, htk⟩
  · exact ⟨Nat.zero_le _, 0, #[], fun h => absurd h (Nat.lt_irrefl _)⟩
  · simp only [Value.slice.injEq, true_and] at h1
    obtain ⟨rfl, rfl⟩ := h1
    refine ⟨hnc, g, cur, fun _ => ⟨rfl, hb, hh, fun j u hu => ?_⟩⟩
    rw [← htk, List.getElem?_take] at hu
    split at hu
    · simpa using hu
    · cases hu
theorem cell_lit (w : World) (cs : List Value) (t : TypeId) : ∀ j u, cs[j]? = some u → (w.alloc (.cells cs.toArray t)).cell? ((⟨w.heap.size, 0, none⟩ : Addr).add j) = some u := by
  intro j u hu
  have h := (Plot.new w t cs.toArray).cell j
  simp only [List.getElem?_toArray] at h
  by_cases hj : j = 0
  · subst hj; rw [← hu]; exact h
  · simp [Addr.add, hj, h, hu]

theorem own_below {w w' : World} {base : Nat} {e : TypeId} {size : Nat} {v : Value} {n : Nat} {xs : List Value} (h : w.ownsRow base e size v n xs) (hb : Below w.heap.size w w') : w'.ownsRow base e size v n xs :=
  h.kept (row := none) ⟨hb.os, hb.tape, hb.output, hb.size, fun k hk _ => hb.block k hk⟩ (by cases v.ownBlock <;> simp)

/-- An append onto a row of the call's own, as a step of a walk: it also says where the new row lies. -/
theorem wpList_append_at {P : Program} (w : World) {ops : Array Oper} {rest : List Oper} {o : Oper} {a : Act} {Q : Exit → Act → World → Prop} (hgd : o.guard = none) (s x : Operand) (t : TypeId)
    (ho : o.op = .call { callee := .builtin .append, args := #[s, x], argTypes := #[t, t] })
    (base : Nat) (e : TypeId) (i : TypeInfo) (z : Value) (size bytes : Nat) (ht : P.underlying t = some (.slice e)) (hi : P.info? e = some i) (hz : i.zero = some z)
    (hsize : i.size = size) (hby : i.bytes = bytes) (hzs : z.cells.size = size) (hsz : 0 < size)
    (v : Value) (n : Nat) (xs : List Value) (hs : a.eval s = v) (hown : w.ownsRow base e size v n xs)
    (ad : Addr) (m c : Nat) (news : List Value) (hx : a.eval x = .slice (some ad) m c) (hl : news.length = m * size) (hnews : ∀ j u, news[j]? = some u → w.cell? (ad.add j) = some u) (h1 : ∀ u ∈ news, u.oneCell' = true)
    (h63 : n + m ≤ maxLen) (hbytes : (n + m) * bytes ≤ 140737488355328) (hbase : base ≤ w.heap.size)
    (h : ∀ v' w', w'.ownsRow base e size v' (n + m) (xs ++ news) → w.grownBy w' v.ownBlock → (v'.ownBlock = v.ownBlock ∨ v'.ownBlock = some w.heap.size) → wpList P ops Q rest (a.put o.dst v') w') : wpList P ops Q (o :: rest) a w := by
  refine wpList_plain hgd fun K hK => ?_
  obtain ⟨v', w', hr, h2, h3, _, h5⟩ := run_append_own_at (P := P) w base t o.type e i z size bytes ht hi hz hsize hby hzs hsz v n xs hown ad m c news hl hnews h1 h63 hbytes hbase
  unfold Oper.wp execOp
  simp only [ho, resolve, invoke, builtin, Sem.run_bind, Sem.run_pure, Result.andThen_ok, List.map_toArray, List.map_cons, List.map_nil, hs, hx, hr]
  exact hK _ _ (h v' w' h2 h3 h5)
/-- The same in a region that draws its order. -/
theorem step_append_at {P : Program} (w : World) {ops : Array Oper} {o : Oper} {a : Act} {K : Act → World → Prop} {Q : Exit → Act → World → Prop} {E : Prop} (hgd : o.guard = none) (s x : Operand) (t : TypeId)
    (ho : o.op = .call { callee := .builtin .append, args := #[s, x], argTypes := #[t, t] })
    (base : Nat) (e : TypeId) (i : TypeInfo) (z : Value) (size bytes : Nat) (ht : P.underlying t = some (.slice e)) (hi : P.info? e = some i) (hz : i.zero = some z)
    (hsize : i.size = size) (hby : i.bytes = bytes) (hzs : z.cells.size = size) (hsz : 0 < size)
    (v : Value) (n : Nat) (xs : List Value) (hs : a.eval s = v) (hown : w.ownsRow base e size v n xs)
    (ad : Addr) (m c : Nat) (news : List Value) (hx : a.eval x = .slice (some ad) m c) (hl : news.length = m * size) (hnews : ∀ j u, news[j]? = some u → w.cell? (ad.add j) = some u) (h1 : ∀ u ∈ news, u.oneCell' = true)
    (h63 : n + m ≤ maxLen) (hbytes : (n + m) * bytes ≤ 140737488355328) (hbase : base ≤ w.heap.size)
    (h : ∀ v' w', w'.ownsRow base e size v' (n + m) (xs ++ news) → w.grownBy w' v.ownBlock → (v'.ownBlock = v.ownBlock ∨ v'.ownBlock = some w.heap.size) → K (a.put o.dst v') w') :
    if Region.wanted o (yielded ops a.tmps) = true then Oper.wp P o a w K Q else E := by
  have hw : Region.wanted o (yielded ops a.tmps) = true := by simp [Region.wanted, hgd]
  rw [if_pos hw]
  obtain ⟨v', w', hr, h2, h3, _, h5⟩ := run_append_own_at (P := P) w base t o.type e i z size bytes ht hi hz hsize hby hzs hsz v n xs hown ad m c news hl hnews h1 h63 hbytes hbase
  unfold Oper.wp execOp
  simp only [ho, resolve, invoke, builtin, Sem.run_bind, Sem.run_pure, Result.andThen_ok, List.map_toArray, List.map_cons, List.map_nil, hs, hx, hr]
  exact h v' w' h2 h3 h5

theorem str_eq {s t : ByteArray} : s.toList = t.toList ↔ s = t := by
  rw [ByteArray.toList_eq, ByteArray.toList_eq]
  constructor
  · intro h
    have : s.data = t.data := Array.toList_inj.1 h
    cases s; cases t; simp at this; rw [this]
  · intro h; rw [h]

theorem Seg.skip {w : World} {p : Nat → Prop} {R : Ts} {b : Nat} : ∀ {D : Ts} {o : Nat}, Seg w p (D.app R) b o → Seg w p R b (o + D.length * 4) := by
  intro D
  induction D with
  | nil => intro o h; simpa [Ts.length, Ts.app] using h
  | cons k n s ar r _ ih =>
    intro o h
    have := ih (seg_cons.1 h).2.2.2.2.2
    rw [show (Ts.cons k n s ar r).length = r.length + 1 from rfl, show o + (r.length + 1) * 4 = o + 4 + r.length * 4 by omega]
    exact this
theorem Sl.at_ {w : World} {p : Nat → Prop} {A : Option Addr} {len c : Nat} {D R : Ts} (h : Sl w p (.slice A len c) (D.app R)) (hR : 0 < R.length) :
    ∃ b o, A = some ⟨b, o, none⟩ ∧ Seg w p R b (o + D.length * 4) := by
  obtain ⟨A', c', e, _, hs⟩ := h
  simp only [Value.slice.injEq] at e
  obtain ⟨rfl, rfl, rfl⟩ := e
  obtain ⟨b, o, rfl, hseg⟩ := hs (by rw [Ts.length_app]; omega)
  exact ⟨b, o, rfl, hseg.skip⟩


/-- Between two worlds nothing that was there has turned, but for the blocks that S names. -/
structure Chg (S : Nat → Prop) (w w' : World) : Prop where
  os : w'.os = w.os
  tape : w'.tape = w.tape
  output : w'.output = w.output
  size : w.heap.size ≤ w'.heap.size
  block : ∀ k, k < w.heap.size → ¬ S k → w'.heap[k]? = w.heap[k]?
section
variable {S S' : Nat → Prop} {w w' w'' : World}
theorem Chg.refl (S : Nat → Prop) (w : World) : Chg S w w := ⟨rfl, rfl, rfl, Nat.le_refl _, fun _ _ _ => rfl⟩
theorem Chg.trans (h : Chg S w w') (h' : Chg S' w' w'') (hs : ∀ k, k < w.heap.size → S' k → S k) : Chg S w w'' :=
  ⟨h'.os.trans h.os, h'.tape.trans h.tape, h'.output.trans h.output, Nat.le_trans h.size h'.size, fun k hk hS => (h'.block k (Nat.lt_of_lt_of_le hk h.size) fun hs' => hS (hs k hk hs')).trans (h.block k hk hS)⟩
theorem Chg.mono (h : Chg S w w') (hs : ∀ k, k < w.heap.size → S k → S' k) : Chg S' w w' := ⟨h.os, h.tape, h.output, h.size, fun k hk hS => h.block k hk fun hs' => hS (hs k hk hs')⟩
theorem Chg.of_below {B : Nat} (h : Below B w w') : Chg (fun k => B ≤ k) w w' := ⟨h.os, h.tape, h.output, h.size, fun k _ hS => h.block k (by omega)⟩
theorem Chg.of_fresh (h : Below w.heap.size w w') : Chg S w w' := ⟨h.os, h.tape, h.output, h.size, fun k hk _ => h.block k hk⟩
theorem Chg.of_grown {row : Option Nat} (h : w.grownBy w' row) : Chg (fun k => row = some k) w w' := ⟨h.os, h.tape, h.output, h.size, fun k hk hS => h.block k hk fun e => hS e.symm⟩
theorem Chg.below {B : Nat} (h : Chg S w w') (hB : B ≤ w.heap.size) (hs : ∀ k, S k → k < w.heap.size → B ≤ k) : Below B w w' :=
  ⟨h.os, h.tape, h.output, h.size, fun k hk => h.block k (by omega) fun hS => by have := hs k hS (by omega); omega⟩
theorem Chg.setCell (h : Chg S w w') {p : Addr} (hp : p.block < w.heap.size → S p.block) (u : Value) : Chg S w (w'.setCell p u) :=
  ⟨h.os, h.tape, h.output, by simpa [World.setCell] using h.size, fun k hk hS => (Below.heap_setCell w' p u k (fun e => hS (e ▸ hp (e ▸ hk)))).trans (h.block k hk hS)⟩
theorem Chg.alloc (h : Chg S w w') (o : Obj) : Chg S w (w'.alloc o) :=
  ⟨h.os, h.tape, h.output, Nat.le_trans h.size (by simp), fun k hk hS => (Below.heap_alloc w' o k (Nat.lt_of_lt_of_le hk h.size)).trans (h.block k hk hS)⟩
theorem Chg.drew (h : Chg S w w') : Chg S w w'.drew := ⟨h.os, h.tape, h.output, h.size, h.block⟩
theorem Plot.chg {g : Nat} {t : TypeId} {cs : Array Value} (h : Plot w g t cs) (hc : Chg S w w') (hg : ¬ S g) : Plot w' g t cs := (hc.block g h.lt hg).trans h
theorem own_chg {base : Nat} {e : TypeId} {size : Nat} {v : Value} {n : Nat} {xs : List Value} (h : w.ownsRow base e size v n xs) (hc : Chg S w w') (hv : ∀ g, v.ownBlock = some g → ¬ S g) : w'.ownsRow base e size v n xs := by
  obtain ⟨h1, h2⟩ := h
  refine ⟨h1, ?_⟩
  rcases h2 with h2 | ⟨g, cap, cur, rfl, hg, hh, r⟩
  · exact .inl h2
  · have hl : g < w.heap.size := by
      rcases Nat.lt_or_ge g w.heap.size with hl | hl
      · exact hl
      · rw [Array.getElem?_eq_none hl] at hh; cases hh
    exact .inr ⟨g, cap, cur, rfl, hg, (hc.block g hl (hv g rfl)).trans hh, r⟩
theorem Sl.chg {p : Nat → Prop} {T : Ts} {v : Value} (h : Sl w p v T) (hc : Chg S w w') (hp : ∀ k, p k → ¬ S k) : Sl w' p v T := h.keep fun k hk hl => hc.block k hl (hp k hk)
end
end Go.Proofs.Ytjicoifjgokoiab
namespace Go.Proofs.Ytjicoifjgokoiab
open Go.RowKit
set_option linter.unusedVariables false
section
variable {M : List Nat} {w0 w w' : World} {H : List (Nat × Obj)} {F : List (World → Prop)} {v : Value} {T : Ts} {p : Nat → Prop}
/-- What reads so, reads so as long as only the blocks of M turn, none of which it takes. -/
theorem Sl.ext {N : List Nat} (h : Sl w p v T) (hx : Ext N w w') (hp : ∀ b, p b → b ∉ N) : Sl w' (fun _ => True) v T := (h.keep fun k hk hl => hx.block k hl (hp k hk)).any
theorem St.readBase (hS : St M w0 H F w) (h : Sl w0 p v T) (hp : ∀ b, p b → b ∉ M) : St M w0 H ((fun w => Sl w (fun _ => True) v T) :: F) w := hS.base fun w' hx => h.ext hx hp
theorem St.readBase0 (hS : St [] w0 H F w) (h : Sl w0 p v T) : St [] w0 H ((fun w => Sl w (fun _ => True) v T) :: F) w := hS.readBase h (by simp)
theorem St.keys_lt (hS : St M w0 H F w) {k : Nat} (hk : k ∈ H.map (·.1)) : k < w.heap.size := by
  obtain ⟨q, hq, rfl⟩ := List.mem_map.1 hk
  exact own_lt (hS.own q hq)
/-- What a call has made and handed back. -/
theorem St.readNew (hS : St M w0 H F w) (hb : Below w.heap.size w w') (h : Sl w' (fun b => w.heap.size ≤ b) v T) : St M w0 H ((fun w => Sl w (fun _ => True) v T) :: F) w' :=
  (hS.grow hb).learn fun w2 hx => h.ext hx fun b hb' hk => by have := hS.keys_lt hk; omega
end
end Go.Proofs.Ytjicoifjgokoiab
namespace Go.Proofs.Ytjicoifjgokoiab
open Go.RowKit
set_option linter.unusedVariables false
set_option linter.unusedSimpArgs false

/-- A term: its kind, number, name and arguments. -/
structure Tm where
  k : Int
  n : Int
  s : ByteArray
  ar : Ts
section
variable {P : Program} {n : Nat} {e : Env} {w : World} {ty : TypeId} {pos : String} {after : Array Edge} {x y : Operand} {dst : Option Nat} {t : TypeId}
theorem run_eqlS_t {t2 : TypeId} {a c : ByteArray} (hx : ev n e x = .string a) (hy : ev n e y = .string c) (h : a = c) : (execOp (ev n e) ⟨dst, .binOp .eql t x y t2, ty, pos, after, none⟩).run P w = .ok (.value (.bool true)) w := by
  have : (execOp (ev n e) ⟨dst, .binOp .eql t x y t2, ty, pos, after, none⟩).run P w = .ok (.value (.bool (a.toList == c.toList))) w := by simp only [execOp, hx, hy]; rfl
  rw [this, h]; simp
theorem run_eqlS_f {t2 : TypeId} {a c : ByteArray} (hx : ev n e x = .string a) (hy : ev n e y = .string c) (h : a ≠ c) : (execOp (ev n e) ⟨dst, .binOp .eql t x y t2, ty, pos, after, none⟩).run P w = .ok (.value (.bool false)) w := by
  have : (execOp (ev n e) ⟨dst, .binOp .eql t x y t2, ty, pos, after, none⟩).run P w = .ok (.value (.bool (a.toList == c.toList))) w := by simp only [execOp, hx, hy]; rfl
  have h2 : (a.toList == c.toList) = false := by
    rw [beq_eq_false_iff_ne]; exact fun e => h (str_eq.1 e)
  rw [this, h2]
theorem run_neqS_f {t2 : TypeId} {a c : ByteArray} (hx : ev n e x = .string a) (hy : ev n e y = .string c) (h : a = c) : (execOp (ev n e) ⟨dst, .binOp .neq t x y t2, ty, pos, after, none⟩).run P w = .ok (.value (.bool false)) w := by
  have : (execOp (ev n e) ⟨dst, .binOp .neq t x y t2, ty, pos, after, none⟩).run P w = .ok (.value (.bool (!(a.toList == c.toList)))) w := by simp only [execOp, hx, hy]; rfl
  rw [this, h]; simp
theorem run_neqS_t {t2 : TypeId} {a c : ByteArray} (hx : ev n e x = .string a) (hy : ev n e y = .string c) (h : a ≠ c) : (execOp (ev n e) ⟨dst, .binOp .neq t x y t2, ty, pos, after, none⟩).run P w = .ok (.value (.bool true)) w := by
  have : (execOp (ev n e) ⟨dst, .binOp .neq t x y t2, ty, pos, after, none⟩).run P w = .ok (.value (.bool (!(a.toList == c.toList)))) w := by simp only [execOp, hx, hy]; rfl
  have h2 : (a.toList == c.toList) = false := by
    rw [beq_eq_false_iff_ne]; exact fun e => h (str_eq.1 e)
  rw [this, h2]; rfl
end
/-- A list of terms, and where the arguments of each lie. -/
inductive TA where
  | nil
  | cons (k n : Int) (s : ByteArray) (A : Option Addr) (c : Nat) (ar r : TA)
def TA.ts : TA → Ts
  | .nil => .nil
  | .cons k n s _ _ ar r => .cons k n s ar.ts r.ts
def TA.len : TA → Nat
  | .nil => 0
  | .cons _ _ _ _ _ _ r => r.len + 1
def TA.app : TA → TA → TA
  | .nil, y => y
  | .cons k n s A c ar r, y => .cons k n s A c ar (r.app y)
theorem TA.len_ts (T : TA) : T.ts.length = T.len := by
  induction T with
  | nil => rfl
  | cons k n s A c ar r _ ih => simp only [TA.ts, Ts.length, TA.len, ih]
theorem TA.app_ts (T U : TA) : (T.app U).ts = T.ts.app U.ts := by
  induction T with
  | nil => rfl
  | cons k n s A c ar r _ ih => simp only [TA.app, TA.ts, Ts.app, ih]
theorem TA.len_app (T U : TA) : (T.app U).len = T.len + U.len := by
  induction T with
  | nil => simp [TA.app, TA.len]
  | cons k n s A c ar r _ ih => simp only [TA.app, TA.len, ih]; omega
theorem TA.app_nil (T : TA) : T.app .nil = T := by
  induction T with
  | nil => rfl
  | cons k n s A c ar r _ ih => simp only [TA.app, ih]
theorem TA.app_assoc (a b c : TA) : (a.app b).app c = a.app (b.app c) := by
  induction a with
  | nil => rfl
  | cons k n s A c ar r _ ih => simp only [TA.app, ih]
/-- A term, and where its arguments lie. -/
structure LT where
  k : Int
  n : Int
  s : ByteArray
  A : Option Addr
  c : Nat
  ar : TA
def LT.tm (t : LT) : Tm := ⟨t.k, t.n, t.s, t.ar.ts⟩
abbrev tcs (t : LT) : List Value := [.int .i64 t.k, .int .i64 t.n, .string t.s, .slice t.A t.ar.len t.c]
abbrev tv (t : LT) : Value := .agg #[.int .i64 t.k, .int .i64 t.n, .string t.s, .slice t.A t.ar.len t.c]
/-- The terms T lie from cell o of block b on. -/
def SegA (w : World) : TA → Nat → Nat → Prop
  | .nil, _, _ => True
  | .cons k n s A c ar r, b, o => w.cell? ⟨b, o, none⟩ = some (.int .i64 k) ∧ w.cell? ⟨b, o + 1, none⟩ = some (.int .i64 n) ∧ w.cell? ⟨b, o + 2, none⟩ = some (.string s) ∧
      w.cell? ⟨b, o + 3, none⟩ = some (.slice A ar.len c) ∧ (ar.len ≤ c ∧ (0 < ar.len → ∃ b' o', A = some ⟨b', o', none⟩ ∧ SegA w ar b' o')) ∧ SegA w r b (o + 4)
def ArA (A : Option Addr) (c : Nat) (T : TA) (w : World) : Prop := T.len ≤ c ∧ (0 < T.len → ∃ b o, A = some ⟨b, o, none⟩ ∧ SegA w T b o)
/-- The arguments of t may be read where they are said to lie. -/
def LRd (t : LT) (w : World) : Prop := ArA t.A t.c t.ar w
theorem segA_cons {w : World} {k n : Int} {s : ByteArray} {A : Option Addr} {c : Nat} {ar r : TA} {b o : Nat} : SegA w (.cons k n s A c ar r) b o ↔ w.cell? ⟨b, o, none⟩ = some (.int .i64 k) ∧ w.cell? ⟨b, o + 1, none⟩ = some (.int .i64 n) ∧ w.cell? ⟨b, o + 2, none⟩ = some (.string s) ∧
      w.cell? ⟨b, o + 3, none⟩ = some (.slice A ar.len c) ∧ ArA A c ar w ∧ SegA w r b (o + 4) := Iff.rfl
theorem SegA.skip {w : World} {R : TA} {b : Nat} : ∀ {D : TA} {o : Nat}, SegA w (D.app R) b o → SegA w R b (o + D.len * 4) := by
  intro D
  induction D with
  | nil => intro o h; simpa [TA.len, TA.app] using h
  | cons k n s A c ar r _ ih =>
    intro o h
    have := ih (segA_cons.1 h).2.2.2.2.2
    rw [show (TA.cons k n s A c ar r).len = r.len + 1 from rfl, show o + (r.len + 1) * 4 = o + 4 + r.len * 4 by omega]
    exact this
/-- The term behind D. -/
theorem ArA.at_ {w : World} {A : Option Addr} {c : Nat} {D r : TA} {k n : Int} {s : ByteArray} {A' : Option Addr} {c' : Nat} {ar : TA} (h : ArA A c (D.app (.cons k n s A' c' ar r)) w) :
    ∃ b o, A = some ⟨b, o, none⟩ ∧ w.cell? ⟨b, o + D.len * 4, none⟩ = some (.int .i64 k) ∧ w.cell? ⟨b, o + D.len * 4 + 1, none⟩ = some (.int .i64 n) ∧ w.cell? ⟨b, o + D.len * 4 + 2, none⟩ = some (.string s) ∧
      w.cell? ⟨b, o + D.len * 4 + 3, none⟩ = some (.slice A' ar.len c') ∧ LRd ⟨k, n, s, A', c', ar⟩ w := by
  obtain ⟨_, hs⟩ := h
  obtain ⟨b, o, rfl, hseg⟩ := hs (by rw [TA.len_app]; simp only [TA.len]; omega)
  obtain ⟨h0, h1, h2, h3, h4, _⟩ := segA_cons.1 hseg.skip
  exact ⟨b, o, rfl, h0, h1, h2, h3, h4⟩
theorem ArA.some_ {w : World} {A : Option Addr} {c : Nat} {T : TA} (h : ArA A c T w) (hl : 0 < T.len) : ∃ b o, A = some ⟨b, o, none⟩ := by
  obtain ⟨b, o, e, _⟩ := h.2 hl
  exact ⟨b, o, e⟩
theorem ArA.cells {w : World} {b o : Nat} {c : Nat} {D r : TA} {k n : Int} {s : ByteArray} {A' : Option Addr} {c' : Nat} {ar : TA} (h : ArA (some ⟨b, o, none⟩) c (D.app (.cons k n s A' c' ar r)) w) :
    w.cell? ⟨b, o + D.len * 4, none⟩ = some (.int .i64 k) ∧ w.cell? ⟨b, o + D.len * 4 + 1, none⟩ = some (.int .i64 n) ∧ w.cell? ⟨b, o + D.len * 4 + 2, none⟩ = some (.string s) ∧ w.cell? ⟨b, o + D.len * 4 + 3, none⟩ = some (.slice A' ar.len c') := by
  obtain ⟨b', o', e, h0, h1, h2, h3, _⟩ := h.at_
  simp only [Option.some.injEq, Addr.mk.injEq, and_true] at e
  obtain ⟨rfl, rfl⟩ := e
  exact ⟨h0, h1, h2, h3⟩
theorem ArA.sub {w : World} {A : Option Addr} {c : Nat} {D r : TA} {k n : Int} {s : ByteArray} {A' : Option Addr} {c' : Nat} {ar : TA} (h : ArA A c (D.app (.cons k n s A' c' ar r)) w) : LRd ⟨k, n, s, A', c', ar⟩ w := by
  obtain ⟨_, _, _, _, _, _, _, h⟩ := h.at_; exact h
theorem SegA.seg {w : World} {T : TA} : ∀ {b o : Nat}, SegA w T b o → Seg w (fun _ => True) T.ts b o := by
  induction T with
  | nil => intros; trivial
  | cons k n s A c ar r iha ihr =>
    rintro b o ⟨h0, h1, h2, h3, ⟨h4, h5⟩, h6⟩
    refine ⟨trivial, h0, h1, h2, ⟨A, c, by rw [TA.len_ts]; exact h3, by rw [TA.len_ts]; exact h4, fun hl => ?_⟩, ihr h6⟩
    rw [TA.len_ts] at hl
    obtain ⟨b', o', e, hs⟩ := h5 hl
    exact ⟨b', o', e, iha hs⟩
theorem ArA.sl {w : World} {A : Option Addr} {c : Nat} {T : TA} (h : ArA A c T w) : Sl w (fun _ => True) (.slice A T.len c) T.ts :=
  ⟨A, c, by rw [TA.len_ts], by rw [TA.len_ts]; exact h.1, fun hl => by
    rw [TA.len_ts] at hl
    obtain ⟨b, o, e, hs⟩ := h.2 hl
    exact ⟨b, o, e, hs.seg⟩⟩
/-- What reads as terms lies somewhere, and goes on to read so. -/
theorem Seg.locate {w : World} {p : Nat → Prop} {T : Ts} : ∀ {b o : Nat}, Seg w p T b o → ∃ L : TA, L.ts = T ∧ ∀ w' : World, (∀ k, p k → k < w.heap.size → w'.heap[k]? = w.heap[k]?) → SegA w' L b o := by
  induction T with
  | nil => intro b o _; exact ⟨.nil, rfl, fun _ _ => trivial⟩
  | cons k n s ar r iha ihr =>
    rintro b o ⟨h1, h2, h3, h4, ⟨A, c, h5, h6, h7⟩, h8⟩
    obtain ⟨R, hR, hR'⟩ := ihr h8
    have key : ∃ L : TA, L.ts = ar ∧ ∀ w' : World, (∀ k, p k → k < w.heap.size → w'.heap[k]? = w.heap[k]?) → L.len ≤ c ∧ (0 < L.len → ∃ b' o', A = some ⟨b', o', none⟩ ∧ SegA w' L b' o') := by
      by_cases hl : 0 < ar.length
      · obtain ⟨b', o', e, h9⟩ := h7 hl
        obtain ⟨L, hL, hL'⟩ := iha h9
        exact ⟨L, hL, fun w' hw => ⟨by rw [← TA.len_ts, hL]; exact h6, fun _ => ⟨b', o', e, hL' w' hw⟩⟩⟩
      · refine ⟨.nil, (Ts.nil_of_length (by omega)).symm, fun w' hw => ⟨by simp [TA.len], fun h => by simp [TA.len] at h⟩⟩
    obtain ⟨L, hL, hL'⟩ := key
    have e1 : L.len = ar.length := by rw [← TA.len_ts, hL]
    refine ⟨.cons k n s A c L R, by simp only [TA.ts, hL, hR], fun w' hw => ?_⟩
    have e := hw b h1 (lt_of_cell h2)
    refine ⟨?_, ?_, ?_, ?_, hL' w' hw, hR' w' hw⟩
    · rw [World.cell?_of_block (w := w) (w' := w') (a := ⟨b, o, none⟩) e]; exact h2
    · rw [World.cell?_of_block (w := w) (w' := w') (a := ⟨b, o + 1, none⟩) e]; exact h3
    · rw [World.cell?_of_block (w := w) (w' := w') (a := ⟨b, o + 2, none⟩) e]; exact h4
    · rw [World.cell?_of_block (w := w) (w' := w') (a := ⟨b, o + 3, none⟩) e, e1]; exact h5
theorem Sl.locate {w : World} {p : Nat → Prop} {T : Ts} {v : Value} (h : Sl w p v T) : ∃ (A : Option Addr) (c : Nat) (L : TA), v = .slice A L.len c ∧ L.ts = T ∧ ∀ w' : World, (∀ k, p k → k < w.heap.size → w'.heap[k]? = w.heap[k]?) → ArA A c L w' := by
  obtain ⟨A, c, rfl, h6, h7⟩ := h
  by_cases hl : 0 < T.length
  · obtain ⟨b', o', e, h9⟩ := h7 hl
    obtain ⟨L, hL, hL'⟩ := h9.locate
    have e1 : L.len = T.length := by rw [← TA.len_ts, hL]
    exact ⟨A, c, L, by rw [e1], hL, fun w' hw => ⟨by rw [e1]; exact h6, fun _ => ⟨b', o', e, hL' w' hw⟩⟩⟩
  · have e0 : T.length = 0 := by omega
    exact ⟨A, c, .nil, by rw [e0]; rfl, (Ts.nil_of_length e0).symm, fun w' hw => ⟨by simp [TA.len], fun h => by simp [TA.len] at h⟩⟩
section
variable {M : List Nat} {w0 w w' : World} {H : List (Nat × Obj)} {F : List (World → Prop)} {v : Value} {T : Ts}
/-- A list of terms that a call has made and handed back. -/
theorem St.located (hS : St M w0 H F w) (hb : Below w.heap.size w w') (h : Sl w' (fun b => w.heap.size ≤ b) v T) : ∃ (A : Option Addr) (c : Nat) (L : TA), v = .slice A L.len c ∧ L.ts = T ∧ St M w0 H (ArA A c L :: F) w' := by
  obtain ⟨A, c, L, h1, h2, h3⟩ := h.locate
  refine ⟨A, c, L, h1, h2, (hS.grow hb).learn fun w2 hx => h3 w2 fun k hk hl => hx.block k hl fun hm => ?_⟩
  have := hS.keys_lt hm
  omega
/-- A list of terms that was there. -/
theorem St.located0 (hS : St [] w0 H F w) {p : Nat → Prop} (h : Sl w0 p v T) : ∃ (A : Option Addr) (c : Nat) (L : TA), v = .slice A L.len c ∧ L.ts = T ∧ St [] w0 H (ArA A c L :: F) w := by
  obtain ⟨A, c, L, h1, h2, h3⟩ := h.locate
  exact ⟨A, c, L, h1, h2, hS.base fun w2 hx => h3 w2 fun k hk hl => hx.block k hl (by simp)⟩
end

section
variable {M : List Nat} {w0 w w' : World} {H : List (Nat × Obj)} {F : List (World → Prop)} {b : Nat} {o : Obj}
/-- A block of the call's own that is never turned again. -/
theorem St.freeze (hS : St M w0 ((b, o) :: H) F w) : St M w0 H ((fun w => w.heap[b]? = some o) :: F) w := by
  have hb := hS.own (b, o) (.head _)
  have hlt := own_lt hb
  have hap := (List.pairwise_cons.1 hS.apart).1
  refine hS.drop.learn fun w2 hx => ?_
  rw [hx.block b hlt fun hm => ?_]
  · exact hb
  · obtain ⟨q, hq, e⟩ := List.mem_map.1 hm
    exact hap q hq e.symm
theorem St.freezeL : ∀ {O : List (Nat × Obj)} {F : List (World → Prop)}, St M w0 (O ++ H) F w → ∃ F', (∀ φ ∈ F, φ ∈ F') ∧ (∀ p ∈ O, Und F' fun w => w.heap[p.1]? = some p.2) ∧ St M w0 H F' w
  | [], F, hS => ⟨F, fun _ h => h, fun p hp => (by cases hp), hS⟩
  | p :: O, F, hS => by
    obtain ⟨F', h1, h2, h3⟩ := St.freezeL (O := O) (F := (fun w => w.heap[p.1]? = some p.2) :: F) (St.freeze (H := O ++ H) hS)
    refine ⟨F', fun φ h => h1 φ (.tail _ h), fun q hq => ?_, h3⟩
    rcases List.mem_cons.1 hq with rfl | hq
    · exact Und.head.mono (F := (fun w => w.heap[q.1]? = some q.2) :: F) h1
    · exact h2 q hq
end

section
variable {M : List Nat} {w0 w w' : World} {H : List (Nat × Obj)} {F : List (World → Prop)} {g : Nat} {o : Obj}
/-- A block that a call has made and handed back. -/
theorem St.adopt (hS : St M w0 H F w) (hb : Below w.heap.size w w') (hg : w.heap.size ≤ g) (ho : w'.heap[g]? = some o) : St M w0 ((g, o) :: H) F w' := by
  have hgr := hS.grow hb
  refine ⟨fun p hp => ?_, ?_, hgr.ext, fun p hp => ?_, fun φ hφ w2 hw => ?_⟩
  · rcases List.mem_cons.1 hp with rfl | hp
    · exact ho
    · exact hgr.own p hp
  · refine List.pairwise_cons.2 ⟨fun q hq => ?_, hS.apart⟩
    have := own_lt (hS.own q hq)
    show g ≠ q.1
    omega
  · rcases List.mem_cons.1 hp with rfl | hp
    · exact .inr (Nat.le_trans hS.ext.size hg)
    · exact hS.new p hp
  · refine hS.facts φ hφ w2 ⟨hw.os.trans hb.os, hw.tape.trans hb.tape, hw.output.trans hb.output, Nat.le_trans hb.size hw.size, fun k hk hm => ?_⟩
    have := hw.block k (Nat.lt_of_lt_of_le hk hb.size) (by simp at hm ⊢; exact ⟨by omega, hm⟩)
    rw [this]
    exact hb.block k hk
theorem St.dropN {O : List (Nat × Obj)} (hS : St M w0 (O ++ H) F w) : St M w0 H F w := St.dropL hS
end
theorem putN_mid : ∀ (X ys vs Z : List Value) (o : Nat), X.length = o → ys.length = vs.length → PutN (X ++ (ys ++ Z)) o vs (X ++ (vs ++ Z))
  | [], ys, vs, Z, o, h, hl => by
    obtain rfl : o = 0 := by simpa using h.symm
    induction ys generalizing vs with
    | nil =>
      obtain rfl : vs = [] := List.eq_nil_of_length_eq_zero (by simpa using hl.symm)
      exact .z
    | cons y ys ih =>
      cases vs with
      | nil => simp at hl
      | cons v vs => exact .t (ih vs (by simpa using hl))
  | x :: X, ys, vs, Z, o, h, hl => by
    obtain ⟨o, rfl⟩ : ∃ o', o = o' + 1 := ⟨o - 1, by simp at h; omega⟩
    exact .s (putN_mid X ys vs Z o (by simpa using h) hl)
/-- The cells of a list of terms. -/
def tcsL : TA → List Value
  | .nil => []
  | .cons k n s A c ar r => [.int .i64 k, .int .i64 n, .string s, .slice A ar.len c] ++ tcsL r
theorem tcsL_len (T : TA) : (tcsL T).length = T.len * 4 := by
  induction T with
  | nil => rfl
  | cons k n s A c ar r _ ih => simp [tcsL, TA.len, ih]; omega
theorem tcsL_app (T U : TA) : tcsL (T.app U) = tcsL T ++ tcsL U := by
  induction T with
  | nil => rfl
  | cons k n s A c ar r _ ih => simp [tcsL, TA.app, ih]
def AllR : TA → World → Prop
  | .nil, _ => True
  | .cons k n s A c ar r, w => ArA A c ar w ∧ AllR r w
theorem AllR.app {w : World} {U : TA} (hU : AllR U w) : ∀ {T : TA}, AllR T w → AllR (T.app U) w := by
  intro T
  induction T with
  | nil => intro _; exact hU
  | cons k n s A c ar r _ ih => intro h; exact ⟨h.1, ih h.2⟩
theorem segA_of {w : World} {b : Nat} : ∀ {T : TA} {o : Nat}, AllR T w → (∀ j u, (tcsL T)[j]? = some u → w.cell? ⟨b, o + j, none⟩ = some u) → SegA w T b o := by
  intro T
  induction T with
  | nil => intros; trivial
  | cons k n s A c ar r _ ih =>
    intro o hr h
    refine segA_cons.2 ⟨h 0 _ rfl, h 1 _ rfl, h 2 _ rfl, h 3 _ rfl, hr.1, ih hr.2 fun j u hu => ?_⟩
    rw [show o + 4 + j = o + (j + 4) by omega]
    exact h (j + 4) u (by simpa [tcsL] using hu)
theorem SegA.cells {w : World} {b : Nat} : ∀ {T : TA} {o : Nat}, SegA w T b o → AllR T w ∧ ∀ j u, (tcsL T)[j]? = some u → w.cell? ⟨b, o + j, none⟩ = some u := by
  intro T
  induction T with
  | nil => intro o _; exact ⟨trivial, fun j u hu => by simp [tcsL] at hu⟩
  | cons k n s A c ar r _ ih =>
    intro o h
    obtain ⟨h0, h1, h2, h3, h4, h5⟩ := segA_cons.1 h
    obtain ⟨g1, g2⟩ := ih h5
    refine ⟨⟨h4, g1⟩, fun j u hu => ?_⟩
    match j, hu with
    | 0, hu => simp [tcsL] at hu; subst hu; simpa using h0
    | 1, hu => simp [tcsL] at hu; subst hu; exact h1
    | 2, hu => simp [tcsL] at hu; subst hu; exact h2
    | 3, hu => simp [tcsL] at hu; subst hu; exact h3
    | j + 4, hu => rw [show o + (j + 4) = o + 4 + j by omega]; exact g2 j u (by simpa [tcsL] using hu)
theorem tcsL_one (T : TA) : ∀ u ∈ tcsL T, u.oneCell' = true := by
  induction T with
  | nil => intro u hu; cases hu
  | cons k n s A c ar r _ ih =>
    intro u hu
    simp only [tcsL, List.cons_append, List.nil_append, List.mem_cons] at hu
    rcases hu with rfl | rfl | rfl | rfl | hu
    · rfl
    · rfl
    · rfl
    · rfl
    · exact ih u hu
/-- A result of three parts, of which the first lies in a block of the call's own. -/
theorem goes_retC3 {P : Program} {n : Nat} {e : Env} {w : World} {M : List Nat} {w0 : World} {H : List (Nat × Obj)} {F : List (World → Prop)} {b : Nat} {t : TypeId} {f : FuncId} {R : Ending → World → Prop} {k : List Item} {fn : Func} {a u x sz : Nat} {o : Nat} {cs vs : List Value} {ct : TypeId} {v2 v3 : Value} (hS : St M w0 H F w) (hf : P.funcs[f]? = some fn) (hr : fn.results = #[.cell a t, .tmp u, .tmp x]) (hv : ev n e (.tmp a) = .pointer (some ⟨b, o, none⟩))
    (h2 : ev n e (.tmp u) = v2) (h3 : ev n e (.tmp x) = v3) (hA : aggOf P t = some true) (hs : cellsP P t = some sz) (hb : At H b (.cells cs.toArray ct)) (hc : Cut cs o sz vs) (hR : R (.returned (.tuple #[.agg vs.toArray, v2, v3])) w) : Goes P f R (.code .ret :: k) (act n e) w := by
  unfold Goes
  intro fr cs' hb' hk
  refine ⟨.returned (.tuple #[.agg vs.toArray, v2, v3]), w, { fr.at (act n e) (.code .ret :: k) with mode := .returning }, hR, Steps.one step_ret, hb', rfl, rfl, hk, fn, ?_, ?_⟩
  · show P.funcs[fr.fn]? = some fn
    rw [hb']; exact hf
  · show (results fn (arr n e)).run P w = _
    have h1 := run_isAgg (w := w) hA
    have h4 := run_sizeP (w := w) hs
    have h5 := run_loadCells_list (P := P) (w := w) ⟨b, o, none⟩ vs (fun j v hj => by
      rw [addrPlus, cell_own (hS.at_ hb)]
      have hjk : j < sz := by
        rcases Nat.lt_or_ge j sz with h | h
        · exact h
        · rw [List.getElem?_eq_none (by rw [hc.length]; exact h)] at hj; cases hj
      rw [hc.get j hjk]; exact hj)
    rw [hc.length] at h5
    have hv' : (arr n e).getD a undef = .pointer (some ⟨b, o, none⟩) := by rw [arr_getD]; exact hv
    have hu' : (arr n e).getD u undef = v2 := by rw [arr_getD]; exact h2
    have hx' : (arr n e).getD x undef = v3 := by rw [arr_getD]; exact h3
    simp only [Array.getD_eq_getD_getElem?] at hv' hu' hx'
    simp only [results, hr]
    simp [hv', hu', hx', asAddr, loadVar, h1, h4, h5]
end Go.Proofs.Ytjicoifjgokoiab
namespace Go.Proofs.Ytjicoifjgokoiab
open Go.RowKit
set_option linter.unusedVariables false
set_option linter.unusedSimpArgs false

def hcs (c : HC) : List Value := [.int .i64 c.k, .int .i64 c.n, .string c.s]
def hcsL : List HC → List Value
  | [] => []
  | c :: r => .int .i64 c.k :: .int .i64 c.n :: .string c.s :: hcsL r
def intsV (l : List Int) : List Value := l.map (Value.int .i64)
def boolsV (l : List Bool) : List Value := l.map Value.bool
theorem hcsL_len : ∀ L : List HC, (hcsL L).length = L.length * 3
  | [] => rfl
  | c :: r => by simp only [hcsL, List.length_cons, hcsL_len r]; omega
theorem hcsL_app : ∀ L R : List HC, hcsL (L ++ R) = hcsL L ++ hcsL R
  | [], R => rfl
  | c :: r, R => by simp only [hcsL, List.cons_append, hcsL_app r R]
theorem hcsL_one : ∀ L : List HC, (hcsL L).all (·.oneCell') = true
  | [] => rfl
  | c :: r => by simp only [hcsL, List.all_cons, hcsL_one r]; rfl
theorem intsV_len (l : List Int) : (intsV l).length = l.length * 1 := by simp [intsV]
theorem boolsV_len (l : List Bool) : (boolsV l).length = l.length * 1 := by simp [boolsV]
theorem intsV_one (l : List Int) : (intsV l).all (·.oneCell') = true := by simp [intsV, Value.oneCell']
theorem boolsV_one (l : List Bool) : (boolsV l).all (·.oneCell') = true := by simp [boolsV, Value.oneCell']
theorem hcsL_get : ∀ (L : List HC) (i : Nat) (x : HC), L[i]? = some x → (hcsL L)[i * 3]? = some (.int .i64 x.k) ∧ (hcsL L)[i * 3 + 1]? = some (.int .i64 x.n) ∧ (hcsL L)[i * 3 + 2]? = some (.string x.s)
  | [], i, x, h => by simp at h
  | c :: r, 0, x, h => by
    obtain rfl : c = x := by simpa using h
    exact ⟨rfl, rfl, rfl⟩
  | c :: r, i + 1, x, h => by
    have h' : r[i]? = some x := by simpa using h
    obtain ⟨h0, h1, h2⟩ := hcsL_get r i x h'
    rw [show (i + 1) * 3 = i * 3 + 3 by omega]
    exact ⟨by simpa [hcsL] using h0, by simpa [hcsL] using h1, by simpa [hcsL] using h2⟩

/-- A slice's cells, as they lie. -/
def Flat (sz : Nat) (xs : List Value) (A : Option Addr) (len cap : Nat) (w : World) : Prop :=
  xs.length = len * sz ∧ len ≤ cap ∧ (0 < len → ∃ b o, A = some ⟨b, o, none⟩ ∧ ∀ j v, xs[j]? = some v → w.cell? ⟨b, o + j, none⟩ = some v)
section
variable {sz len cap : Nat} {xs : List Value} {A : Option Addr} {w w' : World}
theorem cell_lt {a : Addr} {v : Value} (hc : w.cell? a = some v) : a.block < w.heap.size := by
  rcases Nat.lt_or_ge a.block w.heap.size with hl | hg
  · exact hl
  · simp [World.cell?, Array.getElem?_eq_none hg] at hc
theorem cell_block {b o : Nat} {v : Value} (hc : w.cell? ⟨b, o, none⟩ = some v) (h : w'.heap[b]? = w.heap[b]?) : w'.cell? ⟨b, o, none⟩ = some v := by
  unfold World.cell? at hc ⊢
  rw [h]; exact hc
theorem Flat.ext (h : Flat sz xs A len cap w) (hx : Ext [] w w') : Flat sz xs A len cap w' :=
  ⟨h.1, h.2.1, fun hl => by
    obtain ⟨b, o, e, hc⟩ := h.2.2 hl
    exact ⟨b, o, e, fun j v hj => cell_block (hc j v hj) (hx.block b (cell_lt (hc j v hj)) (by simp))⟩⟩
theorem Flat.below (h : Flat sz xs A len cap w) (hx : Below w.heap.size w w') : Flat sz xs A len cap w' := h.ext (Below.ext hx)
theorem Flat.nil_ (A : Option Addr) (c : Nat) (w : World) : Flat sz [] A 0 c w := ⟨by simp, Nat.zero_le _, fun h => absurd h (Nat.lt_irrefl _)⟩
theorem Flat.some_ (h : Flat sz xs A len cap w) (hl : 0 < len) : ∃ b o, A = some ⟨b, o, none⟩ := by
  obtain ⟨b, o, e, _⟩ := h.2.2 hl
  exact ⟨b, o, e⟩
theorem Flat.get {b o : Nat} (h : Flat sz xs (some ⟨b, o, none⟩) len cap w) {j : Nat} {v : Value} (hj : xs[j]? = some v) : w.cell? ⟨b, o + j, none⟩ = some v := by
  by_cases hl : 0 < len
  · obtain ⟨b', o', e, hc⟩ := h.2.2 hl
    simp only [Option.some.injEq, Addr.mk.injEq] at e
    rw [e.1, e.2.1]; exact hc j v hj
  · have : xs = [] := List.eq_nil_of_length_eq_zero (by rw [h.1]; have : len = 0 := by omega
                                                        rw [this]; simp)
    subst this; simp at hj
theorem Flat.own {b el : Nat} {sp : List Value} (ho : w.heap[b]? = some (.cells (xs ++ sp).toArray el)) (hx : xs.length = len * sz) (hc : len ≤ cap) : Flat sz xs (some ⟨b, 0, none⟩) len cap w :=
  ⟨hx, hc, fun _ => ⟨b, 0, rfl, fun j v hj => by
    rw [cell_own ho, Nat.zero_add, List.getElem?_append_left]
    · exact hj
    · rcases Nat.lt_or_ge j xs.length with h | h
      · exact h
      · rw [List.getElem?_eq_none h] at hj; cases hj⟩⟩
/-- The first m elements. -/
theorem Flat.take (h : Flat sz xs A len cap w) {m c' : Nat} (hm : m ≤ len) (hc : m ≤ c') : Flat sz (xs.take (m * sz)) A m c' w := by
  refine ⟨by rw [List.length_take, h.1]; exact Nat.min_eq_left (Nat.mul_le_mul_right _ hm), hc, fun hl => ?_⟩
  obtain ⟨b, o, e, hg⟩ := h.2.2 (by omega)
  refine ⟨b, o, e, fun j v hj => hg j v ?_⟩
  rw [List.getElem?_take] at hj
  split at hj
  · exact hj
  · cases hj
end
section
variable {L : List HC} {cap : Nat} {A : Option Addr} {b o : Nat} {w w' : World}
theorem Flat.cell (h : Flat 3 (hcsL L) (some ⟨b, o, none⟩) L.length cap w) {i : Nat} {x : HC} (hi : L[i]? = some x) :
    w.cell? ⟨b, o + i * 3, none⟩ = some (.int .i64 x.k) ∧ w.cell? ⟨b, o + i * 3 + 1, none⟩ = some (.int .i64 x.n) ∧ w.cell? ⟨b, o + i * 3 + 2, none⟩ = some (.string x.s) := by
  obtain ⟨h0, h1, h2⟩ := hcsL_get L i x hi
  refine ⟨h.get h0, ?_, ?_⟩
  · rw [Nat.add_assoc]; exact h.get h1
  · rw [Nat.add_assoc]; exact h.get h2
end
theorem Flat.int {l : List Int} {cap b o : Nat} {w : World} (h : Flat 1 (intsV l) (some ⟨b, o, none⟩) l.length cap w) {i : Nat} {x : Int} (hi : l[i]? = some x) : w.cell? ⟨b, o + i * 1, none⟩ = some (.int .i64 x) := by
  rw [Nat.mul_one]; exact h.get (by simp [intsV, hi])
theorem Flat.bool {l : List Bool} {cap b o : Nat} {w : World} (h : Flat 1 (boolsV l) (some ⟨b, o, none⟩) l.length cap w) {i : Nat} {x : Bool} (hi : l[i]? = some x) : w.cell? ⟨b, o + i * 1, none⟩ = some (.bool x) := by
  rw [Nat.mul_one]; exact h.get (by simp [boolsV, hi])
/-- A fact of the start stays one. -/
theorem St.flat {M : List Nat} {w0 w : World} {H : List (Nat × Obj)} {F : List (World → Prop)} {sz len cap : Nat} {xs : List Value} {A : Option Addr} (h : St [] w0 H F w) (hf : Flat sz xs A len cap w0) : St [] w0 H (Flat sz xs A len cap :: F) w := h.base fun w' hx => hf.ext hx
abbrev heapV (A : Option Addr) (n c : Nat) (B : Option Addr) (m d : Nat) : Value := .agg #[.slice A n c, .slice B m d]
/-- A heap that lies there. -/
def HFl (h : HH) (A : Option Addr) (c : Nat) (B : Option Addr) (d : Nat) (w : World) : Prop := Flat 3 (hcsL h.cs) A h.cs.length c w ∧ Flat 1 (intsV h.tr) B h.tr.length d w
abbrev hv (h : HH) (A : Option Addr) (c : Nat) (B : Option Addr) (d : Nat) : Value := heapV A h.cs.length c B h.tr.length d
theorem HFl.ext {h : HH} {A B : Option Addr} {c d : Nat} {w w' : World} (H : HFl h A c B d w) (hx : Ext [] w w') : HFl h A c B d w' := ⟨H.1.ext hx, H.2.ext hx⟩
theorem HFl.below {h : HH} {A B : Option Addr} {c d : Nat} {w w' : World} (H : HFl h A c B d w) (hx : Below w.heap.size w w') : HFl h A c B d w' := H.ext (Below.ext hx)
end Go.Proofs.Ytjicoifjgokoiab
namespace Go.Proofs.Ytjicoifjgokoiab
open Go.RowKit
set_option linter.unusedVariables false
set_option linter.unusedSimpArgs false
set_option maxRecDepth 100000

section
variable {P : Program} {n : Nat} {e : Env} {w : World} {ty : TypeId} {pos : String} {after : Array Edge} {dst : Option Nat} {x y : Operand} {t t2 : TypeId}
theorem run_max2 {a c m : Int} {ts : Array TypeId} (hx : ev n e x = .int .i64 a) (hy : ev n e y = .int .i64 c) (hm : m = if a < c then c else a) :
    (execOp (ev n e) ⟨dst, .call ⟨.builtin .max, #[x, y], ts⟩, ty, pos, after, none⟩).run P w = .ok (.value (.int .i64 m)) w := by
  subst hm
  simp only [execOp, resolve, List.map_toArray, List.map_cons, List.map_nil, hx, hy, bind, pure, Sem.bind, invoke, builtin, Builtin.max_, List.foldlM, Builtin.max2]
  by_cases h : a < c
  · rw [if_pos h]; simp [h, Sem.run, Sem.bind]; try rfl
  · rw [if_neg h]; simp [h, Sem.run, Sem.bind]; try rfl
theorem run_min2 {a c m : Int} {ts : Array TypeId} (hx : ev n e x = .int .i64 a) (hy : ev n e y = .int .i64 c) (hm : m = if c < a then c else a) :
    (execOp (ev n e) ⟨dst, .call ⟨.builtin .min, #[x, y], ts⟩, ty, pos, after, none⟩).run P w = .ok (.value (.int .i64 m)) w := by
  subst hm
  simp only [execOp, resolve, List.map_toArray, List.map_cons, List.map_nil, hx, hy, bind, pure, Sem.bind, invoke, builtin, Builtin.min_, List.foldlM, Builtin.min2]
  by_cases h : c < a
  · rw [if_pos h]; simp [h, Sem.run, Sem.bind]; try rfl
  · rw [if_neg h]; simp [h, Sem.run, Sem.bind]; try rfl
theorem run_part3 {vs : List Value} {v : Value} {o t : Nat} (hA : aggOf P t = some false) (h : vs[o]? = some v) (w : World) : (part t vs.toArray o).run P w = .ok v w := by
  simp only [part, bind]
  rw [Sem.run_bind', run_isAgg hA]
  simp [Sem.run, h, pure]
theorem run_cell_eq (a b : HC) (w : World) : (Op.equalIn 10000 59 (.agg (hcs a).toArray) (.agg (hcs b).toArray)).run Try.prog w = .ok (decide (a = b)) w := by
  rw [run_equalIn_agg w 9999 _ _ _ (by kernel_rfl) (by kernel_rfl)]
  have hf : (Try.prog.fieldsOf 59).toList = [⟨ "Kind", 3, 0, false, "", "", 0⟩, ⟨ "N", 3, 1, false, "", "", 8⟩, ⟨ "S", 9, 2, false, "", "", 16⟩] := by kernel_rfl
  have p0 := fun (c : HC) w => run_part3 (P := Try.prog) (vs := hcs c) (v := .int .i64 c.k) (o := 0) (t := 3) rfl rfl w
  have p1 := fun (c : HC) w => run_part3 (P := Try.prog) (vs := hcs c) (v := .int .i64 c.n) (o := 1) (t := 3) rfl rfl w
  have p2 := fun (c : HC) w => run_part3 (P := Try.prog) (vs := hcs c) (v := .string c.s) (o := 2) (t := 9) rfl rfl w
  have q0 : ∀ (a b : Int) w, (Op.equalIn 9999 3 (.int .i64 a) (.int .i64 b)).run Try.prog w = .ok (a == b) w := fun a b w => run_equalIn_int w 9998 _ _ .i64 _ _ (by kernel_rfl)
  have q2 : ∀ (a b : ByteArray) w, (Op.equalIn 9999 9 (.string a) (.string b)).run Try.prog w = .ok (a.toList == b.toList) w := fun a b w => run_equalIn_string w 9998 _ _ _ (by kernel_rfl)
  rw [hf]
  obtain ⟨ak, an, az⟩ := a
  obtain ⟨bk, bn, bz⟩ := b
  simp only [Op.eqFields, Sem.run_bind, p0, p1, p2, q0, q2, Result.andThen_ok, Sem.run_ite, Sem.run_pure, HC.mk.injEq]
  by_cases h0 : ak = bk
  · by_cases h1 : an = bn
    · by_cases h2 : az = bz
      · simp [h0, h1, h2, Sem.run]
      · have h2' : ¬ az.toList = bz.toList := fun e => h2 (str_eq.1 e)
        simp [h0, h1, h2, h2', Sem.run]
    · simp [h0, h1, Sem.run]
  · simp [h0, Sem.run]
theorem run_neq_cell {a b : HC} (hx : ev n e x = .agg (hcs a).toArray) (hy : ev n e y = .agg (hcs b).toArray) :
    (execOp (ev n e) ⟨dst, .binOp .neq 59 x y 59, ty, pos, after, none⟩).run Try.prog w = .ok (.value (.bool (!decide (a = b)))) w := by
  simp only [execOp, hx, hy, bind, pure]
  rw [Sem.run_bind', Sem.run_bind', run_eqGuard_agg w _ _ _ _ _ _ (by kernel_rfl)]
  simp only [Result.andThen_ok]
  rw [run_neq_struct, run_cell_eq]
  rfl
end
end Go.Proofs.Ytjicoifjgokoiab
