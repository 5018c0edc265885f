/-
  Values and slices that are built out of parts. No program is named here.
-/
import Derived.Test.YtdiophafmokfiaaDoorOps
namespace Go.Proofs.YtdiophafmokfiaaDoor
open Go.RowKit
set_option linter.unusedSimpArgs false
set_option linter.unusedVariables false

def setL : List Value → Nat → List Value → List Value
  | l, _, [] => l
  | l, i, v :: r => setL (l.set i v) (i + 1) r
theorem setL_length : ∀ (r l : List Value) (i : Nat), (setL l i r).length = l.length
  | [], l, i => rfl
  | v :: r, l, i => by rw [setL, setL_length r]; simp
theorem fold_setL (off : Nat) : ∀ (r : List Value) (k : Nat) (l : List Value), ((r.zipIdx k).foldl (fun (cs : Array Value) (p : Value × Nat) => cs.setIfInBounds (off + p.2) p.1) l.toArray) = (setL l (off + k) r).toArray
  | [], k, l => by simp [setL]
  | v :: r, k, l => by
    rw [List.zipIdx_cons, List.foldl_cons]
    simp only [List.setIfInBounds_toArray]
    rw [fold_setL off r (k + 1) (l.set (off + k) v), setL, Nat.add_assoc]
def fillL (place : Nat → Option (Nat × Nat)) : List Value → List (Nat × Value) → Option (List Value)
  | cells, [] => some cells
  | cells, (i, v) :: rest => match place i with
    | none => none
    | some (off, size) => bif !Nat.beq v.cells.toList.length size || !Nat.ble (off + v.cells.toList.length) cells.length then none else fillL place (setL cells off v.cells.toList) rest
theorem fill_eq (place : Nat → Option (Nat × Nat)) : ∀ (pl : List (Nat × Value)) (cells : List Value) {r : List Value}, fillL place cells pl = some r → Instr.fill place cells.toArray pl = some r.toArray
  | [], cells, r, h => by simp only [fillL, Option.some.injEq] at h; subst h; rfl
  | (i, v) :: rest, cells, r, h => by
    unfold fillL at h
    unfold Instr.fill
    cases hp : place i with
    | none => rw [hp] at h; cases h
    | some q =>
      obtain ⟨off, size⟩ := q
      rw [hp] at h
      simp only at h ⊢
      cases hb : (!Nat.beq v.cells.toList.length size || !Nat.ble (off + v.cells.toList.length) cells.length) with
      | true => rw [hb] at h; cases h
      | false =>
        rw [hb] at h
        simp only [Bool.or_eq_false_iff, Bool.not_eq_false'] at hb
        have h1 : v.cells.size = size := by simpa using Nat.eq_of_beq_eq_true hb.1
        have h2 := Nat.le_of_ble_eq_true hb.2
        rw [if_neg (by simp at h2 ⊢; exact ⟨h1, h2⟩)]
        simp only [cond_false] at h
        have := fold_setL off v.cells.toList 0 cells
        rw [Nat.add_zero] at this
        have he : (v.cells.zipIdx.foldl (fun cs (p : Value × Nat) => cs.setIfInBounds (off + p.2) p.1) cells.toArray) = (setL cells off v.cells.toList).toArray := by
          rw [← this, ← Array.foldl_toList, Array.toList_zipIdx]
        show Instr.fill place (v.cells.zipIdx.foldl (fun cs (p : Value × Nat) => cs.setIfInBounds (off + p.2) p.1) cells.toArray) rest = _
        rw [he]
        exact fill_eq place rest _ h

inductive PutN : List Value → Nat → List Value → List Value → Prop
  | z {l : List Value} : PutN l 0 [] l
  | t {u v : Value} {l l' vs : List Value} : PutN l 0 vs l' → PutN (u :: l) 0 (v :: vs) (v :: l')
  | s {u : Value} {l l' vs : List Value} {i : Nat} : PutN l i vs l' → PutN (u :: l) (i + 1) vs (u :: l')
theorem PutN.eq {l l' vs : List Value} {i : Nat} (h : PutN l i vs l') : l' = l.take i ++ vs ++ l.drop (i + vs.length) ∧ i + vs.length ≤ l.length := by
  induction h with
  | z => simp
  | t _ ih => obtain ⟨h1, h2⟩ := ih; rw [h1]; simp at h2 ⊢; exact h2
  | s _ ih => obtain ⟨h1, h2⟩ := ih; rw [h1]; simp [show ∀ a b : Nat, a + 1 + b = (a + b) + 1 by omega]; omega

section
variable {P : Program} {n : Nat} {e : Env} {w : World} {Q : Exit → Act → World → Prop} {ops : Array Oper} {rest : List Oper} {ty : TypeId} {pos : String} {after : Array Edge} {d : Nat}
variable {M : List Nat} {w0 : World} {H H' : List (Nat × Obj)} {F : List (World → Prop)} {b o : Nat} {x y : Operand} {v : Value} {dst : Option Nat} {t t2 : TypeId}

inductive Parts (n : Nat) (e : Env) : List (Nat × Operand) → List (Nat × Value) → Prop
  | nil : Parts n e [] []
  | cons {i : Nat} {x : Operand} {v : Value} {ps : List (Nat × Operand)} {pl : List (Nat × Value)} (h : ev n e x = v) : Parts n e ps pl → Parts n e ((i, x) :: ps) ((i, v) :: pl)
theorem Parts.eq {n : Nat} {e : Env} {ps : List (Nat × Operand)} {pl : List (Nat × Value)} (h : Parts n e ps pl) : (ps.map fun p => (p.1, ev n e p.2)) = pl := by
  induction h with
  | nil => rfl
  | cons h _ ih => simp only [List.map_cons, ih, h]

def placesL (P : Program) : List Field → Option (List (Nat × Nat))
  | [] => some []
  | f :: r => match cellsP P f.type with
    | none => none
    | some s => match placesL P r with
      | none => none
      | some l => some ((f.offset, s) :: l)
theorem run_places : ∀ {fs : List Field} {l : List (Nat × Nat)}, placesL P fs = some l → (fs.mapM (m := Sem) fun f => do pure (f.offset, ← sizeOf f.type)).run P w = .ok l w
  | [], l, h => by simp only [placesL, Option.some.injEq] at h; subst h; rfl
  | f :: r, l, h => by
    unfold placesL at h
    cases hc : cellsP P f.type with
    | none => rw [hc] at h; cases h
    | some s =>
      rw [hc] at h
      simp only at h
      cases hr : placesL P r with
      | none => rw [hr] at h; cases h
      | some l' =>
        rw [hr] at h
        simp only [Option.some.injEq] at h
        subst h
        have h1 := run_sizeP (w := w) hc
        have h2 := run_places hr
        rw [List.mapM_cons]
        simp only [bind, pure] at h2 ⊢
        rw [Sem.run_bind', Sem.run_bind', h1]
        simp only [Result.andThen_ok, Sem.run]
        rw [Sem.run_bind', h2]
        rfl
def buildL (P : Program) (t : TypeId) (pl : List (Nat × Value)) : Option (List Value) := match P.underlying t with
  | some (.struct fs) => match zeroP P t, placesL P fs.toList with
    | some z, some l => fillL (fun i => l[i]?) z.cells.toList pl
    | _, _ => none
  | _ => none
theorem run_build {parts : List (Nat × Operand)} {pl : List (Nat × Value)} {cells : List Value} (hp : Parts n e parts pl) (h : buildL P t pl = some cells) :
    (execOp (ev n e) ⟨dst, .build t parts.toArray, ty, pos, after, none⟩).run P w = .ok (.value (.agg cells.toArray)) w := by
  rw [← hp.eq] at h
  unfold buildL at h
  split at h
  · rename_i fs hu
    split at h
    · rename_i z l hz hl
      have h1 := run_zeroP (w := w) hz
      have h2 := run_underlying hu w
      have h3 := run_places (w := w) hl
      have h4 := fill_eq _ _ _ h
      simp only [execOp, Instr.build, bind, pure, List.map_toArray]
      rw [Sem.run_bind', Sem.run_bind', h1]
      simp only [Result.andThen_ok]
      rw [Sem.run_bind', h2]
      simp only [Result.andThen_ok]
      rw [Sem.run_bind']
      have h5 : (fs.mapM (m := Sem) fun f => (sizeOf f.type).bind fun a => .pure (f.offset, a)).run P w = .ok l.toArray w := by
        simp only [bind, pure] at h3
        rw [Array.mapM_eq_mapM_toList]
        show (Sem.bind _ _).run P w = _
        simp only [Functor.map, Sem.bind]
        rw [Sem.run_bind', h3]
        rfl
      rw [h5]
      simp only [Result.andThen_ok, Array.toArray_toList, List.getElem?_toArray] at h4 ⊢
      rw [h4]
      rfl
    · cases h
  · cases h
/-- A slice that is written out. -/
def rowL (P : Program) (t : TypeId) (len : Nat) (pl : List (Nat × Value)) : Option (TypeId × List Value) := match isSliceP P t with
  | some el => match cellsP P el, zeroP P el with
    | some sz, some z => bif Nat.ble (len * sz) 64 && Nat.blt 0 (len * sz) && Nat.blt 0 z.cells.toList.length then (fillL (fun i => some (i * sz, sz)) ((List.range (len * sz)).map fun j => z.cells.toList.getD (j % z.cells.toList.length) undef) pl).map (fun l => (el, l)) else none
    | _, _ => none
  | none => none
theorem lst_buildSlice {len : Nat} {parts : List (Nat × Operand)} {pl : List (Nat × Value)} {el : TypeId} {cells : List Value} (hS : St M w0 H F w) (hp : Parts n e parts pl) (h : rowL P t len pl = some (el, cells)) (hd : Nat.blt d n = true)
    (hk : ∀ b w', St M w0 ((b, .cells cells.toArray el) :: H) F w' → Lst P Q ops rest n ((d, .slice (some ⟨b, 0, none⟩) len len) :: e) w') :
    Lst P Q ops (⟨some d, .buildSlice t len parts.toArray, ty, pos, after, none⟩ :: rest) n e w := by
  refine lst_run (v := .slice (some ⟨w.heap.size, 0, none⟩) len len) (w' := w.alloc (.cells cells.toArray el)) ?_ hd (hk _ _ (hS.alloc _))
  rw [← hp.eq] at h
  unfold rowL at h
  split at h
  · rename_i el' hT
    split at h
    · rename_i sz z hs hz
      cases hb : (Nat.ble (len * sz) 64 && Nat.blt 0 (len * sz) && Nat.blt 0 z.cells.toList.length) with
      | false => rw [hb] at h; cases h
      | true =>
        rw [hb] at h
        simp only [cond_true] at h
        cases hf : fillL (fun i => some (i * sz, sz)) ((List.range (len * sz)).map fun j => z.cells.toList.getD (j % z.cells.toList.length) undef) (parts.map fun p => (p.1, ev n e p.2)) with
        | none => rw [hf] at h; cases h
        | some l =>
          rw [hf] at h
          simp only [Option.map_some, Option.some.injEq, Prod.mk.injEq] at h
          obtain ⟨rfl, rfl⟩ := h
          have h1 := run_underlying (sliceP hT) w
          have h2 := run_sizeP (w := w) hs
          have h3 := run_zeroP (w := w) hz
          have h4 := fill_eq _ _ _ hf
          simp only [Bool.and_eq_true] at hb
          have hle := Nat.le_of_ble_eq_true hb.1.1
          have hpos : 0 < len * sz := by simpa [Nat.blt_eq] using hb.1.2
          have hzp : 0 < z.cells.size := by simpa [Nat.blt_eq] using hb.2
          simp only [execOp, Instr.buildSlice, bind, pure, List.map_toArray]
          rw [Sem.run_bind', Sem.run_bind', h1]
          simp only [Result.andThen_ok]
          rw [Sem.run_bind', h2]
          have hn : ¬ len * sz > 2 ^ 24 := by omega
          have h0 : ¬ len * sz = 0 := by omega
          simp only [Result.andThen_ok, if_neg hn, if_neg h0, Sem.bind]
          rw [Sem.run_bind', h3]
          have h6 : ((Array.range (len * sz)).map (fun x => z.cells[x % z.cells.size]!)) = ((List.range (len * sz)).map fun j => z.cells.toList.getD (j % z.cells.toList.length) undef).toArray := by
            rw [← List.toArray_range, List.map_toArray]
            congr 1
            apply List.map_congr_left
            intro j hj
            have hj2 : j % z.cells.size < z.cells.size := Nat.mod_lt _ hzp
            simp [hj2]
          simp only [Result.andThen_ok, h6]
          rw [h4]
          rfl
    · cases h
  · cases h
/-- A store of a value of several cells. -/
theorem lst_storeN {vs cs cs' : List Value} {ct : TypeId} (hS : St M w0 H F w) (ha : ev n e x = .pointer (some ⟨b, o, none⟩)) (hy : ev n e y = .agg vs.toArray) (hs : cellsP P t = some vs.length) (h1 : vs.all (·.oneCell') = true)
    (hat : At H b (.cells cs.toArray ct)) (hp : PutN cs o vs cs') (hu : Upd H b (.cells cs.toArray ct) (.cells cs'.toArray ct) H')
    (h : ∀ w', St M w0 H' F w' → Lst P Q ops rest n e w') : Lst P Q ops (⟨none, .store t x y, ty, pos, after, none⟩ :: rest) n e w := by
  have hb := hS.at_ hu.at_
  obtain ⟨hq1, hq2⟩ := hp.eq
  have hst := run_storeCells_at (P := P) b o ct vs 0 cs.toArray w hb (by simpa using hq2) (fun v hv => List.all_eq_true.1 h1 v hv)
  have h2 := run_sizeP (w := w) hs
  simp only [Nat.add_zero] at hst
  rw [← hq1] at hst
  refine lst_skip0 (w' := w.setRow b cs'.toArray) ?_ (h _ (hS.turn hu ?_ (setRow_heap w b _ _ _ _ hb)))
  · simp only [execOp, ha, hy, Instr.storeAt, Instr.sureAddr, storeVar, bind, pure, Sem.bind]
    rw [Sem.run_bind', Sem.run_bind', h2]
    simp only [Result.andThen_ok, Value.cells, List.size_toArray, ne_eq, not_true_eq_false, if_false, Sem.bind]
    rw [hst]
    rfl
  · exact ⟨rfl, rfl, rfl, by simp [World.setRow], fun k _ hk => by
      have : k ≠ b := by simpa using hk
      simp [World.setRow, Array.getElem?_modify, Ne.symm this]⟩
end
end Go.Proofs.YtdiophafmokfiaaDoor
