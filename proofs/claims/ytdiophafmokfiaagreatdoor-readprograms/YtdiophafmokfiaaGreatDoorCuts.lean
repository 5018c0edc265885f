/-
  Parts of strings and of slices; a slice of strings, read. No program is named here.
-/
import Derived.Test.YtdiophafmokfiaaGreatDoorAppend
import Derived.Test.YtdiophafmokfiaaGreatDoorG8
import Derived.Lib.ConvBytes
namespace Go.Proofs.YtdiophafmokfiaaGreatDoor
open Go.RowKit
set_option linter.unusedVariables false
set_option linter.unusedSimpArgs false
section
variable {P : Program} {n : Nat} {e : Env} {w : World} {ty : TypeId} {pos : String} {after : Array Edge} {x y z : Operand} {dst : Option Nat} {t : TypeId}
theorem run_slice_both {i j : Int} {l : Str} (hx : ev n e x = sv l) (hy : ev n e y = .int .i64 i) (hz : ev n e z = .int .i64 j) (hT : isStringP P t = true) (h0 : 0 ≤ i) (h1 : i ≤ j) (h2 : j.toNat ≤ l.length) :
    (execOp (ev n e) ⟨dst, .slice t x (some y) (some z) none, ty, pos, after, none⟩).run P w = .ok (.value (sv ((l.take j.toNat).drop i.toNat))) w := by
  have hu := run_underlying (stringP hT) w
  have hs : (⟨l.toArray⟩ : ByteArray).size = l.length := size_mk l
  simp only [execOp, Instr.sliceAt, Instr.slice, hx, hy, hz, sv, Option.map_some, Option.map_none, bind, pure, Sem.bind]
  rw [Sem.run_bind', Sem.run_bind', hu]
  simp only [Result.andThen_ok]
  rw [Sem.run_bind', hu]
  simp only [Result.andThen_ok, Instr.sliceBounds, Option.isSome_none, Bool.false_eq_true, if_false, bind, pure, Sem.bind]
  rw [Sem.run_bind', Sem.run_bind', run_bound rfl (by omega) (by rw [hs]; omega)]
  simp only [Result.andThen_ok]
  rw [Sem.run_bind', run_bound rfl h0 (by omega)]
  simp only [Result.andThen_ok]
  have : ∀ a b c : Nat, Sem.run P (Sem.pure (a, b, c)) w = .ok (a, b, c) w := fun _ _ _ => rfl
  rw [this]
  simp only [Result.andThen_ok, Sem.run, extract_mk]
theorem run_slice_rest {i : Int} {A : Option Addr} {len cap el sz : Nat} (hx : ev n e x = .slice A len cap) (hy : ev n e y = .int .i64 i) (hT : isSliceP P t = some el) (hs : cellsP P el = some sz) (h0 : 0 ≤ i) (h1 : i ≤ len) :
    (execOp (ev n e) ⟨dst, .slice t x (some y) none none, ty, pos, after, none⟩).run P w = .ok (.value (.slice (if cap = i.toNat then A else A.map (·.add (i.toNat * sz))) (len - i.toNat) (cap - i.toNat))) w := by
  have h2 := run_underlying (sliceP hT) w
  have h3 := run_sizeP (w := w) hs
  simp only [execOp, Instr.sliceAt, Instr.slice, hx, hy, Option.map_some, Option.map_none, bind, pure, Sem.bind]
  rw [Sem.run_bind', Sem.run_bind', h2]
  simp only [Result.andThen_ok]
  rw [Sem.run_bind', h2]
  simp only [Result.andThen_ok, Instr.sliceBounds, Option.isSome_none, Bool.false_eq_true, if_false, bind, pure, Sem.bind]
  rw [Sem.run_bind', Sem.run_bind', run_bound rfl h0 h1]
  simp only [Result.andThen_ok]
  rw [show Sem.run P (Sem.pure (i.toNat, len, cap)) w = .ok (i.toNat, len, cap) w from rfl]
  simp only [Result.andThen_ok]
  rw [Sem.run_bind', h3]
  simp [Sem.run]
end
section
variable {P : Program} {n : Nat} {e : Env} {w w' : World} {ty : TypeId} {pos : String} {after : Array Edge} {x y z : Operand} {dst : Option Nat} {t t2 : TypeId}
theorem run_mul {a c : Int} (hx : ev n e x = .int .i64 a) (hy : ev n e y = .int .i64 c) (h1 : -9223372036854775808 ≤ a * c) (h2 : a * c ≤ 9223372036854775807) :
    (execOp (ev n e) ⟨dst, .binOp .mul t x y t2, ty, pos, after, none⟩).run P w = .ok (.value (.int .i64 (a * c))) w := by
  have : (execOp (ev n e) ⟨dst, .binOp .mul t x y t2, ty, pos, after, none⟩).run P w = .ok (.value (.int .i64 (IntKind.i64.wrap (a * c)))) w := by simp only [execOp, hx, hy]; rfl
  rw [this, wrap_of h1 h2]
theorem sub48 (c : UInt8) : IntKind.u8.wrap ((c.toNat : Int) - 48) = ((c - 48).toNat : Int) := by
  have h : ∀ k : Fin 256, IntKind.u8.wrap (((UInt8.ofNat k.val).toNat : Int) - 48) = ((UInt8.ofNat k.val - 48).toNat : Int) := by decide +kernel
  have := h ⟨c.toNat, c.toNat_lt⟩
  simpa using this
theorem run_sub_u8 {c : UInt8} (hx : ev n e x = .int .u8 c.toNat) (hy : ev n e y = .int .u8 48) :
    (execOp (ev n e) ⟨dst, .binOp .sub t x y t2, ty, pos, after, none⟩).run P w = .ok (.value (.int .u8 ((c - 48).toNat : Nat))) w := by
  have : (execOp (ev n e) ⟨dst, .binOp .sub t x y t2, ty, pos, after, none⟩).run P w = .ok (.value (.int .u8 (IntKind.u8.wrap ((c.toNat : Int) - 48)))) w := by simp only [execOp, hx, hy]; rfl
  rw [this, sub48]
def isIntP (P : Program) (t : TypeId) (k : IntKind) : Bool := match P.underlying t with | some (.int q) => q == k | _ => false
theorem intP {k : IntKind} (h : isIntP P t k = true) : P.underlying t = some (.int k) := by
  unfold isIntP at h
  split at h
  · rename_i q hq; rw [hq, eq_of_beq h]
  · cases h
theorem run_convert_to {u v : Value} {src dt : TypeId} (hx : ev n e x = u) (h : (convert src dt u).run P w = .ok v w') : (execOp (ev n e) ⟨dst, .convert src dt x, ty, pos, after, none⟩).run P w = .ok (.value v) w' := by
  subst hx
  show (Sem.bind (convert _ _ _) _).run _ _ = _
  rw [Sem.run_bind', h]
  rfl
theorem run_convert_u8 {c : UInt8} {src dt : TypeId} (hx : ev n e x = .int .u8 (c.toNat : Nat)) (hs : isIntP P src .u8 = true) (hd : isIntP P dt .i64 = true) :
    (execOp (ev n e) ⟨dst, .convert src dt x, ty, pos, after, none⟩).run P w = .ok (.value (.int .i64 (c.toNat : Nat))) w := by
  refine run_convert_to hx ?_
  have := c.toNat_lt
  simp [convert, run_underlying (intP hs), run_underlying (intP hd), Conv.intToInt]
  exact wrap_of (by omega) (by omega)
end
section
variable {P : Program} {Q : Exit → Act → World → Prop} {ops : Array Oper} {rest : List Oper} {n d : Nat} {e : Env} {w : World} {ty : TypeId} {pos : String} {after : Array Edge}
theorem yielded_undef {j : Nat} (h : yd ops n e j = some undef) : yielded ops (arr n e) j = none := by
  unfold yd at h
  unfold yielded
  cases ho : ops[j]? with
  | none => rfl
  | some o =>
    rw [ho] at h
    simp only [Option.bind_some] at h ⊢
    cases hd : o.dst with
    | none => rfl
    | some t =>
      rw [hd] at h
      simp only [Option.bind_some] at h ⊢
      by_cases ht : t < n
      · have h' : Nat.blt t n = true := by simpa [Nat.blt_eq] using ht
        rw [h', cond_true] at h
        have hl : (arr n e)[t]? = some (lk e t) := by simp [arr, ht]
        rw [hl, Option.some.inj h]
        rfl
      · have h' : Nat.blt t n = false := blt_no ht
        rw [h', cond_false] at h; cases h
/-- A guard that hangs on what was passed over. -/
theorem lst_passU {op : Op} {j : Nat} {g : Bool} (hy : yd ops n e j = some undef) (hd : Nat.blt d n = true)
    (h : Lst P Q ops rest n ((d, undef) :: e) w) : Lst P Q ops (⟨some d, op, ty, pos, after, some (j, g)⟩ :: rest) n e w := by
  unfold Lst at h ⊢
  unfold wpList
  rw [if_neg (by simp [Region.wanted, act, yielded_undef hy]), act_put hd]
  exact h
end
/-- A slice of strings. -/
def Ss (w : World) (v : Value) (l : List Str) : Prop :=
  ∃ A c, v = .slice A l.length c ∧ l.length ≤ c ∧ (0 < l.length → ∃ b o, A = some ⟨b, o, none⟩ ∧ ∀ (j : Nat) (x : Str), l[j]? = some x → w.cell? ⟨b, o + j, none⟩ = some (sv x))
/-- Wherever φ holds. -/
def Sx (φ : World → Prop) (v : Value) (l : List Str) : Prop := ∃ A c, v = .slice A l.length c ∧ l.length ≤ c ∧ (0 < l.length → ∃ b o, A = some ⟨b, o, none⟩ ∧ ∀ w, φ w → ∀ (j : Nat) (x : Str), l[j]? = some x → w.cell? ⟨b, o + j, none⟩ = some (sv x))
theorem Sx.tail {φ : World → Prop} {A : Option Addr} {c len : Nat} {x : Str} {r : List Str} (h : Sx φ (.slice A len c) (x :: r)) : Sx φ (.slice (if c = 1 then A else A.map (·.add 1)) (len - 1) (c - 1)) r := by
  obtain ⟨A', c', e, hc, hs⟩ := h
  simp only [Value.slice.injEq] at e
  obtain ⟨rfl, rfl, rfl⟩ := e
  simp only [List.length_cons] at hc hs ⊢
  refine ⟨_, _, by rw [Nat.add_sub_cancel], by omega, fun hr => ?_⟩
  obtain ⟨b, o, rfl, hj⟩ := hs (by omega)
  rw [if_neg (by omega)]
  refine ⟨b, o + 1, by simp [addrPlus], fun w hw j y hy => ?_⟩
  have := hj w hw (j + 1) y (by simpa using hy)
  rwa [show o + (j + 1) = o + 1 + j by omega] at this
theorem Sx.head {φ : World → Prop} {A : Option Addr} {c len : Nat} {x : Str} {r : List Str} (h : Sx φ (.slice A len c) (x :: r)) : len = r.length + 1 ∧ len ≤ c ∧ ∃ b o, A = some ⟨b, o, none⟩ ∧ ∀ w, φ w → w.cell? ⟨b, o, none⟩ = some (sv x) := by
  obtain ⟨A', c', e, hc, hs⟩ := h
  simp only [Value.slice.injEq] at e
  obtain ⟨rfl, rfl, rfl⟩ := e
  obtain ⟨b, o, rfl, hj⟩ := hs (by simp)
  exact ⟨by simp, hc, b, o, rfl, fun w hw => hj w hw 0 x rfl⟩
theorem Sx.form {φ : World → Prop} {v : Value} {l : List Str} (h : Sx φ v l) : ∃ A c, v = .slice A l.length c ∧ l.length ≤ c := by
  obtain ⟨A, c, rfl, hc, _⟩ := h
  exact ⟨A, c, rfl, hc⟩
section
variable {M : List Nat} {w0 : World} {H : List (Nat × Obj)} {F : List (World → Prop)}
/-- A row of strings of the call's own, that is never turned again. -/
theorem St.shutS {v : Value} {O : List (Nat × Obj)} {l : List Str} {w : World} {el : Nat} (hr : Row el 1 v l.length (l.map sv) O) (hS : St M w0 (O ++ H) F w) :
    ∃ φ, Sx φ v l ∧ St M w0 H (φ :: F) w := by
  generalize hl : l.length = ll at hr
  generalize hx : l.map sv = xs at hr
  cases hr with
  | nil_ =>
    refine ⟨fun _ => True, ⟨none, 0, by rw [hl], by omega, fun h => by omega⟩, ?_⟩
    exact hS.learn fun _ _ => trivial
  | own_ h1 h2 h3 hcp =>
    rename_i bl cap sp
    subst hx
    refine ⟨fun w' => w'.heap[bl]? = some (.cells (l.map sv ++ sp).toArray el), ⟨_, cap, by rw [hl], by omega, fun _ => ⟨bl, 0, rfl, fun w' hw' j x hj => ?_⟩⟩, ?_⟩
    · rw [cell_own hw', Nat.zero_add, List.getElem?_append_left (by
        have : j < l.length := by
          rcases Nat.lt_or_ge j l.length with h | h
          · exact h
          · rw [List.getElem?_eq_none h] at hj; cases hj
        simpa using this), List.getElem?_map, hj]
      rfl
    · have hbl : w.heap[bl]? = some (.cells (l.map sv ++ sp).toArray el) := hS.own (bl, _) (by simp)
      have hnk : bl ∉ H.map (·.1) := fun hk => by
        obtain ⟨q, hq, e⟩ := List.mem_map.1 hk
        exact (List.pairwise_cons.1 hS.apart).1 q hq e.symm
      exact (St.dropL hS).learn fun w' hx => by rw [hx.block bl (own_lt hbl) hnk]; exact hbl
end
end Go.Proofs.YtdiophafmokfiaaGreatDoor
