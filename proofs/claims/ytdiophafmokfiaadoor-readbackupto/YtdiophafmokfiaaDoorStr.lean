/-
  Strings as lists of bytes, and the operations on them. No program is named here.
-/
import Derived.Test.YtdiophafmokfiaaDoorLoop
namespace Go.Proofs.YtdiophafmokfiaaDoor
open Go.RowKit
set_option linter.unusedSimpArgs false
set_option linter.unusedVariables false

abbrev Str := List UInt8
abbrev sv (l : Str) : Value := .string ⟨l.toArray⟩
theorem str_of (s : ByteArray) : ∃ l : Str, s = ⟨l.toArray⟩ := ⟨s.data.toList, by cases s; simp⟩
theorem toList_loop (l : Str) : ∀ (k i : Nat) (acc : List UInt8), k = l.length - i → ByteArray.toList.loop ⟨l.toArray⟩ i acc = acc.reverse ++ l.drop i := by
  intro k
  induction k with
  | zero =>
    intro i acc hk
    unfold ByteArray.toList.loop
    have : ¬ i < l.length := by omega
    simp only [ByteArray.size, List.size_toArray, this, if_false]
    rw [List.drop_eq_nil_of_le (by omega)]; simp
  | succ k ih =>
    intro i acc hk
    unfold ByteArray.toList.loop
    have hi : i < l.length := by omega
    simp only [ByteArray.size, List.size_toArray, hi, if_true]
    rw [ih (i + 1) _ (by omega)]
    rw [List.drop_eq_getElem_cons hi]
    simp [ByteArray.get!, hi]
theorem toList_mk (l : Str) : (⟨l.toArray⟩ : ByteArray).toList = l := by
  unfold ByteArray.toList
  rw [toList_loop l _ 0 [] rfl]; simp
theorem sv_inj {l m : Str} : sv l = sv m ↔ l = m := by
  constructor
  · intro h
    have h1 : (⟨l.toArray⟩ : ByteArray) = ⟨m.toArray⟩ := Value.string.inj h
    have := congrArg ByteArray.toList h1
    rwa [toList_mk, toList_mk] at this
  · rintro rfl; rfl
theorem size_mk (l : Str) : (⟨l.toArray⟩ : ByteArray).size = l.length := by simp [ByteArray.size]
theorem extract_mk (l : Str) (i j : Nat) : (⟨l.toArray⟩ : ByteArray).extract i j = ⟨((l.take j).drop i).toArray⟩ := by
  apply ByteArray.ext
  rw [ByteArray.data_extract]
  simp [List.drop_take]

section
variable {P : Program} {n : Nat} {e : Env} {w : World} {ty : TypeId} {pos : String} {after : Array Edge} {x y : Operand} {dst : Option Nat} {t t2 : TypeId} {l m : Str}
theorem run_len_str {ts : Array TypeId} (hx : ev n e x = sv l) (ht : ts[0]? = some t) (hT : isStringP P t = true) :
    (execOp (ev n e) ⟨dst, .call ⟨.builtin .len, #[x], ts⟩, ty, pos, after, none⟩).run P w = .ok (.value (.int .i64 (l.length : Nat))) w := by
  rw [run_len_string hx ht hT, size_mk]
theorem run_index_str {i : Int} {c : UInt8} (hx : ev n e x = sv l) (hy : ev n e y = .int .i64 i) (hT : isStringP P t = true) (h0 : 0 ≤ i) (h1 : l[i.toNat]? = some c) :
    (execOp (ev n e) ⟨dst, .index t x y, ty, pos, after, none⟩).run P w = .ok (.value (.int .u8 c.toNat)) w := by
  have hl : i.toNat < l.length := by
    rcases Nat.lt_or_ge i.toNat l.length with h | h
    · exact h
    · rw [List.getElem?_eq_none h] at h1; cases h1
  rw [run_index_string hx hy hT h0 (by rw [size_mk]; exact hl)]
  have : (⟨l.toArray⟩ : ByteArray)[i.toNat]'(by rw [size_mk]; exact hl) = c := by
    rw [List.getElem?_eq_getElem hl] at h1
    exact Option.some.inj h1
  rw [this]
theorem run_slice_from {i : Int} (hx : ev n e x = sv l) (hy : ev n e y = .int .i64 i) (hT : isStringP P t = true) (h0 : 0 ≤ i) (h1 : i.toNat ≤ l.length) :
    (execOp (ev n e) ⟨dst, .slice t x (some y) none none, ty, pos, after, none⟩).run P w = .ok (.value (sv (l.drop i.toNat))) w := by
  rw [run_slice_low hx hy hT h0 (by rw [size_mk]; omega), extract_mk, size_mk, List.take_length]
theorem run_slice_to {i : Int} (hx : ev n e x = sv l) (hy : ev n e y = .int .i64 i) (hT : isStringP P t = true) (h0 : 0 ≤ i) (h1 : i.toNat ≤ l.length) :
    (execOp (ev n e) ⟨dst, .slice t x none (some y) none, ty, pos, after, none⟩).run P w = .ok (.value (sv (l.take i.toNat))) w := by
  rw [run_slice_high hx hy hT h0 (by rw [size_mk]; omega), extract_mk, List.drop_zero]
theorem run_eql_str (hx : ev n e x = sv l) (hy : ev n e y = sv m) :
    (execOp (ev n e) ⟨dst, .binOp .eql t x y t2, ty, pos, after, none⟩).run P w = .ok (.value (.bool (l == m))) w := by
  have : (execOp (ev n e) ⟨dst, .binOp .eql t x y t2, ty, pos, after, none⟩).run P w = .ok (.value (.bool ((⟨l.toArray⟩ : ByteArray).toList == (⟨m.toArray⟩ : ByteArray).toList))) w := by
    simp only [execOp, hx, hy]; rfl
  rw [this, toList_mk, toList_mk]
theorem run_neq_str (hx : ev n e x = sv l) (hy : ev n e y = sv m) :
    (execOp (ev n e) ⟨dst, .binOp .neq t x y t2, ty, pos, after, none⟩).run P w = .ok (.value (.bool (l != m))) w := by
  have : (execOp (ev n e) ⟨dst, .binOp .neq t x y t2, ty, pos, after, none⟩).run P w = .ok (.value (.bool (!((⟨l.toArray⟩ : ByteArray).toList == (⟨m.toArray⟩ : ByteArray).toList)))) w := by
    simp only [execOp, hx, hy]; rfl
  rw [this, toList_mk, toList_mk]; rfl
theorem run_concat (hx : ev n e x = sv l) (hy : ev n e y = sv m) (hb : l.length + m.length ≤ 9223372036854775807) :
    (execOp (ev n e) ⟨dst, .binOp .add t x y t2, ty, pos, after, none⟩).run P w = .ok (.value (sv (l ++ m))) w := by
  have h1 : ¬ (((⟨l.toArray⟩ : ByteArray).size + (⟨m.toArray⟩ : ByteArray).size : Nat) : Int) > IntKind.i64.max := by
    rw [size_mk, size_mk]; simp [IntKind.max, IntKind.bits, IntKind.signed]; omega
  have h2 : (⟨l.toArray⟩ : ByteArray) ++ ⟨m.toArray⟩ = ⟨(l ++ m).toArray⟩ := by
    apply ByteArray.ext
    rw [ByteArray.data_append]
    simp
  simp only [execOp, hx, hy, eqGuard, binOp, Op.stringOp, bind, pure, Sem.bind, if_neg h1, h2]
  rfl
end
end Go.Proofs.YtdiophafmokfiaaDoor
