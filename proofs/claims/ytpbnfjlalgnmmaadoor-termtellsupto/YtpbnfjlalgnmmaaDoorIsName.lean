/-
  The reference's IsName says of every string whether it is a name.
-/
import Derived.Test.YtpbnfjlalgnmmaaDoorNamed
import Derived.Ground.NamesProg
import Derived.Shelf.Lay
import Derived.Shelf.Strings.SlTrimAscii
namespace Go.Proofs
open Go.Shelf
shelf_lay Lays.n160 Nm 160 at Tryd as Tryd.lays160
end Go.Proofs
namespace Go.Proofs.YtpbnfjlalgnmmaaDoor
open Go.RowKit Go.Shelf

/-- The small letters. -/
def abc : List UInt8 := [97, 98, 99, 100, 101, 102, 103, 104, 105, 106, 107, 108, 109, 110, 111, 112, 113, 114, 115, 116, 117, 118, 119, 120, 121, 122]
theorem abc_lower (c : UInt8) : abc.contains c = lowerB c := by
  have h : ∀ n : Fin 256, abc.contains (UInt8.ofNat n.val) = lowerB (UInt8.ofNat n.val) := by decide +kernel
  have := h ⟨c.toNat, c.toNat_lt⟩
  simpa using this
theorem head_drop {p : UInt8 → Bool} {a : UInt8} {t : List UInt8} : ∀ {l : List UInt8}, l.dropWhile p = a :: t → p a = false
  | [], h => by cases h
  | x :: r, h => by
    cases hx : p x with
    | true => rw [List.dropWhile_cons_of_pos hx] at h; exact head_drop h
    | false => rw [List.dropWhile_cons_of_neg (by simp [hx])] at h; cases h; exact hx
theorem drop_nil {p : UInt8 → Bool} : ∀ {l : List UInt8}, l.dropWhile p = [] ↔ ∀ x ∈ l, p x = true
  | [] => by simp
  | x :: r => by
    cases hx : p x with
    | true => rw [List.dropWhile_cons_of_pos hx, drop_nil]; simp [hx]
    | false => rw [List.dropWhile_cons_of_neg (by simp [hx])]; simp [hx]
/-- Trimmed of small letters, nothing is left where there are no others. -/
theorem trim_abc (l : List UInt8) : (Lib.trimS l abc).isEmpty = l.all lowerB := by
  have e : (fun c => abc.contains c) = lowerB := funext abc_lower
  unfold Lib.trimS Lib.trimLeftS Lib.trimRightS
  rw [e]
  cases h : l.all lowerB with
  | true =>
    have h1 : l.reverse.dropWhile lowerB = [] := by
      rw [drop_nil]
      intro x hx
      exact List.all_eq_true.1 h x (List.mem_reverse.1 hx)
    rw [h1]; rfl
  | false =>
    cases h1 : l.reverse.dropWhile lowerB with
    | nil =>
      rw [drop_nil] at h1
      have : l.all lowerB = true := List.all_eq_true.2 fun x hx => h1 x (List.mem_reverse.2 hx)
      rw [h] at this; cases this
    | cons a t =>
      have ha := head_drop h1
      cases h2 : (a :: t).reverse.dropWhile lowerB with
      | nil =>
        rw [drop_nil] at h2
        have := h2 a (List.mem_reverse.2 (List.mem_cons_self ..))
        rw [ha] at this; cases this
      | cons b u => rfl

set_option maxHeartbeats 400000 in
theorem isName_any (s : ByteArray) (w : World) : Calls Tryd.prog 8 #[.string s] w fun e w' => e = .returned (.bool (nameB s)) ∧ Below w.heap.size w w' := by
  by_cases h0 : s.data.toList = [33]
  · have r : nameB s = true := by simp [nameB, h0]
    have h1 : s.toList = [33] := by rw [ByteArray.toList_eq]; exact h0
    rw [r]
    clear r h0
    go_enter Tryd.func8, Tryd.ntmps8
    go_wp2_with fail
    go_ret
    exact ⟨rfl, Below.refl _ _⟩
  have h1 : (s.toList == [33]) = false := by rw [ByteArray.toList_eq]; simpa using h0
  by_cases h2 : s.size < 1
  · have r : nameB s = false := by simp [nameB, h0]; omega
    have h3 : s.toList = [] := by rw [ByteArray.toList_eq]; exact List.eq_nil_of_length_eq_zero (by rw [Array.length_toList]; exact Nat.lt_one_iff.1 h2)
    rw [r]
    clear r h0
    go_enter Tryd.func8, Tryd.ntmps8
    go_wp2_with fail
    go_ret
    exact ⟨rfl, Below.refl _ _⟩
  have h4 : s.toList.isEmpty = false := by
    rw [ByteArray.toList_eq]
    cases hl : s.data.toList with
    | nil =>
      have : s.size = 0 := by
        have := congrArg List.length hl
        rw [Array.length_toList] at this
        exact this
      omega
    | cons _ _ => rfl
  by_cases h3 : 8 < s.size
  · have r : nameB s = false := by simp [nameB, h0]; omega
    rw [r]
    clear r h0
    go_enter Tryd.func8, Tryd.ntmps8
    go_wp2_with fail
    go_ret
    exact ⟨rfl, Below.refl _ _⟩
  have r : nameB s = s.data.toList.all lowerB := by
    have a : 1 ≤ s.size := by omega
    have b : s.size ≤ 8 := by omega
    simp [nameB, h0, a, b]
  have hcon := Any.strings_Trim_laid Tryd.lays160 (by kernel_rfl) s ⟨#[97, 98, 99, 100, 101, 102, 103, 104, 105, 106, 107, 108, 109, 110, 111, 112, 113, 114, 115, 116, 117, 118, 119, 120, 121, 122]⟩ w (by omega) (by decide) (ascii_of_all (by decide))
  change Calls Tryd.prog 33 _ _ (fun e w' => e = .returned (.string ⟨(Lib.trimS s.data.toList abc).toArray⟩) ∧ Below w.heap.size w w') at hcon
  have hr : (⟨(Lib.trimS s.data.toList abc).toArray⟩ : ByteArray).toList.isEmpty = nameB s := by rw [ByteArray.toList_eq, r]; exact trim_abc _
  generalize (⟨(Lib.trimS s.data.toList abc).toArray⟩ : ByteArray) = t at hcon hr
  generalize hb : nameB s = nb at *
  clear r hb h0
  go_enter Tryd.func8, Tryd.ntmps8
  go_wp2_with fail
  refine hcon.mono ?_
  rintro e w' ⟨rfl, hB⟩
  go_wp2_with fail
  go_ret
  exact ⟨rfl, hB⟩
end Go.Proofs.YtpbnfjlalgnmmaaDoor
