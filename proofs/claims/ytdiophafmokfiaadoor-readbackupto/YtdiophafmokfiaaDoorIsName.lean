/-
  The reference's IsName says of every string whether it is a name.
-/
import Derived.Test.YtdiophafmokfiaaDoorNamed
import Derived.Ground.NamesProg
import Derived.Shelf.Strings.SlTrimAscii
namespace Go.Proofs
open Go.Shelf
def Tryd.lays160_ren : Go.Shelf.Ren := ⟨fun | 160 => 38 | 232 => 61 | 231 => 60 | 227 => 62 | 234 => 64 | 233 => 63 | 236 => 66 | 235 => 65 | 228 => 84 | 271 => 87 | 151 => 86 | 197 => 85 | 120 => 115 | 152 => 114 | 260 => 113 | 137 => 120 | 119 => 129 | 224 => 130 | 225 => 131 | 217 => 134 | 266 => 144 | n => n, fun | 9 => 9 | 4 => 4 | 3 => 3 | 5 => 5 | 117 => 109 | 116 => 108 | 0 => 0 | 124 => 112 | 21 => 21 | 105 => 137 | 46 => 168 | 119 => 167 | 139 => 171 | 138 => 170 | n => n, fun | 3 => 0 | 4 => 1 | n => n⟩
theorem Tryd.lays160 : Go.Proofs.Lays.n160 Tryd.prog Tryd.lays160_ren := {
  mixed := by kernel_rfl
  f119 := Tryd.func129.trans (congrArg some (by kernel_rfl))
  f120 := Tryd.func115.trans (congrArg some (by kernel_rfl))
  f137 := Tryd.func120.trans (congrArg some (by kernel_rfl))
  f151 := Tryd.func86.trans (congrArg some (by kernel_rfl))
  f152 := Tryd.func114.trans (congrArg some (by kernel_rfl))
  f160 := Tryd.func38.trans (congrArg some (by kernel_rfl))
  f197 := Tryd.func85.trans (congrArg some (by kernel_rfl))
  f217 := Tryd.func134.trans (congrArg some (by kernel_rfl))
  f224 := Tryd.func130.trans (congrArg some (by kernel_rfl))
  f225 := Tryd.func131.trans (congrArg some (by kernel_rfl))
  f227 := Tryd.func62.trans (congrArg some (by kernel_rfl))
  f228 := Tryd.func84.trans (congrArg some (by kernel_rfl))
  f231 := Tryd.func60.trans (congrArg some (by kernel_rfl))
  f232 := Tryd.func61.trans (congrArg some (by kernel_rfl))
  f233 := Tryd.func63.trans (congrArg some (by kernel_rfl))
  f234 := Tryd.func64.trans (congrArg some (by kernel_rfl))
  f235 := Tryd.func65.trans (congrArg some (by kernel_rfl))
  f236 := Tryd.func66.trans (congrArg some (by kernel_rfl))
  f260 := Tryd.func113.trans (congrArg some (by kernel_rfl))
  f266 := Tryd.func144.trans (congrArg some (by kernel_rfl))
  f271 := Tryd.func87.trans (congrArg some (by kernel_rfl))
  t0 := Tryd.underlying0
  a0 := Tryd.isAgg0
  z0 := Tryd.sizeOf0
  v0 := Tryd.zeroValue0
  t3 := Tryd.underlying3
  a3 := Tryd.isAgg3
  z3 := Tryd.sizeOf3
  v3 := Tryd.zeroValue3
  t4 := Tryd.underlying4
  a4 := Tryd.isAgg4
  z4 := Tryd.sizeOf4
  v4 := Tryd.zeroValue4
  t5 := Tryd.underlying5
  a5 := Tryd.isAgg5
  z5 := Tryd.sizeOf5
  v5 := Tryd.zeroValue5
  t9 := Tryd.underlying9
  a9 := Tryd.isAgg9
  z9 := Tryd.sizeOf9
  v9 := Tryd.zeroValue9
  t21 := Tryd.underlying21
  a21 := Tryd.isAgg21
  z21 := Tryd.sizeOf21
  v21 := Tryd.zeroValue21
  t46 := Tryd.underlying168
  a46 := Tryd.isAgg168
  z46 := Tryd.sizeOf168
  v46 := Tryd.zeroValue168
  t105 := Tryd.underlying137
  a105 := Tryd.isAgg137
  z105 := Tryd.sizeOf137
  v105 := Tryd.zeroValue137
  t116 := Tryd.underlying108
  a116 := Tryd.isAgg108
  z116 := Tryd.sizeOf108
  t117 := Tryd.underlying109
  a117 := Tryd.isAgg109
  z117 := Tryd.sizeOf109
  v117 := Tryd.zeroValue109
  t119 := Tryd.underlying167
  a119 := Tryd.isAgg167
  z119 := Tryd.sizeOf167
  t124 := Tryd.underlying112
  a124 := Tryd.isAgg112
  z124 := Tryd.sizeOf112
  v124 := Tryd.zeroValue112
  t138 := Tryd.underlying170
  a138 := Tryd.isAgg170
  z138 := Tryd.sizeOf170
  v138 := Tryd.zeroValue170
  t139 := Tryd.underlying171
  a139 := Tryd.isAgg171
  z139 := Tryd.sizeOf171
  v139 := Tryd.zeroValue171
  g3 := by kernel_rfl
  g4 := by kernel_rfl }
end Go.Proofs
namespace Go.Proofs.YtdiophafmokfiaaDoor
open Go.RowKit Go.Shelf

/-- The small letters. -/
def abc : List UInt8 := [97, 98, 99, 100, 101, 102, 103, 104, 105, 106, 107, 108, 109, 110, 111, 112, 113, 114, 115, 116, 117, 118, 119, 120, 121, 122]
theorem abc_lower (c : UInt8) : abc.contains c = lowerB c := by
  have h : ∀ n : Fin 256, abc.contains (UInt8.ofNat n.val) = lowerB (UInt8.ofNat n.val) := by decide +kernel
  have := h ⟨c.toNat, c.toNat_lt⟩
  simpa using this
theorem head_drop {p : UInt8 → Bool} {a : UInt8} {t : List UInt8} : ∀ {l : List UInt8}, l.dropWhile p = a :: t → p a = false
  | [], h => by cases h
  | x :: r, h => by
    cases hx : p x with
    | true => rw [List.dropWhile_cons_of_pos hx] at h; exact head_drop h
    | false => rw [List.dropWhile_cons_of_neg (by simp [hx])] at h; cases h; exact hx
theorem drop_nil {p : UInt8 → Bool} : ∀ {l : List UInt8}, l.dropWhile p = [] ↔ ∀ x ∈ l, p x = true
  | [] => by simp
  | x :: r => by
    cases hx : p x with
    | true => rw [List.dropWhile_cons_of_pos hx, drop_nil]; simp [hx]
    | false => rw [List.dropWhile_cons_of_neg (by simp [hx])]; simp [hx]
/-- Trimmed of small letters, nothing is left where there are no others. -/
theorem trim_abc (l : List UInt8) : (Lib.trimS l abc).isEmpty = l.all lowerB := by
  have e : (fun c => abc.contains c) = lowerB := funext abc_lower
  unfold Lib.trimS Lib.trimLeftS Lib.trimRightS
  rw [e]
  cases h : l.all lowerB with
  | true =>
    have h1 : l.reverse.dropWhile lowerB = [] := by
      rw [drop_nil]
      intro x hx
      exact List.all_eq_true.1 h x (List.mem_reverse.1 hx)
    rw [h1]; rfl
  | false =>
    cases h1 : l.reverse.dropWhile lowerB with
    | nil =>
      rw [drop_nil] at h1
      have : l.all lowerB = true := List.all_eq_true.2 fun x hx => h1 x (List.mem_reverse.2 hx)
      rw [h] at this; cases this
    | cons a t =>
      have ha := head_drop h1
      cases h2 : (a :: t).reverse.dropWhile lowerB with
      | nil =>
        rw [drop_nil] at h2
        have := h2 a (List.mem_reverse.2 (List.mem_cons_self ..))
        rw [ha] at this; cases this
      | cons b u => rfl

set_option maxHeartbeats 400000 in
theorem isName_any (s : ByteArray) (w : World) : Calls Tryd.prog 9 #[.string s] w fun e w' => e = .returned (.bool (nameB s)) ∧ Below w.heap.size w w' := by
  by_cases h0 : s.data.toList = [33]
  · have r : nameB s = true := by simp [nameB, h0]
    have h1 : s.toList = [33] := by rw [ByteArray.toList_eq]; exact h0
    rw [r]
    clear r h0
    go_enter Tryd.func9, Tryd.ntmps9
    go_wp2_with fail
    go_ret
    exact ⟨rfl, Below.refl _ _⟩
  have h1 : (s.toList == [33]) = false := by rw [ByteArray.toList_eq]; simpa using h0
  by_cases h2 : s.size < 1
  · have r : nameB s = false := by simp [nameB, h0]; omega
    have h3 : s.toList = [] := by rw [ByteArray.toList_eq]; exact List.eq_nil_of_length_eq_zero (by rw [Array.length_toList]; exact Nat.lt_one_iff.1 h2)
    rw [r]
    clear r h0
    go_enter Tryd.func9, Tryd.ntmps9
    go_wp2_with fail
    go_ret
    exact ⟨rfl, Below.refl _ _⟩
  have h4 : s.toList.isEmpty = false := by
    rw [ByteArray.toList_eq]
    cases hl : s.data.toList with
    | nil =>
      have : s.size = 0 := by
        have := congrArg List.length hl
        rw [Array.length_toList] at this
        exact this
      omega
    | cons _ _ => rfl
  by_cases h3 : 8 < s.size
  · have r : nameB s = false := by simp [nameB, h0]; omega
    rw [r]
    clear r h0
    go_enter Tryd.func9, Tryd.ntmps9
    go_wp2_with fail
    go_ret
    exact ⟨rfl, Below.refl _ _⟩
  have r : nameB s = s.data.toList.all lowerB := by
    have a : 1 ≤ s.size := by omega
    have b : s.size ≤ 8 := by omega
    simp [nameB, h0, a, b]
  have hcon := Any.strings_Trim_laid Tryd.lays160 (by kernel_rfl) s ⟨#[97, 98, 99, 100, 101, 102, 103, 104, 105, 106, 107, 108, 109, 110, 111, 112, 113, 114, 115, 116, 117, 118, 119, 120, 121, 122]⟩ w (by omega) (by decide) (ascii_of_all (by decide))
  change Calls Tryd.prog 38 _ _ (fun e w' => e = .returned (.string ⟨(Lib.trimS s.data.toList abc).toArray⟩) ∧ Below w.heap.size w w') at hcon
  have hr : (⟨(Lib.trimS s.data.toList abc).toArray⟩ : ByteArray).toList.isEmpty = nameB s := by rw [ByteArray.toList_eq, r]; exact trim_abc _
  generalize (⟨(Lib.trimS s.data.toList abc).toArray⟩ : ByteArray) = t at hcon hr
  generalize hb : nameB s = nb at *
  clear r hb h0
  go_enter Tryd.func9, Tryd.ntmps9
  go_wp2_with fail
  refine hcon.mono ?_
  rintro e w' ⟨rfl, hB⟩
  go_wp2_with fail
  go_ret
  exact ⟨rfl, hB⟩
end Go.Proofs.YtdiophafmokfiaaDoor
