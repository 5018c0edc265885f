/- Named, IsName, Copy, Path: texts that follow one another, laid into one file. -/
import Derived.Test.YtdiophafmokfiaaGreatDoorG6
import Derived.Test.YtdiophafmokfiaaGreatDoorRows
import Derived.Deep.LoopGhost
import Derived.Ground.NamesProg
import Derived.Shelf.Strings.SlTrimAscii
import Derived.Lib.Hide
import Derived.StillTailTactics
import Derived.RegionTactic
import Derived.OneCell
namespace Go.Proofs.YtdiophafmokfiaaGreatDoor
open Go.RowKit

def lowerB (c : UInt8) : Bool := decide (97 ≤ c.toNat) && decide (c.toNat ≤ 122)
/-- Is it a name? -/
def nameB (s : ByteArray) : Bool := decide (s.data.toList = [33]) || (decide (1 ≤ s.size) && decide (s.size ≤ 8) && s.data.toList.all lowerB)
/-- The first k + 1 letters are the first k and the next one. -/
theorem letters_succ (s : ByteArray) (k : Nat) (h : k < s.size) : s.data.toList.take (k + 1) = s.data.toList.take k ++ [s[k]] :=
  List.take_succ_eq_append_getElem (l := s.data.toList) (i := k) (by simpa using h)

theorem all_false {s : ByteArray} {k : Nat} {c : UInt8} (h : s.data.toList.take (k + 1) = s.data.toList.take k ++ [c]) (hc : lowerB c = false) : s.data.toList.all lowerB = false := by
  have e : s.data.toList = s.data.toList.take (k + 1) ++ s.data.toList.drop (k + 1) := (List.take_append_drop _ _).symm
  rw [e, List.all_append, h, List.all_append]
  simp [hc]

set_option maxHeartbeats 400000 in
theorem named_any (s : ByteArray) (w : World) : Calls Tryz.prog 95 #[.string s] w fun e w' => e = .returned (.bool (nameB s)) ∧ w = w' := by
  by_cases h0 : s.data.toList = [33]
  · have r : nameB s = true := by simp [nameB, h0]
    have h1 : s.toList = [33] := by rw [ByteArray.toList_eq]; exact h0
    rw [r]
    clear r h0
    go_enter Tryz.func95, Tryz.ntmps95
    go_wp2_with fail
    go_ret
    exact ⟨rfl, rfl⟩
  have h1 : (s.toList == [33]) = false := by rw [ByteArray.toList_eq]; simpa using h0
  by_cases h2 : s.size < 1
  · have r : nameB s = false := by simp [nameB, h0]; omega
    rw [r]
    clear r h0
    go_enter Tryz.func95, Tryz.ntmps95
    go_wp2_with fail
    go_ret
    exact ⟨rfl, rfl⟩
  by_cases h3 : 8 < s.size
  · have r : nameB s = false := by simp [nameB, h0]; omega
    rw [r]
    clear r h0
    go_enter Tryz.func95, Tryz.ntmps95
    go_wp2_with fail
    go_ret
    exact ⟨rfl, rfl⟩
  have r : nameB s = s.data.toList.all lowerB := by
    have a : 1 ≤ s.size := by omega
    have b : s.size ≤ 8 := by omega
    simp [nameB, h0, a, b]
  have R := Lib.hid r
  clear r h0
  go_enter Tryz.func95, Tryz.ntmps95
  go_wp2_with fail
  go_loopg [16] s.size (fun g i wr => w = wr ∧ ∃ k : Nat, k ≤ s.size ∧ g = s.size - k ∧ i = .int .i64 k ∧ (s.data.toList.take k).all lowerB = true)
  case atStart => exact ⟨rfl, 0, Nat.zero_le _, rfl, rfl, rfl⟩
  case round =>
    obtain ⟨rfl, k, hk, hg, rfl, ha⟩ := hrel
    have HA := Lib.hid ha
    have HG := Lib.hid hg
    clear ha hg
    by_cases hlt : k < s.size
    · have hts := letters_succ s k hlt
      have hbig := s[k].toNat_lt
      by_cases hlo : (s[k].toNat : Int) < 97
      · have hf := Lib.hid (all_false hts (show lowerB s[k] = false by simp [lowerB]; omega))
        clear hts
        go_wp2_with fail
        go_ret
        exact ⟨by rw [R.out, hf.out]; rfl, rfl⟩
      by_cases hhi : (122 : Int) < (s[k].toNat : Int)
      · have hf := Lib.hid (all_false hts (show lowerB s[k] = false by simp [lowerB]; omega))
        clear hts
        go_wp2_with fail
        go_ret
        exact ⟨by rw [R.out, hf.out]; rfl, rfl⟩
      · have hf : Hid ((s.data.toList.take (k + 1)).all lowerB = true) := Lib.hid (by
          rw [hts, List.all_append, HA.out]
          simp [lowerB]; omega)
        clear hts
        go_wp2_with fail
        go_roundg (s.size - (k + 1))
        case measure => rw [HG.out]; omega
        case rel => exact ⟨rfl, k + 1, by omega, rfl, rfl, hf.out⟩
    · go_wp2_with fail
      go_ret
      refine ⟨?_, rfl⟩
      have h4 := HA.out
      rw [List.take_of_length_le (by simp; omega)] at h4
      rw [R.out, h4]; rfl
end Go.Proofs.YtdiophafmokfiaaGreatDoor
namespace Go.Proofs
open Go.Shelf
def Tryz.lays160_ren : Go.Shelf.Ren := ⟨fun | 160 => 94 | 232 => 104 | 231 => 69 | 227 => 70 | 234 => 105 | 233 => 71 | 236 => 106 | 235 => 72 | 228 => 88 | 271 => 117 | 151 => 90 | 197 => 89 | 120 => 125 | 152 => 98 | 260 => 97 | 137 => 39 | 119 => 111 | 224 => 112 | 225 => 113 | 217 => 59 | 266 => 77 | n => n, fun | 9 => 9 | 4 => 4 | 3 => 3 | 5 => 5 | 117 => 93 | 116 => 92 | 0 => 0 | 124 => 96 | 21 => 21 | 105 => 109 | 46 => 129 | 119 => 128 | 139 => 132 | 138 => 131 | n => n, fun | 3 => 1 | 4 => 2 | n => n⟩
theorem Tryz.lays160 : Go.Proofs.Lays.n160 Tryz.prog Tryz.lays160_ren := {
  mixed := by kernel_rfl
  f119 := Tryz.func111.trans (congrArg some (by kernel_rfl))
  f120 := Tryz.func125.trans (congrArg some (by kernel_rfl))
  f137 := Tryz.func39.trans (congrArg some (by kernel_rfl))
  f151 := Tryz.func90.trans (congrArg some (by kernel_rfl))
  f152 := Tryz.func98.trans (congrArg some (by kernel_rfl))
  f160 := Tryz.func94.trans (congrArg some (by kernel_rfl))
  f197 := Tryz.func89.trans (congrArg some (by kernel_rfl))
  f217 := Tryz.func59.trans (congrArg some (by kernel_rfl))
  f224 := Tryz.func112.trans (congrArg some (by kernel_rfl))
  f225 := Tryz.func113.trans (congrArg some (by kernel_rfl))
  f227 := Tryz.func70.trans (congrArg some (by kernel_rfl))
  f228 := Tryz.func88.trans (congrArg some (by kernel_rfl))
  f231 := Tryz.func69.trans (congrArg some (by kernel_rfl))
  f232 := Tryz.func104.trans (congrArg some (by kernel_rfl))
  f233 := Tryz.func71.trans (congrArg some (by kernel_rfl))
  f234 := Tryz.func105.trans (congrArg some (by kernel_rfl))
  f235 := Tryz.func72.trans (congrArg some (by kernel_rfl))
  f236 := Tryz.func106.trans (congrArg some (by kernel_rfl))
  f260 := Tryz.func97.trans (congrArg some (by kernel_rfl))
  f266 := Tryz.func77.trans (congrArg some (by kernel_rfl))
  f271 := Tryz.func117.trans (congrArg some (by kernel_rfl))
  t0 := Tryz.underlying0
  a0 := Tryz.isAgg0
  z0 := Tryz.sizeOf0
  v0 := Tryz.zeroValue0
  t3 := Tryz.underlying3
  a3 := Tryz.isAgg3
  z3 := Tryz.sizeOf3
  v3 := Tryz.zeroValue3
  t4 := Tryz.underlying4
  a4 := Tryz.isAgg4
  z4 := Tryz.sizeOf4
  v4 := Tryz.zeroValue4
  t5 := Tryz.underlying5
  a5 := Tryz.isAgg5
  z5 := Tryz.sizeOf5
  v5 := Tryz.zeroValue5
  t9 := Tryz.underlying9
  a9 := Tryz.isAgg9
  z9 := Tryz.sizeOf9
  v9 := Tryz.zeroValue9
  t21 := Tryz.underlying21
  a21 := Tryz.isAgg21
  z21 := Tryz.sizeOf21
  v21 := Tryz.zeroValue21
  t46 := Tryz.underlying129
  a46 := Tryz.isAgg129
  z46 := Tryz.sizeOf129
  v46 := Tryz.zeroValue129
  t105 := Tryz.underlying109
  a105 := Tryz.isAgg109
  z105 := Tryz.sizeOf109
  v105 := Tryz.zeroValue109
  t116 := Tryz.underlying92
  a116 := Tryz.isAgg92
  z116 := Tryz.sizeOf92
  t117 := Tryz.underlying93
  a117 := Tryz.isAgg93
  z117 := Tryz.sizeOf93
  v117 := Tryz.zeroValue93
  t119 := Tryz.underlying128
  a119 := Tryz.isAgg128
  z119 := Tryz.sizeOf128
  t124 := Tryz.underlying96
  a124 := Tryz.isAgg96
  z124 := Tryz.sizeOf96
  v124 := Tryz.zeroValue96
  t138 := Tryz.underlying131
  a138 := Tryz.isAgg131
  z138 := Tryz.sizeOf131
  v138 := Tryz.zeroValue131
  t139 := Tryz.underlying132
  a139 := Tryz.isAgg132
  z139 := Tryz.sizeOf132
  v139 := Tryz.zeroValue132
  g3 := by kernel_rfl
  g4 := by kernel_rfl }
end Go.Proofs
namespace Go.Proofs.YtdiophafmokfiaaGreatDoor
open Go.RowKit Go.Shelf

/-- The small letters. -/
def abc : List UInt8 := [97, 98, 99, 100, 101, 102, 103, 104, 105, 106, 107, 108, 109, 110, 111, 112, 113, 114, 115, 116, 117, 118, 119, 120, 121, 122]
theorem abc_lower (c : UInt8) : abc.contains c = lowerB c := by
  have h : ∀ n : Fin 256, abc.contains (UInt8.ofNat n.val) = lowerB (UInt8.ofNat n.val) := by decide +kernel
  have := h ⟨c.toNat, c.toNat_lt⟩
  simpa using this
theorem head_drop {p : UInt8 → Bool} {a : UInt8} {t : List UInt8} : ∀ {l : List UInt8}, l.dropWhile p = a :: t → p a = false
  | [], h => by cases h
  | x :: r, h => by
    cases hx : p x with
    | true => rw [List.dropWhile_cons_of_pos hx] at h; exact head_drop h
    | false => rw [List.dropWhile_cons_of_neg (by simp [hx])] at h; cases h; exact hx
theorem drop_nil {p : UInt8 → Bool} : ∀ {l : List UInt8}, l.dropWhile p = [] ↔ ∀ x ∈ l, p x = true
  | [] => by simp
  | x :: r => by
    cases hx : p x with
    | true => rw [List.dropWhile_cons_of_pos hx, drop_nil]; simp [hx]
    | false => rw [List.dropWhile_cons_of_neg (by simp [hx])]; simp [hx]
/-- Trimmed of small letters, nothing is left where there are no others. -/
theorem trim_abc (l : List UInt8) : (Lib.trimS l abc).isEmpty = l.all lowerB := by
  have e : (fun c => abc.contains c) = lowerB := funext abc_lower
  unfold Lib.trimS Lib.trimLeftS Lib.trimRightS
  rw [e]
  cases h : l.all lowerB with
  | true =>
    have h1 : l.reverse.dropWhile lowerB = [] := by
      rw [drop_nil]
      intro x hx
      exact List.all_eq_true.1 h x (List.mem_reverse.1 hx)
    rw [h1]; rfl
  | false =>
    cases h1 : l.reverse.dropWhile lowerB with
    | nil =>
      rw [drop_nil] at h1
      have : l.all lowerB = true := List.all_eq_true.2 fun x hx => h1 x (List.mem_reverse.2 hx)
      rw [h] at this; cases this
    | cons a t =>
      have ha := head_drop h1
      cases h2 : (a :: t).reverse.dropWhile lowerB with
      | nil =>
        rw [drop_nil] at h2
        have := h2 a (List.mem_reverse.2 (List.mem_cons_self ..))
        rw [ha] at this; cases this
      | cons b u => rfl

set_option maxHeartbeats 400000 in
theorem isName_any (s : ByteArray) (w : World) : Calls Tryz.prog 79 #[.string s] w fun e w' => e = .returned (.bool (nameB s)) ∧ Below w.heap.size w w' := by
  by_cases h0 : s.data.toList = [33]
  · have r : nameB s = true := by simp [nameB, h0]
    have h1 : s.toList = [33] := by rw [ByteArray.toList_eq]; exact h0
    rw [r]
    clear r h0
    go_enter Tryz.func79, Tryz.ntmps79
    go_wp2_with fail
    go_ret
    exact ⟨rfl, Below.refl _ _⟩
  have h1 : (s.toList == [33]) = false := by rw [ByteArray.toList_eq]; simpa using h0
  by_cases h2 : s.size < 1
  · have r : nameB s = false := by simp [nameB, h0]; omega
    have h3 : s.toList = [] := by rw [ByteArray.toList_eq]; exact List.eq_nil_of_length_eq_zero (by rw [Array.length_toList]; exact Nat.lt_one_iff.1 h2)
    rw [r]
    clear r h0
    go_enter Tryz.func79, Tryz.ntmps79
    go_wp2_with fail
    go_ret
    exact ⟨rfl, Below.refl _ _⟩
  have h4 : s.toList.isEmpty = false := by
    rw [ByteArray.toList_eq]
    cases hl : s.data.toList with
    | nil =>
      have : s.size = 0 := by
        have := congrArg List.length hl
        rw [Array.length_toList] at this
        exact this
      omega
    | cons _ _ => rfl
  by_cases h3 : 8 < s.size
  · have r : nameB s = false := by simp [nameB, h0]; omega
    rw [r]
    clear r h0
    go_enter Tryz.func79, Tryz.ntmps79
    go_wp2_with fail
    go_ret
    exact ⟨rfl, Below.refl _ _⟩
  have r : nameB s = s.data.toList.all lowerB := by
    have a : 1 ≤ s.size := by omega
    have b : s.size ≤ 8 := by omega
    simp [nameB, h0, a, b]
  have hcon := Any.strings_Trim_laid Tryz.lays160 (by kernel_rfl) s ⟨#[97, 98, 99, 100, 101, 102, 103, 104, 105, 106, 107, 108, 109, 110, 111, 112, 113, 114, 115, 116, 117, 118, 119, 120, 121, 122]⟩ w (by omega) (by decide) (ascii_of_all (by decide))
  change Calls Tryz.prog 94 _ _ (fun e w' => e = .returned (.string ⟨(Lib.trimS s.data.toList abc).toArray⟩) ∧ Below w.heap.size w w') at hcon
  have hr : (⟨(Lib.trimS s.data.toList abc).toArray⟩ : ByteArray).toList.isEmpty = nameB s := by rw [ByteArray.toList_eq, r]; exact trim_abc _
  generalize (⟨(Lib.trimS s.data.toList abc).toArray⟩ : ByteArray) = t at hcon hr
  generalize hb : nameB s = nb at *
  clear r hb h0
  go_enter Tryz.func79, Tryz.ntmps79
  go_wp2_with fail
  refine hcon.mono ?_
  rintro e w' ⟨rfl, hB⟩
  go_wp2_with fail
  go_ret
  exact ⟨rfl, hB⟩
end Go.Proofs.YtdiophafmokfiaaGreatDoor
namespace Go.Proofs.YtdiophafmokfiaaGreatDoor
open Go.RowKit

theorem info_term : (Tryz.prog.info? 31).map (fun i => (i.zero, i.size, i.bytes)) = some (some (.agg #[.int .i64 0, .int .i64 0, .string .empty, .slice none 0 0]), 4, 56) := by kernel_rfl

def CopySaid (T : Ts) : Prop := ∀ (w : World) (v : Value), Sl w (fun _ => True) v T → T.nodes ≤ 1048576 →
    Calls Tryz.prog 31 #[v] w fun e w' => ∃ v', e = .returned v' ∧ Sl w' (fun k => w.heap.size ≤ k) v' T ∧ Below w.heap.size w w'

set_option maxHeartbeats 400000 in
theorem copyTerm_of {ar : Ts} (ih : CopySaid ar) (hn : ar.nodes ≤ 1048576) (k n : Int) (s : ByteArray) (v : Value) (w : World) (hv : Sl w (fun _ => True) v ar) :
    Calls Tryz.prog 13 #[.agg #[.int .i64 k, .int .i64 n, .string s, v]] w fun e w' => ∃ v', e = .returned (.agg #[.int .i64 k, .int .i64 n, .string s, v']) ∧ Sl w' (fun k => w.heap.size ≤ k) v' ar ∧ Below w.heap.size w w' := by
  go_enter Tryz.func13, Tryz.ntmps13
  go_wp2_with fail
  refine (ih _ v ?_ hn).mono ?_
  · exact hv.below (((Below.refl _ _).alloc (Nat.le_refl _) _).alloc (by simp) _)
  rintro e w1 ⟨v', rfl, hv', hb⟩
  obtain ⟨a0, a1, a2, a3, af⟩ := (((Plot.new w 31 #[.int .i64 k, .int .i64 n, .string s, v]).alloc _).below hb).four
  obtain ⟨b0, b1, b2, b3, bf⟩ := ((Plot.new (w.alloc _) 31 _).below hb).four
  simp only [World.size_alloc] at b0 b1 b2 b3 bf
  have hz : w.heap.size + 1 < w1.heap.size := by have := hb.size; simp at this; omega
  obtain ⟨A, c, rfl, h2⟩ := hv'
  go_wp2_with fail
  have hs : Below w.heap.size w (((((w1.setCell ⟨w.heap.size, 3, none⟩ (.slice A ar.length c)).setCell ⟨w.heap.size + 1, 0, none⟩ (.int .i64 k)).setCell ⟨w.heap.size + 1, 1, none⟩ (.int .i64 n)).setCell ⟨w.heap.size + 1, 2, none⟩ (.string s)).setCell ⟨w.heap.size + 1, 3, none⟩ (.slice A ar.length c)) := by
    refine (((((Below.trans ?_ (hb.mono (by simp; omega))).setCell (by simp) _).setCell (by simp) _).setCell (by simp) _).setCell (by simp) _).setCell (by simp) _
    exact ((Below.refl _ _).alloc (Nat.le_refl _) _).alloc (by simp) _
  refine bodyPost_ret (v := .agg #[.int .i64 k, .int .i64 n, .string s, .slice A ar.length c]) (by simp [results, Tryz.results13, go_sem, b0, b1, b2, b3]) rfl ⟨_, rfl, ?_, hs⟩
  have h3 : Sl w1 (fun k => w.heap.size + 2 ≤ k) (.slice A ar.length c) ar := by
    refine Sl.imp ⟨A, c, rfl, h2⟩ fun k hk _ => ?_
    simp at hk; omega
  refine (h3.keep (w' := _) fun k hk _ => ?_).imp fun k hk _ => by omega
  simp only [World.setCell, Array.getElem?_modify]
  repeat rw [if_neg (by omega)]

def CopyRel (w : World) (T : Ts) (A : Option Addr) (g : Nat) (s3 s8 : Value) (wr : World) : Prop :=
  ∃ (D R : Ts) (xs : List Value), T = D.app R ∧ g = R.length ∧ s8 = .int .i64 D.length ∧ wr.ownsRow w.heap.size 31 4 s3 D.length xs ∧
    Cs wr (fun k => w.heap.size ≤ k ∧ s3.ownBlock ≠ some k) D xs ∧ Below w.heap.size w wr ∧ (0 < R.length → ∃ b o, A = some ⟨b, o, none⟩ ∧ Seg w (fun _ => True) R b (o + 4 * D.length))

theorem CopyRel.start (w : World) (T : Ts) (A : Option Addr) (hs : 0 < T.length → ∃ b o, A = some ⟨b, o, none⟩ ∧ Seg w (fun _ => True) T b o) :
    CopyRel w T A T.length (.slice none 0 0) (.int .i64 0) w :=
  ⟨.nil, T, [], rfl, rfl, rfl, World.ownsRow_nil _ _ _ _, rfl, Below.refl _ _, fun h => by simpa [Ts.length] using hs h⟩

/-- What a round's append does to the relation. W: the world at the append, grown out of the round's own by what CopyTerm made. -/
theorem CopyRel.step {w wr W w3 : World} {T D r : Ts} {A : Option Addr} {u3 v3 : Value} {xs : List Value} {k n : Int} {s : ByteArray} {v : Value} {ar : Ts}
    (hT : T = D.app (.cons k n s ar r)) (hown : wr.ownsRow w.heap.size 31 4 u3 D.length xs)
    (hcs : Cs wr (fun k => w.heap.size ≤ k ∧ u3.ownBlock ≠ some k) D xs) (hb : Below w.heap.size w wr) (hW : Below wr.heap.size wr W)
    (hv : Sl W (fun k => wr.heap.size ≤ k) v ar) (ho3 : w3.ownsRow w.heap.size 31 4 v3 (D.length + 1) (xs ++ [.int .i64 k, .int .i64 n, .string s, v]))
    (hg : W.grownBy w3 u3.ownBlock) (hat : v3.ownBlock = u3.ownBlock ∨ v3.ownBlock = some W.heap.size)
    (hA : ∃ b o, A = some ⟨b, o, none⟩ ∧ Seg w (fun _ => True) (.cons k n s ar r) b (o + 4 * D.length)) :
    CopyRel w T A r.length v3 (.int .i64 ((D.length : Int) + 1)) w3 := by
  have hlt := hown.lt
  have hn : (D.app (.cons k n s ar .nil)).length = D.length + 1 := by rw [Ts.length_app]; rfl
  refine ⟨D.app (.cons k n s ar .nil), r, _, by rw [hT, Ts.app_assoc]; rfl, rfl, by rw [hn]; rfl, by rw [hn]; exact ho3, ?_, ?_, fun _ => ?_⟩
  · have h1 : Cs W (fun k => (w.heap.size ≤ k ∧ v3.ownBlock ≠ some k) ∧ u3.ownBlock ≠ some k) (D.app (.cons k n s ar .nil)) (xs ++ [.int .i64 k, .int .i64 n, .string s, v]) := by
      refine Cs.app ?_ ⟨v, [], rfl, ?_, rfl⟩
      · refine (hcs.imp (q := fun k => (w.heap.size ≤ k ∧ v3.ownBlock ≠ some k) ∧ u3.ownBlock ≠ some k) fun k hk hl => ⟨⟨hk.1, ?_⟩, hk.2⟩).below hW
        rcases hat with e | e <;> rw [e]
        · exact hk.2
        · intro e2; have := hW.size; simp at e2; omega
      · refine hv.imp fun k hk hl => ⟨⟨?_, ?_⟩, ?_⟩
        · have := hb.size; omega
        · rcases hat with e | e <;> rw [e]
          · intro e2; have := (hlt k e2).2; omega
          · intro e2; simp at e2; omega
        · intro e2; have := (hlt k e2).2; omega
    exact (h1.keep fun k hk hl => hg.block k hl (fun e => hk.2 e.symm)).imp fun k hk _ => hk.1
  · exact (hb.trans (hW.mono hb.size)).grown hg (by have := hb.size; have := hW.size; omega) fun k hk => (hlt k hk).1
  · obtain ⟨b, o, e, hs⟩ := hA
    refine ⟨b, o, e, ?_⟩
    rw [hn, show o + 4 * (D.length + 1) = o + 4 * D.length + 4 by omega]
    exact (seg_cons.1 hs).2.2.2.2.2

set_option maxHeartbeats 400000 in
theorem copyTerms_of (m : Nat) (ih : ∀ T : Ts, T.nodes < m → CopySaid T) (T : Ts) (hm : T.nodes ≤ m) : CopySaid T := by
  intro w v hv hn
  obtain ⟨A, c, rfl, hc, hs⟩ := hv
  have hl := T.length_le
  have h0 := CopyRel.start w T A hs
  clear hs
  obtain ⟨i0, hi0, hz0, hz1, hz2⟩ := info_parts info_term
  go_enter Tryz.func31, Tryz.ntmps31
  go_wp2_with fail
  go_loopg [3, 8] T.length (CopyRel w T A)
  case atStart => exact h0
  case round =>
    clear h0
    obtain ⟨D, R, xs, hT, hg, rfl, hown, hcs, hb, hseg⟩ := hrel
    cases R with
    | nil =>
      have e : D.length = T.length := by rw [hT, Ts.app_nil]
      have hsl : Sl wr (fun k => w.heap.size ≤ k) u3 T := by
        have h1 : D = T := by rw [hT, Ts.app_nil]
        subst h1
        exact Sl.own hown (hcs.imp fun k hk _ => hk.1) fun g hg => (hown.lt g hg).1
      go_wp2_with fail
      go_ret
      exact ⟨_, rfl, hsl, hb⟩
    | cons k n s ar r =>
      have e : D.length < T.length := by rw [hT, Ts.length_app]; simp [Ts.length]
      have e2 : ar.nodes < m := by rw [hT, Ts.nodes_app] at hm; simp [Ts.nodes] at hm; omega
      have e3 : ar.nodes ≤ 1048576 := by rw [hT, Ts.nodes_app] at hn; simp [Ts.nodes] at hn; omega
      obtain ⟨b, o, rfl, hsg⟩ := hseg (by simp [Ts.length])
      have HT := Lib.hid hT
      have HG := Lib.hid hg
      clear hT hseg hg
      obtain ⟨_, c0, c1, c2, ⟨v, c3, hv⟩, hsr⟩ := seg_cons.1 ((hsg.imp (q := fun k => k < w.heap.size) fun _ _ h => h).keep (w' := wr) fun k hk _ => hb.block k hk)
      rw [Nat.mul_comm 4] at c0 c1 c2 c3
      obtain ⟨Av, cv, rfl, hv⟩ := hv.form
      go_wp2_with fail
      refine (copyTerm_of (ih ar e2) e3 k n s _ _ ?_).mono ?_
      · exact hv.any.below ((Below.refl _ _).alloc (Nat.le_refl _) _)
      rintro e w2 ⟨v', rfl, hv', hb2⟩
      obtain ⟨Aw, cw, rfl, hv'⟩ := hv'.form
      have hW : Below wr.heap.size wr (w2.alloc (.cells #[.int .i64 k, .int .i64 n, .string s, .slice Aw ar.length cw] 31)) :=
        (((Below.refl _ _).alloc (Nat.le_refl _) _).trans (hb2.mono (by simp))).alloc (by have := hb2.size; simp at this; omega) _
      have hbz : w.heap.size ≤ w2.heap.size := by have := hb.size; have := hb2.size; simp at this; omega
      have hvW := hv'.below (((Below.refl _ w2).alloc (Nat.le_refl _) (.cells #[.int .i64 k, .int .i64 n, .string s, .slice Aw ar.length cw] 31)))
      go_wp2_with (at_builtin; refine wpList_append_at _ rfl (.tmp 12) (.tmp 15) _ rfl w.heap.size 31 i0 _ 4 56 Tryz.underlying29 hi0 hz0 hz1 hz2 rfl (by omega) u3 D.length xs rfl (own_below hown hW) ⟨w2.heap.size, 0, none⟩ 1 1 [.int .i64 k, .int .i64 n, .string s, .slice Aw ar.length cw] rfl rfl ?cells (by simp [Value.oneCell']) (by simp only [maxLen]; omega) (by omega) (by simp; omega) ?next)
      case cells => exact cell_lit w2 [.int .i64 k, .int .i64 n, .string s, .slice Aw ar.length cw] 31
      case next =>
        intro v3 w3 ho3 hg3 hat3
        go_wp2_with fail
        go_roundg r.length
        case measure => rw [HG.out]; simp [Ts.length]
        case rel => exact CopyRel.step HT.out hown hcs hb hW (hvW.imp fun k hk _ => by simp at hk; omega) ho3 hg3 (by simpa using hat3) ⟨b, o, rfl, hsg⟩

theorem copy_said (T : Ts) : CopySaid T := by
  have : ∀ m, ∀ T : Ts, T.nodes < m → CopySaid T := by
    intro m
    induction m with
    | zero => intro T h; omega
    | succ m ih => intro T h; exact copyTerms_of m ih T (by omega)
  exact this _ T (Nat.lt_succ_self _)
end Go.Proofs.YtdiophafmokfiaaGreatDoor
namespace Go.Proofs.YtdiophafmokfiaaGreatDoor
open Go.RowKit

theorem info_terms : (Tryz.prog.info? 29).map (fun i => (i.zero, i.size, i.bytes)) = some (some (.slice none 0 0), 1, 24) := by kernel_rfl

theorem run_equalIn_slice_nil {P : Program} (w : World) (d : Nat) (t e : TypeId) (a : Option Addr) (l c : Nat) (h : P.underlying t = some (.slice e)) : (Op.equalIn (d + 1) t (.slice a l c) (.slice none 0 0)).run P w = .ok a.isNone w := by
  cases a <;> simp [Op.equalIn, run_underlying h]
theorem run_equal_slice_nil {P : Program} (w : World) (t e : TypeId) (a : Option Addr) (l c : Nat) (h : P.underlying t = some (.slice e)) : (Op.equal t (.slice a l c) (.slice none 0 0)).run P w = .ok a.isNone w := run_equalIn_slice_nil w 9999 t e a l c h
theorem run_eql_slice_nil {P : Program} (w : World) (t e : TypeId) (a : Option Addr) (l c : Nat) (h : P.underlying t = some (.slice e)) : (binOp .eql t (.slice a l c) (.slice none 0 0)).run P w = .ok (.bool a.isNone) w := by
  simp [binOp, run_equal_slice_nil w t e a l c h]

/-- The variable in block pb is a path: a row of the call's own of the slices xs. -/
structure IsPath (w : World) (B pb : Nat) (pv : Value) (xs : List Value) : Prop where
  var : Plot w pb 101 #[pv]
  own : w.ownsRow B 29 1 pv xs.length xs
  apart : pv.ownBlock ≠ some pb

theorem Plot.ne_ {w : World} {g g' : Nat} {t t' : TypeId} {cs cs' : Array Value} (h : Plot w g t cs) (h' : Plot w g' t' cs') (hne : t ≠ t') : g ≠ g' := by
  rintro rfl
  unfold Plot at h h'
  rw [h] at h'
  injection h' with h'
  injection h' with _ ht
  exact hne ht
theorem IsPath.chg {S : Nat → Prop} {w w' : World} {B pb : Nat} {pv : Value} {xs : List Value} (h : IsPath w B pb pv xs) (hc : Chg S w w') (h1 : ¬ S pb) (h2 : ∀ g, pv.ownBlock = some g → ¬ S g) : IsPath w' B pb pv xs :=
  ⟨h.var.chg hc h1, own_chg h.own hc h2, h.apart⟩
theorem IsPath.other {w : World} {B pb b : Nat} {pv : Value} {xs : List Value} {cur : Array Value} (h : IsPath w B pb pv xs) (hb : Plot w b 31 cur) : b ≠ pb ∧ pv.ownBlock ≠ some b := by
  refine ⟨hb.ne_ h.var (by decide), fun e => ?_⟩
  rcases h.own.2 with ⟨e1, _⟩ | ⟨g, cap, cur', e1, _, hh, _⟩
  · rw [e1] at e; simp [Value.ownBlock] at e
  · rw [e1] at e
    simp only [Value.ownBlock, Option.some.injEq] at e
    subst e
    exact hb.ne_ (t' := 29) hh (by decide) rfl
theorem IsPath.set {w : World} {B pb b i : Nat} {pv u : Value} {xs : List Value} {cur : Array Value} (h : IsPath w B pb pv xs) (hb : Plot w b 31 cur) : IsPath (w.setCell ⟨b, i, none⟩ u) B pb pv xs := by
  obtain ⟨h1, h2⟩ := h.other hb
  exact h.chg ((Chg.refl (fun k => k = b) w).setCell (fun _ => rfl) u) (fun e => h1 e.symm) fun g hg e => h2 (by rw [hg, e])
theorem IsPath.keep {w w' : World} {B pb k : Nat} {pv : Value} {xs : List Value} {cur : Array Value} (h : IsPath w B pb pv xs) (hc : Chg (fun k => k = pb ∨ pv.ownBlock = some k) w w') (hk : Plot w k 31 cur) : Plot w' k 31 cur := by
  obtain ⟨h1, h2⟩ := h.other hk
  exact hk.chg hc fun hS => hS.elim h1 h2

set_option maxHeartbeats 400000 in
theorem newPath_any (k n : Int) (s : ByteArray) (A : Option Addr) (l c : Nat) (w : World) :
    Calls Tryz.prog 81 #[.agg #[.int .i64 k, .int .i64 n, .string s, .slice A l c]] w fun e w' => e = .returned (.slice (some ⟨w.heap.size + 2, 0, none⟩) 1 1) ∧
      w' = ((w.alloc (.cells #[.int .i64 k, .int .i64 n, .string s, .slice A l c] 31)).alloc (.cells #[.int .i64 k, .int .i64 n, .string s, .slice A l c] 31)).alloc (.cells #[.slice (some ⟨w.heap.size + 1, 0, none⟩) 1 1] 29) := by
  go_enter Tryz.func81, Tryz.ntmps81
  go_wp2_with fail
  go_ret
  exact ⟨rfl, rfl⟩

set_option maxHeartbeats 400000 in
theorem next_last {w : World} {B pb : Nat} {pv : Value} {ys : List Value} {b o cap : Nat} (hp : IsPath w B pb pv (ys ++ [.slice (some ⟨b, o, none⟩) 1 cap])) (hn : ys.length ≤ 1048576) :
    Calls Tryz.prog 82 #[.pointer (some ⟨pb, 0, none⟩)] w fun e w' => e = .returned (.pointer (some ⟨b, o, none⟩)) ∧
      ∃ pv', IsPath w' B pb pv' ys ∧ pv'.ownBlock = pv.ownBlock ∧ Chg (fun k => k = pb ∨ pv.ownBlock = some k) w w' := by
  obtain ⟨hv, ho, ha⟩ := hp
  rcases ho.2 with ⟨_, h0⟩ | ⟨g, cp, cur, rfl, hg, hh, hnc, hcm, hcs, htk⟩
  · simp at h0
  have c0 : w.cell? ⟨pb, 0, none⟩ = some (.slice (some ⟨g, 0, none⟩) (ys ++ [Value.slice (some ⟨b, o, none⟩) 1 cap]).length cp) := hv.cell 0
  have f0 : w.frozen? ⟨pb, 0, none⟩ = false := hv.frozen 0
  have c1 : w.cell? ⟨g, ys.length, none⟩ = some (.slice (some ⟨b, o, none⟩) 1 cap) := by
    rw [ho.cellAt _ (by simp)]; simp
  simp only [List.length_append, List.length_cons, List.length_nil, Nat.zero_add] at c0 hnc
  have hgp : g ≠ pb := fun e => ha (by rw [e]; rfl)
  have hfin : IsPath (w.setCell ⟨pb, 0, none⟩ (.slice (some ⟨g, 0, none⟩) ys.length cp)) B pb (.slice (some ⟨g, 0, none⟩) ys.length cp) ys := by
    refine ⟨hv.set_ 0 _, ⟨by simp, .inr ⟨g, cp, cur, rfl, hg, (Below.heap_setCell _ _ _ _ hgp).trans hh, by omega, hcm, hcs, ?_⟩⟩, by simpa [Value.ownBlock] using hgp⟩
    have := congrArg (List.take (ys.length * 1)) htk
    rw [List.take_take] at this
    simpa [Nat.min_eq_left] using this
  have hchg : Chg (fun k => k = pb ∨ (Value.slice (some ⟨g, 0, none⟩) (ys ++ [Value.slice (some ⟨b, o, none⟩) 1 cap]).length cp).ownBlock = some k) w (w.setCell ⟨pb, 0, none⟩ (.slice (some ⟨g, 0, none⟩) ys.length cp)) :=
    (Chg.refl _ _).setCell (fun _ => .inl rfl) _
  clear hv ho ha htk
  go_enter Tryz.func82, Tryz.ntmps82
  go_wp2_with fail
  go_ret
  exact ⟨rfl, _, hfin, rfl, hchg⟩

set_option maxHeartbeats 400000 in
theorem next_more {w : World} {B pb : Nat} {pv : Value} {ys : List Value} {b o l cap : Nat} (hp : IsPath w B pb pv (ys ++ [.slice (some ⟨b, o, none⟩) (l + 2) cap])) (hn : ys.length ≤ 1048576) (hl : l ≤ 1048576) (hc : l + 2 ≤ cap) :
    Calls Tryz.prog 82 #[.pointer (some ⟨pb, 0, none⟩)] w fun e w' => e = .returned (.pointer (some ⟨b, o, none⟩)) ∧
      ∃ pv', IsPath w' B pb pv' (ys ++ [.slice (some ⟨b, o + 4, none⟩) (l + 1) (cap - 1)]) ∧ pv'.ownBlock = pv.ownBlock ∧ Chg (fun k => k = pb ∨ pv.ownBlock = some k) w w' := by
  obtain ⟨hv, ho, ha⟩ := hp
  rcases ho.2 with ⟨_, h0⟩ | ⟨g, cp, cur, rfl, hg, hh, hnc, hcm, hcs, htk⟩
  · simp at h0
  have c0 : w.cell? ⟨pb, 0, none⟩ = some (.slice (some ⟨g, 0, none⟩) (ys ++ [Value.slice (some ⟨b, o, none⟩) (l + 2) cap]).length cp) := hv.cell 0
  have c1 : w.cell? ⟨g, ys.length, none⟩ = some (.slice (some ⟨b, o, none⟩) (l + 2) cap) := by
    rw [ho.cellAt _ (by simp)]; simp
  have f1 : w.frozen? ⟨g, ys.length, none⟩ = false := ho.frozenAt _
  simp only [List.length_append, List.length_cons, List.length_nil, Nat.zero_add] at c0 hnc
  have hgp : g ≠ pb := fun e => ha (by rw [e]; rfl)
  have hst := (ho.stored ys.length (.slice (some ⟨b, o + 4, none⟩) (l + 1) (cap - 1))).1
  have hfin : IsPath (w.setCell ⟨g, ys.length, none⟩ (.slice (some ⟨b, o + 4, none⟩) (l + 1) (cap - 1))).drew B pb (.slice (some ⟨g, 0, none⟩) (ys.length + 1) cp) (ys ++ [.slice (some ⟨b, o + 4, none⟩) (l + 1) (cap - 1)]) := by
    refine ⟨?_, ?_, by simpa [Value.ownBlock] using hgp⟩
    · have := hv.far (p := ⟨g, ys.length, none⟩) (Ne.symm hgp) (.slice (some ⟨b, o + 4, none⟩) (l + 1) (cap - 1))
      simp only [List.length_append, List.length_cons, List.length_nil, Nat.zero_add] at this
      exact this
    · simp at hst
      have e : (ys ++ [Value.slice (some ⟨b, o + 4, none⟩) (l + 1) (cap - 1)]).length = ys.length + 1 := by simp
      rw [e]
      exact hst
  have hchg : Chg (fun k => k = pb ∨ (Value.slice (some ⟨g, 0, none⟩) (ys ++ [Value.slice (some ⟨b, o, none⟩) (l + 2) cap]).length cp).ownBlock = some k) w (w.setCell ⟨g, ys.length, none⟩ (.slice (some ⟨b, o + 4, none⟩) (l + 1) (cap - 1))).drew :=
    ((Chg.refl _ _).setCell (fun _ => .inr rfl) _).drew
  have hl1 : (((l + 2 : Nat) : Int) == 1) = false := by rw [beq_eq_false_iff_ne]; omega
  clear hv ho ha htk hst
  go_enter Tryz.func82, Tryz.ntmps82
  go_wp2_with fail
  go_region
  go_wp2_with fail
  go_ret
  exact ⟨rfl, _, hfin, rfl, hchg⟩

set_option maxHeartbeats 400000 in
theorem add_none {w : World} (v : Value) (A : Option Addr) (c : Nat) : Calls Tryz.prog 84 #[v, .slice A 0 c] w fun e w' => e = .returned (.tuple #[]) ∧ w = w' := by
  go_enter Tryz.func84, Tryz.ntmps84
  go_wp2_with fail
  go_end0
  exact ⟨rfl, rfl⟩

set_option maxHeartbeats 400000 in
theorem add_some {w : World} {B pb : Nat} {pv : Value} {xs : List Value} {A : Option Addr} {l c : Nat} (hp : IsPath w B pb pv xs) (hB : B ≤ w.heap.size) (hn : xs.length ≤ 1048576) :
    Calls Tryz.prog 84 #[.pointer (some ⟨pb, 0, none⟩), .slice A (l + 1) c] w fun e w' => e = .returned (.tuple #[]) ∧
      ∃ pv', IsPath w' B pb pv' (xs ++ [.slice A (l + 1) c]) ∧ (pv'.ownBlock = pv.ownBlock ∨ ∃ g, pv'.ownBlock = some g ∧ w.heap.size ≤ g) ∧ Chg (fun k => k = pb ∨ pv.ownBlock = some k) w w' := by
  obtain ⟨hv, ho, ha⟩ := hp
  obtain ⟨i0, hi0, hz0, hz1, hz2⟩ := info_parts info_terms
  have c0 : w.cell? ⟨pb, 0, none⟩ = some pv := hv.cell 0
  have hW : Below w.heap.size w (w.alloc (.cells #[.slice A (l + 1) c] 29)) := (Below.refl _ _).alloc (Nat.le_refl _) _
  have ho' := own_below ho hW
  have hlt := hv.lt
  have HB := Lib.hid ha
  clear ha
  go_enter Tryz.func84, Tryz.ntmps84
  go_wp2_with (at_builtin; refine wpList_append_at _ rfl (.tmp 10) (.tmp 12) _ rfl B 29 i0 _ 1 24 Tryz.underlying101 hi0 hz0 hz1 hz2 rfl (by omega) pv xs.length xs rfl ho' ⟨w.heap.size, 0, none⟩ 1 1 [.slice A (l + 1) c] rfl rfl (cell_lit w [.slice A (l + 1) c] 29) (by simp [Value.oneCell']) (by simp only [maxLen]; omega) (by omega) (by simp; omega) ?next)
  case next =>
    intro v' w' hov hg hat
    have cp : Plot w' pb 101 #[pv] := (hv.alloc _).grown hg (fun e => HB.out e.symm)
    have c1 : w'.cell? ⟨pb, 0, none⟩ = some pv := cp.cell 0
    have f1 : w'.frozen? ⟨pb, 0, none⟩ = false := cp.frozen 0
    rcases hov.2 with ⟨_, h0⟩ | ⟨g, cap, cur, rfl, hgB, hh, hnc, hcm, hcs, htk⟩
    · omega
    have hne : g ≠ pb := by
      rcases hat with e | e
      · intro e2; subst e2; exact HB.out e.symm
      · simp [Value.ownBlock] at e; omega
    have hfin : IsPath (w'.setCell ⟨pb, 0, none⟩ (.slice (some ⟨g, 0, none⟩) (xs.length + 1) cap)) B pb (.slice (some ⟨g, 0, none⟩) (xs.length + 1) cap) (xs ++ [.slice A (l + 1) c]) := by
      refine ⟨cp.set_ 0 _, ?_, by simpa [Value.ownBlock] using hne⟩
      have := ownsRow_setCell_other hov (a := ⟨pb, 0, none⟩) (by simpa [Value.ownBlock] using hne) (.slice (some ⟨g, 0, none⟩) (xs.length + 1) cap)
      simpa using this
    have hat' : (Value.slice (some ⟨g, 0, none⟩) (xs.length + 1) cap).ownBlock = pv.ownBlock ∨ ∃ g', (Value.slice (some ⟨g, 0, none⟩) (xs.length + 1) cap).ownBlock = some g' ∧ w.heap.size ≤ g' := by
      rcases hat with e | e
      · exact .inl e
      · exact .inr ⟨_, e, by omega⟩
    have hchg : Chg (fun k => k = pb ∨ pv.ownBlock = some k) w (w'.setCell ⟨pb, 0, none⟩ (.slice (some ⟨g, 0, none⟩) (xs.length + 1) cap)) := by
      refine Chg.setCell ?_ (fun _ => .inl rfl) _
      exact ((Chg.refl _ w).alloc _).trans (Chg.of_grown hg) fun k _ e => .inr e
    have HX := Lib.hid hat'
    clear hat hat' htk hov
    go_wp2_with fail
    go_end0
    exact ⟨rfl, _, hfin, HX.out, hchg⟩

/-- The value v is a slice whose cells, four an element, are xs. -/
def Raw (w : World) (v : Value) (l : Nat) (xs : List Value) : Prop :=
  ∃ A c, v = .slice A l c ∧ l ≤ c ∧ xs.length = l * 4 ∧ (∀ u ∈ xs, u.oneCell' = true) ∧ (0 < l → ∃ b o, A = some ⟨b, o, none⟩ ∧ ∀ j u, xs[j]? = some u → w.cell? ⟨b, o + j, none⟩ = some u)
theorem Sl.raw {w : World} {p : Nat → Prop} {v : Value} {T : Ts} (h : Sl w p v T) : ∃ xs, Raw w v T.length xs ∧ Cs w p T xs := by
  obtain ⟨A, c, rfl, hc, hs⟩ := h
  rcases Nat.eq_zero_or_pos T.length with h | h
  · rw [Ts.nil_of_length h]
    exact ⟨[], ⟨A, c, rfl, Nat.zero_le _, rfl, fun u hu => (by cases hu), fun h => absurd h (Nat.lt_irrefl _)⟩, rfl⟩
  · obtain ⟨b, o, e, hseg⟩ := hs h
    obtain ⟨xs, h1, h2⟩ := hseg.cells
    exact ⟨xs, ⟨A, c, rfl, hc, h1.length, h1.one, fun _ => ⟨b, o, e, h2⟩⟩, h1⟩

/-- A list of terms that is still to be visited: from cell o of block b on. -/
structure Lev where
  b : Nat
  o : Nat
  T : Ts
def push (T : Ts) (b o : Nat) (L : List Lev) : List Lev := if T.length = 0 then L else ⟨b, o, T⟩ :: L
def nodesOf (L : List Lev) : Nat := (L.map fun l => l.T.nodes).sum
theorem nodesOf_push (T : Ts) (b o : Nat) (L : List Lev) : nodesOf (push T b o L) = T.nodes + nodesOf L := by
  unfold push
  split
  · rename_i h; rw [Ts.nil_of_length h]; simp [Ts.nodes]
  · simp [nodesOf]
/-- The path's slices, the newest last, are the levels, the newest first. -/
def PV : List Lev → List Value → Prop
  | [], xs => xs = []
  | l :: r, xs => ∃ ys cap, xs = ys ++ [.slice (some ⟨l.b, l.o, none⟩) l.T.length cap] ∧ l.T.length ≤ cap ∧ 0 < l.T.length ∧ PV r ys
theorem PV.length : ∀ {L : List Lev} {xs : List Value}, PV L xs → xs.length = L.length
  | [], xs, h => by rw [show xs = [] from h]; rfl
  | l :: r, xs, ⟨ys, cap, e, _, _, h⟩ => by rw [e]; simp [h.length]
theorem PV.le : ∀ {L : List Lev} {xs : List Value}, PV L xs → L.length ≤ nodesOf L
  | [], xs, h => by simp [nodesOf]
  | l :: r, xs, ⟨ys, cap, e, _, h0, h⟩ => by
    have := h.le
    have := l.T.length_le
    simp only [List.length_cons, nodesOf, List.map_cons, List.sum_cons] at *
    omega

theorem next_lev {w : World} {B pb : Nat} {pv : Value} {xs : List Value} {b o : Nat} {k n : Int} {s : ByteArray} {ar r : Ts} {L : List Lev} (hp : IsPath w B pb pv xs) (hv : PV (⟨b, o, .cons k n s ar r⟩ :: L) xs) (hn : nodesOf (⟨b, o, .cons k n s ar r⟩ :: L) ≤ 1048576) :
    Calls Tryz.prog 82 #[.pointer (some ⟨pb, 0, none⟩)] w fun e w' => e = .returned (.pointer (some ⟨b, o, none⟩)) ∧
      ∃ pv' xs', IsPath w' B pb pv' xs' ∧ PV (push r b (o + 4) L) xs' ∧ pv'.ownBlock = pv.ownBlock ∧ Chg (fun k => k = pb ∨ pv.ownBlock = some k) w w' := by
  have hle := hv.le
  obtain ⟨ys, cap, rfl, hcap, _, hys⟩ := hv
  have hyl := hys.length
  have hrl := r.length_le
  simp only [List.length_cons, nodesOf, List.map_cons, List.sum_cons, Ts.nodes] at hle hn
  simp only [Ts.length] at hp hcap
  cases hr : r.length with
  | zero =>
    rw [hr] at hp
    refine (next_last hp (by omega)).mono ?_
    rintro e w' ⟨he, pv', h1, h2, h3⟩
    exact ⟨he, pv', ys, h1, by simpa [push, hr] using hys, h2, h3⟩
  | succ l =>
    rw [hr] at hp hcap
    refine (next_more hp (by omega) (by omega) hcap).mono ?_
    rintro e w' ⟨he, pv', h1, h2, h3⟩
    refine ⟨he, pv', _, h1, ?_, h2, h3⟩
    have e : push r b (o + 4) L = ⟨b, o + 4, r⟩ :: L := by simp [push, hr]
    rw [e]
    exact ⟨ys, cap - 1, by rw [hr], by show r.length ≤ _; omega, by show 0 < r.length; omega, hys⟩

theorem add_lev {w : World} {B pb : Nat} {pv : Value} {xs : List Value} {A : Option Addr} {c : Nat} {T : Ts} {b o : Nat} {L : List Lev} (hp : IsPath w B pb pv xs) (hv : PV L xs) (hB : B ≤ w.heap.size) (hn : nodesOf L ≤ 1048576) (hc : T.length ≤ c) (hA : 0 < T.length → A = some ⟨b, o, none⟩) :
    Calls Tryz.prog 84 #[.pointer (some ⟨pb, 0, none⟩), .slice A T.length c] w fun e w' => e = .returned (.tuple #[]) ∧
      ∃ pv' xs', IsPath w' B pb pv' xs' ∧ PV (push T b o L) xs' ∧ (pv'.ownBlock = pv.ownBlock ∨ ∃ g, pv'.ownBlock = some g ∧ w.heap.size ≤ g) ∧ Chg (fun k => k = pb ∨ pv.ownBlock = some k) w w' := by
  have hle := hv.le
  have hyl := hv.length
  cases hl : T.length with
  | zero =>
    refine (add_none _ _ _).mono ?_
    rintro e w' ⟨he, rfl⟩
    exact ⟨he, pv, xs, hp, by simpa [push, hl] using hv, .inl rfl, Chg.refl _ _⟩
  | succ l =>
    refine (add_some hp hB (by omega)).mono ?_
    rintro e w' ⟨he, pv', h1, h2, h3⟩
    refine ⟨he, pv', _, h1, ?_, h2, h3⟩
    have e : push T b o L = ⟨b, o, T⟩ :: L := by simp [push, hl]
    rw [e]
    refine ⟨xs, c, ?_, hc, by show 0 < T.length; omega, hv⟩
    rw [hA (by omega), hl]
end Go.Proofs.YtdiophafmokfiaaGreatDoor
