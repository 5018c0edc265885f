/-
  The law's own comparison of lists of terms answers whether they are alike.
-/
import Derived.Test.YtjicoifjgokoiaaVisit
import Derived.Test.YtjicoifjgokoiaaTurns
namespace Go.Proofs.Ytjicoifjgokoiaa.K
open Go.RowKit

/-- The term that a law asks about. -/
def t0 : Ts := .cons 0 3 ⟨#[]⟩ .nil (.cons 2 7 ⟨#[]⟩ .nil .nil)
def fS : ByteArray := ⟨#[102]⟩
theorem t0_good4 : (Ts.cons 3 0 fS t0 .nil).good 4 = true := by
  simp [Ts.good, nodeB, nameB, fS, t0, lowerB, ByteArray.toList_eq, Ts.length, ByteArray.size]
theorem t0_good3 : (Ts.cons 3 0 fS t0 .nil).good 3 = false := by
  simp [Ts.good, nodeB, t0]
theorem t0_tidy : (Ts.cons 3 0 fS t0 .nil).tidy = .cons 3 0 fS (.cons 0 0 ⟨#[]⟩ .nil (.cons 2 7 ⟨#[]⟩ .nil .nil)) .nil := rfl

set_option maxHeartbeats 400000 in
theorem terms_any (w : World) : Calls Try.prog 22 #[] w fun e w' => e = .returned (.bool true) ∧ Below w.heap.size w w' := by
  go_enter Try.func22, Try.ntmps22
  go_wp2_with fail
  have hW : Below w.heap.size w (((w.alloc (.cells #[.int .i64 0, .int .i64 3, .string ⟨#[]⟩, .slice none 0 0, .int .i64 2, .int .i64 7, .string ⟨#[]⟩, .slice none 0 0] 24)).alloc (.cells #[.int .i64 3, .int .i64 0, .string ⟨#[102]⟩, .slice (some ⟨w.heap.size, 0, none⟩) 2 2] 24)).alloc (.cells #[.int .i64 3, .int .i64 0, .string ⟨#[102]⟩, .slice (some ⟨w.heap.size, 0, none⟩) 2 2] 24)) := (((Below.refl _ _).alloc (Nat.le_refl _) _).alloc (by simp) _).alloc (by simp; omega) _
  have b0 : Plot (((w.alloc (.cells #[.int .i64 0, .int .i64 3, .string ⟨#[]⟩, .slice none 0 0, .int .i64 2, .int .i64 7, .string ⟨#[]⟩, .slice none 0 0] 24)).alloc (.cells #[.int .i64 3, .int .i64 0, .string ⟨#[102]⟩, .slice (some ⟨w.heap.size, 0, none⟩) 2 2] 24)).alloc (.cells #[.int .i64 3, .int .i64 0, .string ⟨#[102]⟩, .slice (some ⟨w.heap.size, 0, none⟩) 2 2] 24)) w.heap.size 24 #[.int .i64 0, .int .i64 3, .string ⟨#[]⟩, .slice none 0 0, .int .i64 2, .int .i64 7, .string ⟨#[]⟩, .slice none 0 0] := ((Plot.new w _ _).alloc _).alloc _
  have b1 : Plot (((w.alloc (.cells #[.int .i64 0, .int .i64 3, .string ⟨#[]⟩, .slice none 0 0, .int .i64 2, .int .i64 7, .string ⟨#[]⟩, .slice none 0 0] 24)).alloc (.cells #[.int .i64 3, .int .i64 0, .string ⟨#[102]⟩, .slice (some ⟨w.heap.size, 0, none⟩) 2 2] 24)).alloc (.cells #[.int .i64 3, .int .i64 0, .string ⟨#[102]⟩, .slice (some ⟨w.heap.size, 0, none⟩) 2 2] 24)) (w.heap.size + 1) 24 #[.int .i64 3, .int .i64 0, .string ⟨#[102]⟩, .slice (some ⟨w.heap.size, 0, none⟩) 2 2] := by
    have := (Plot.new (w.alloc (.cells #[.int .i64 0, .int .i64 3, .string ⟨#[]⟩, .slice none 0 0, .int .i64 2, .int .i64 7, .string ⟨#[]⟩, .slice none 0 0] 24)) 24 #[.int .i64 3, .int .i64 0, .string ⟨#[102]⟩, .slice (some ⟨w.heap.size, 0, none⟩) 2 2]).alloc (.cells #[.int .i64 3, .int .i64 0, .string ⟨#[102]⟩, .slice (some ⟨w.heap.size, 0, none⟩) 2 2] 24)
    simpa using this
  have b2 : Plot (((w.alloc (.cells #[.int .i64 0, .int .i64 3, .string ⟨#[]⟩, .slice none 0 0, .int .i64 2, .int .i64 7, .string ⟨#[]⟩, .slice none 0 0] 24)).alloc (.cells #[.int .i64 3, .int .i64 0, .string ⟨#[102]⟩, .slice (some ⟨w.heap.size, 0, none⟩) 2 2] 24)).alloc (.cells #[.int .i64 3, .int .i64 0, .string ⟨#[102]⟩, .slice (some ⟨w.heap.size, 0, none⟩) 2 2] 24)) (w.heap.size + 1 + 1) 24 #[.int .i64 3, .int .i64 0, .string ⟨#[102]⟩, .slice (some ⟨w.heap.size, 0, none⟩) 2 2] := by
    have := Plot.new ((w.alloc (.cells #[.int .i64 0, .int .i64 3, .string ⟨#[]⟩, .slice none 0 0, .int .i64 2, .int .i64 7, .string ⟨#[]⟩, .slice none 0 0] 24)).alloc (.cells #[.int .i64 3, .int .i64 0, .string ⟨#[102]⟩, .slice (some ⟨w.heap.size, 0, none⟩) 2 2] 24)) 24 #[.int .i64 3, .int .i64 0, .string ⟨#[102]⟩, .slice (some ⟨w.heap.size, 0, none⟩) 2 2]
    simpa using this
  generalize (((w.alloc (.cells #[.int .i64 0, .int .i64 3, .string ⟨#[]⟩, .slice none 0 0, .int .i64 2, .int .i64 7, .string ⟨#[]⟩, .slice none 0 0] 24)).alloc (.cells #[.int .i64 3, .int .i64 0, .string ⟨#[102]⟩, .slice (some ⟨w.heap.size, 0, none⟩) 2 2] 24)).alloc (.cells #[.int .i64 3, .int .i64 0, .string ⟨#[102]⟩, .slice (some ⟨w.heap.size, 0, none⟩) 2 2] 24)) = W at *
  have hsl : Sl W (fun _ => True) (.slice (some ⟨w.heap.size, 0, none⟩) 2 2) t0 := by
    refine ⟨_, 2, rfl, Nat.le_refl _, fun _ => ⟨_, 0, rfl, ?_⟩⟩
    exact seg_cons.2 ⟨trivial, b0.cell 0, b0.cell 1, b0.cell 2, ⟨_, b0.cell 3, Sl.nil _ _⟩, seg_cons.2 ⟨trivial, b0.cell 4, b0.cell 5, b0.cell 6, ⟨_, b0.cell 7, Sl.nil _ _⟩, trivial⟩⟩
  have hsl2 : Sl W (fun _ => True) (.slice (some ⟨w.heap.size + 1 + 1, 0, none⟩) 1 1) (.cons 3 0 fS t0 .nil) :=
    ⟨_, 1, rfl, Nat.le_refl _, fun _ => ⟨_, 0, rfl, seg_cons.2 ⟨trivial, b2.cell 0, b2.cell 1, b2.cell 2, ⟨_, b2.cell 3, hsl⟩, trivial⟩⟩⟩
  refine (tidy_any _ _ _ hsl2 (by decide)).mono ?_
  rintro e w2 ⟨v2, rfl, h2, hb2⟩
  rw [t0_tidy] at h2
  obtain ⟨A2, c2, rfl, h2⟩ := h2.form
  have d1 := b1.below hb2
  obtain ⟨p0, p1, p2, p3, _⟩ := d1.four
  have hsl3 := hsl.below hb2
  rw [show (Ts.cons 3 0 fS (.cons 0 0 ⟨#[]⟩ .nil (.cons 2 7 ⟨#[]⟩ .nil .nil)) .nil).length = 1 from rfl]
  go_wp2_with fail
  refine (good_any 3 0 4 fS t0 _ _ hsl3 (by decide)).mono ?_
  rintro e w3 ⟨rfl, hb3⟩
  rw [t0_good4]
  obtain ⟨p0, p1, p2, p3, _⟩ := (d1.below hb3).four
  have hsl4 := hsl3.below hb3
  go_wp2_with fail
  refine (good_any 3 0 3 fS t0 _ _ hsl4 (by decide)).mono ?_
  rintro e w4 ⟨rfl, hb4⟩
  rw [t0_good3]
  obtain ⟨p0, p1, p2, p3, _⟩ := ((d1.below hb3).below hb4).four
  have hsl5 := hsl4.below hb4
  go_wp2_with fail
  refine (nodes_any 3 0 fS t0 _ _ hsl5 (by decide)).mono ?_
  rintro e w5 ⟨rfl, hb5⟩
  rw [show ((t0.nodes : Nat) : Int) + 1 = 3 from rfl]
  have h5 := ((h2.below hb3).below hb4).below hb5
  obtain ⟨bx, ox, rfl, hseg⟩ := Sl.at_ (D := .nil) h5 (by decide)
  obtain ⟨_, _, _, _, ⟨vx, q3, hx⟩, _⟩ := seg_cons.1 hseg
  obtain ⟨Ax, cx, rfl, hx⟩ := hx.form
  obtain ⟨by_, oy, rfl, hsegy⟩ := Sl.at_ (D := .nil) hx (by decide)
  obtain ⟨_, _, q1, _⟩ := seg_cons.1 hsegy
  simp only [Ts.length, Nat.zero_mul, Nat.add_zero, Nat.zero_add] at q3 q1
  go_wp2_with fail
  go_ret
  refine ⟨rfl, ?_⟩
  have hz := hW.size
  have hz2 := hb2.size
  have hz3 := hb3.size
  have hz4 := hb4.size
  exact (((hW.trans (hb2.mono hz)).trans (hb3.mono (by omega))).trans (hb4.mono (by omega))).trans (hb5.mono (by omega))
end Go.Proofs.Ytjicoifjgokoiaa.K
