/- Turns, SModel, SMem, SPure, SWalk1, SPure2: texts that follow one another, laid into one file. -/
import Derived.Test.YtdiophafmokfiaaG2
import Derived.Test.YtdiophafmokfiaaG1
import Derived.Test.YtdiophafmokfiaaG0
namespace Go.Proofs.Ytdiophafmokfiaa
open Go.RowKit

theorem Ts.ren_congr {σ : Type} {N M : Num σ} (hv : ∀ s n, N.val s n = M.val s n) (hx : ∀ s n, N.nxt s n = M.nxt s n) (T : Ts) : ∀ s, T.ren N s = T.ren M s := by
  have h1 : ∀ k n s, N.v1 k n s = M.v1 k n s := fun k n s => by simp [Num.v1, hv]
  have h2 : ∀ k n s, N.s1 k n s = M.s1 k n s := fun k n s => by simp [Num.s1, hx]
  induction T with
  | nil => intro s; rfl
  | cons k n b ar r iha ihr => intro s; simp only [Ts.ren, h1, h2, iha, ihr]

def numShift (vb : Nat) (m : Int) : Num Unit :=
  { fid := 32, cap := #[.pointer (some ⟨vb, 0, none⟩)], own := fun _ => False, lean := fun k => k = vb, inv := fun _ w => Plot w vb 3 #[.int .i64 m], val := fun _ n => low n + m, nxt := fun _ _ => () }
theorem numShift_ok (vb : Nat) (m : Int) (h0 : 0 ≤ m) (h1 : m < 1099511627776) : (numShift vb m).Ok where
  keep := fun _ w w' h hk => (hk vb rfl).trans h
  lt := fun _ w k h hk => by
    have e : k = vb := hk
    subst e
    exact Plot.lt h
  sub := fun _ h => h.elim
  bare := fun _ _ _ _ _ _ _ h => h.elim
  enter := fun args w => by simp [numShift, go_sem]
  call := fun _ n w h => by
    refine (shift1_any n m vb w h h0 h1).mono ?_
    rintro e w' ⟨rfl, q, rfl⟩
    exact ⟨rfl, Plot.drewN h q, (Chg.of_fresh (below_drewN _ w q))⟩

def numShifted (fb nb : Nat) (m : Int) : Num Unit :=
  { fid := 35, cap := #[.pointer (some ⟨fb, 0, none⟩), .pointer (some ⟨nb, 0, none⟩)], own := fun _ => False, lean := fun k => k = fb ∨ k = nb,
    inv := fun _ w => Plot w fb 56 #[.func (.func 33) #[] #[]] ∧ Plot w nb 3 #[.int .i64 m], val := fun _ n => low n + low m, nxt := fun _ _ => () }
theorem numShifted_ok (fb nb : Nat) (m : Int) : (numShifted fb nb m).Ok where
  keep := fun _ w w' h hk => ⟨(hk fb (.inl rfl)).trans h.1, (hk nb (.inr rfl)).trans h.2⟩
  lt := fun _ w k h hk => by
    have e : k = fb ∨ k = nb := hk
    rcases e with rfl | rfl
    · exact Plot.lt h.1
    · exact Plot.lt h.2
  sub := fun _ h => h.elim
  bare := fun _ _ _ _ _ _ _ h => h.elim
  enter := fun args w => by simp [numShifted, go_sem]
  call := fun _ n w h => by
    refine (shifted2_any n m fb nb w h.1 h.2).mono ?_
    rintro e w' ⟨rfl, q, rfl⟩
    exact ⟨rfl, ⟨Plot.drewN h.1 q, Plot.drewN h.2 q⟩, (Chg.of_fresh (below_drewN _ w q))⟩

def numTidy (vb mb : Nat) : Num (List Int) :=
  { fid := 36, cap := #[.pointer (some ⟨vb, 0, none⟩)], own := fun k => k = mb, lean := fun k => k = vb ∨ k = mb,
    inv := fun ks w => Plot w vb 59 #[.map (some mb)] ∧ NumIs w mb ks, val := numV, nxt := numS }
theorem numTidy_ok (vb mb : Nat) : (numTidy vb mb).Ok where
  keep := fun _ w w' h hk => ⟨(hk vb (.inl rfl)).trans h.1, MapIs.keep h.2 (hk mb (.inr rfl))⟩
  lt := fun _ w k h hk => by
    have e : k = vb ∨ k = mb := hk
    rcases e with rfl | rfl
    · exact Plot.lt h.1
    · exact MapIs.lt h.2
  sub := fun _ h => .inr h
  bare := fun ks w k c t f h ho e => by
    have e1 : k = mb := ho
    subst e1
    obtain ⟨es, clock, hb, _⟩ := h.2
    rw [hb] at e
    cases e
  enter := fun args w => by simp [numTidy, go_sem]
  call := fun ks n w h => by
    refine (tidy1_any n ks vb mb w h.1 h.2).mono ?_
    rintro e w' ⟨rfl, h1, h2⟩
    exact ⟨rfl, ⟨h.1.chg h2 fun e => Plot.not_map h.1 h.2 e, h1⟩, h2⟩

def numTidied (vb mb : Nat) : Num (List Int) := { numTidy vb mb with fid := 37 }
theorem numTidied_ok (vb mb : Nat) : (numTidied vb mb).Ok where
  keep := (numTidy_ok vb mb).keep
  lt := (numTidy_ok vb mb).lt
  sub := (numTidy_ok vb mb).sub
  bare := (numTidy_ok vb mb).bare
  enter := fun args w => by simp [numTidied, numTidy, go_sem]
  call := fun ks n w h => by
    refine (tidied1_any n ks vb mb w h.1 h.2).mono ?_
    rintro e w' ⟨rfl, h1, h2⟩
    exact ⟨rfl, ⟨h.1.chg h2 fun e => Plot.not_map h.1 h.2 e, h1⟩, h2⟩

/-- The terms, their variables numbered in the order in which they come. -/
def Ts.tidyFrom (T : Ts) (ks : List Int) : Ts × List Int := T.ren (numTidy 0 0) ks
def Ts.tidy (T : Ts) : Ts := (T.tidyFrom []).1
theorem ren_tidy (vb mb : Nat) (T : Ts) (ks : List Int) : T.ren (numTidy vb mb) ks = T.tidyFrom ks := Ts.ren_congr (N := numTidy vb mb) (M := numTidy 0 0) (fun _ _ => rfl) (fun _ _ => rfl) T ks
theorem ren_tidied (vb mb : Nat) (T : Ts) (ks : List Int) : T.ren (numTidied vb mb) ks = T.tidyFrom ks := Ts.ren_congr (N := numTidied vb mb) (M := numTidy 0 0) (fun _ _ => rfl) (fun _ _ => rfl) T ks
/-- The terms, m added to the low part of each variable's number. -/
def Ts.shift (T : Ts) (m : Int) : Ts := (T.ren (numShift 0 (low m)) ()).1
theorem ren_shift (vb : Nat) (T : Ts) (m : Int) : (T.ren (numShift vb (low m)) ()).1 = T.shift m := by unfold Ts.shift; rw [Ts.ren_congr (N := numShift vb (low m)) (M := numShift 0 (low m)) (fun _ _ => rfl) (fun _ _ => rfl)]
theorem ren_shifted (fb nb : Nat) (T : Ts) (m : Int) : (T.ren (numShifted fb nb m) ()).1 = T.shift m := by unfold Ts.shift; rw [Ts.ren_congr (N := numShifted fb nb m) (M := numShift 0 (low m)) (fun _ _ => rfl) (fun _ _ => rfl)]
def shiftN (k n m : Int) : Int := if k = 0 then low n + low m else n
theorem Ts.shift_cons (k n m : Int) (b : ByteArray) (ar r : Ts) : (Ts.cons k n b ar r).shift m = .cons k (shiftN k n m) b (ar.shift m) (r.shift m) := rfl

set_option maxHeartbeats 400000 in
theorem tidy_any (T : Ts) (v : Value) (w : World) (hv : Sl w (fun _ => True) v T) (hn : T.nodes ≤ 1048576) :
    Calls Try.prog 14 #[v] w fun e w' => ∃ v', e = .returned v' ∧ Sl w' (fun k => w.heap.size ≤ k) v' T.tidy ∧ Below w.heap.size w w' := by
  have hi : (numTidy (w.heap.size + 1) w.heap.size).inv [] ((w.alloc (.map #[] 0)).alloc (.cells #[.map (some w.heap.size)] 59)) := by
    refine ⟨?_, ?_⟩
    · have := Plot.new (w.alloc (.map #[] 0)) 59 #[.map (some w.heap.size)]
      simpa using this
    · exact (MapIs.made w).keep (Below.heap_alloc _ _ _ (by simp))
  have hW : Below w.heap.size w ((w.alloc (.map #[] 0)).alloc (.cells #[.map (some w.heap.size)] 59)) := ((Below.refl _ _).alloc (Nat.le_refl _) _).alloc (by simp) _
  have hsl := hv.below hW
  have hmk := run_makeMap (P := Try.prog) 59
  go_enter Try.func14, Try.ntmps14
  go_wp2_with fail
  refine (rename_any (numTidy_ok (w.heap.size + 1) w.heap.size) T v [] _ hsl hi hn).mono ?_
  rintro e w' ⟨v', rfl, h1, _, h3⟩
  rw [ren_tidy] at h1
  go_wp2_with fail
  go_ret
  refine ⟨_, rfl, h1.imp (fun k hk _ => by simp at hk; omega), hW.trans (h3.below (by simp; omega) fun k hk _ => ?_)⟩
  have e : k = w.heap.size := hk
  omega

set_option maxHeartbeats 400000 in
theorem shift_any (k n m : Int) (b : ByteArray) (ar : Ts) (v : Value) (w : World) (hv : Sl w (fun _ => True) v ar) (hn : ar.nodes < 1048576) :
    Calls Try.prog 10 #[.agg #[.int .i64 k, .int .i64 n, .string b, v], .int .i64 m] w fun e w' => ∃ v', e = .returned (.agg #[.int .i64 k, .int .i64 (shiftN k n m), .string b, v']) ∧ Sl w' (fun k => w.heap.size ≤ k) v' (ar.shift m) ∧ Below w.heap.size w w' := by
  obtain ⟨A, c, rfl, hs⟩ := hv.form
  obtain ⟨hb1, hb2⟩ := low_bounds m
  go_enter Try.func10, Try.ntmps10
  go_wp2_with (go_at_call 30; refine (remainder_any _ _).mono ?_; rintro e w1 ⟨rfl, rfl⟩)
  have hW : Below w.heap.size w ((((w.alloc (.cells #[.int .i64 k, .int .i64 n, .string b, .slice A ar.length c] 24)).alloc (.cells #[.int .i64 0, .int .i64 0, .string ⟨#[]⟩, .slice none 0 0] 24)).alloc (.cells #[.int .i64 (low m)] 3)).alloc (.cells #[.int .i64 k, .int .i64 n, .string b, .slice A ar.length c] 24)) := ((((Below.refl _ _).alloc (Nat.le_refl _) _).alloc (by simp) _).alloc (by simp; omega) _).alloc (by simp; omega) _
  have b2 : Plot ((((w.alloc (.cells #[.int .i64 k, .int .i64 n, .string b, .slice A ar.length c] 24)).alloc (.cells #[.int .i64 0, .int .i64 0, .string ⟨#[]⟩, .slice none 0 0] 24)).alloc (.cells #[.int .i64 (low m)] 3)).alloc (.cells #[.int .i64 k, .int .i64 n, .string b, .slice A ar.length c] 24)) (w.heap.size + 1) 24 #[.int .i64 0, .int .i64 0, .string ⟨#[]⟩, .slice none 0 0] := by
    have := ((Plot.new (w.alloc (.cells #[.int .i64 k, .int .i64 n, .string b, .slice A ar.length c] 24)) 24 #[.int .i64 0, .int .i64 0, .string ⟨#[]⟩, .slice none 0 0]).alloc (.cells #[.int .i64 (low m)] 3)).alloc (.cells #[.int .i64 k, .int .i64 n, .string b, .slice A ar.length c] 24)
    simpa using this
  have hi : (numShift (w.heap.size + 1 + 1) (low m)).inv () ((((w.alloc (.cells #[.int .i64 k, .int .i64 n, .string b, .slice A ar.length c] 24)).alloc (.cells #[.int .i64 0, .int .i64 0, .string ⟨#[]⟩, .slice none 0 0] 24)).alloc (.cells #[.int .i64 (low m)] 3)).alloc (.cells #[.int .i64 k, .int .i64 n, .string b, .slice A ar.length c] 24)) := by
    have := (Plot.new ((w.alloc (.cells #[.int .i64 k, .int .i64 n, .string b, .slice A ar.length c] 24)).alloc (.cells #[.int .i64 0, .int .i64 0, .string ⟨#[]⟩, .slice none 0 0] 24)) 3 #[.int .i64 (low m)]).alloc (.cells #[.int .i64 k, .int .i64 n, .string b, .slice A ar.length c] 24)
    simpa [numShift] using this
  have b4 : Plot ((((w.alloc (.cells #[.int .i64 k, .int .i64 n, .string b, .slice A ar.length c] 24)).alloc (.cells #[.int .i64 0, .int .i64 0, .string ⟨#[]⟩, .slice none 0 0] 24)).alloc (.cells #[.int .i64 (low m)] 3)).alloc (.cells #[.int .i64 k, .int .i64 n, .string b, .slice A ar.length c] 24)) (w.heap.size + 1 + 1 + 1) 24 #[.int .i64 k, .int .i64 n, .string b, .slice A ar.length c] := by
    have := Plot.new (((w.alloc (.cells #[.int .i64 k, .int .i64 n, .string b, .slice A ar.length c] 24)).alloc (.cells #[.int .i64 0, .int .i64 0, .string ⟨#[]⟩, .slice none 0 0] 24)).alloc (.cells #[.int .i64 (low m)] 3)) 24 #[.int .i64 k, .int .i64 n, .string b, .slice A ar.length c]
    simpa using this
  have hsl : Sl ((((w.alloc (.cells #[.int .i64 k, .int .i64 n, .string b, .slice A ar.length c] 24)).alloc (.cells #[.int .i64 0, .int .i64 0, .string ⟨#[]⟩, .slice none 0 0] 24)).alloc (.cells #[.int .i64 (low m)] 3)).alloc (.cells #[.int .i64 k, .int .i64 n, .string b, .slice A ar.length c] 24)) (fun _ => True) (.slice (some ⟨w.heap.size + 1 + 1 + 1, 0, none⟩) 1 1) (.cons k n b ar .nil) := by
    refine ⟨_, 1, rfl, Nat.le_refl _, fun _ => ⟨_, 0, rfl, seg_cons.2 ⟨trivial, b4.cell 0, b4.cell 1, b4.cell 2, ⟨_, b4.cell 3, hs.below hW⟩, trivial⟩⟩⟩
  refine (rename_any (numShift_ok (w.heap.size + 1 + 1) (low m) hb1 hb2) (.cons k n b ar .nil) _ () _ hsl hi (by simp [Ts.nodes]; omega)).mono ?_
  rintro e w1 ⟨v', rfl, h1, _, h3⟩
  rw [ren_shift, Ts.shift_cons] at h1
  obtain ⟨A1, c1, rfl, h1⟩ := h1.form
  have b5 := b2.chg h3 (fun h => h.elim)
  obtain ⟨d0, d1, d2, d3, df⟩ := b5.four
  obtain ⟨b1, o1, rfl, hseg⟩ := Sl.at_ (D := .nil) (R := .cons k (shiftN k n m) b (ar.shift m) (Ts.nil.shift m)) h1 (by simp [Ts.length])
  obtain ⟨_, c10, c11, c12, ⟨v5, c13, h5⟩, _⟩ := seg_cons.1 hseg
  obtain ⟨A5, c5, rfl, h5⟩ := h5.form
  simp only [Ts.length, Nat.zero_mul, Nat.add_zero] at c10 c11 c12 c13
  have hl1 : (Ts.cons k (shiftN k n m) b (ar.shift m) (Ts.nil.shift m)).length = 1 := rfl
  rw [hl1]
  have hz1 := h3.size
  go_wp2_with fail
  refine bodyPost_ret (v := .agg #[.int .i64 k, .int .i64 (shiftN k n m), .string b, .slice A5 (ar.shift m).length c5]) (by simp [results, Try.results10, go_sem, d0, d1, d2, d3]) rfl ⟨_, rfl, ?_, ?_⟩
  · refine (h5.keep (w' := _) fun k hk _ => ?_).imp fun k hk _ => by simp at hk; omega
    simp at hk
    simp only [World.setCell, Array.getElem?_modify]
    repeat rw [if_neg (by omega)]
  · refine (((Below.setCell ?_ (by simp) _).setCell (by simp) _).setCell (by simp) _).setCell (by simp) _
    exact hW.trans (h3.below (by simp; omega) fun _ h _ => h.elim)

set_option maxHeartbeats 400000 in
theorem shifted_any (k n m : Int) (b : ByteArray) (ar : Ts) (v : Value) (w : World) (hv : Sl w (fun _ => True) v ar) (hn : ar.nodes ≤ 1048576) :
    Calls Try.prog 12 #[.agg #[.int .i64 k, .int .i64 n, .string b, v], .int .i64 m] w fun e w' => ∃ v', e = .returned (.agg #[.int .i64 k, .int .i64 (shiftN k n m), .string b, v']) ∧ Sl w' (fun _ => True) v' (ar.shift m) ∧ Below w.heap.size w w' := by
  obtain ⟨A, c, rfl, hs⟩ := hv.form
  have hW : Below w.heap.size w ((((w.alloc (.cells #[.int .i64 k, .int .i64 n, .string b, .slice A ar.length c] 24)).alloc (.cells #[.int .i64 m] 3)).alloc (.cells #[.int .i64 0, .int .i64 0, .string ⟨#[]⟩, .slice none 0 0] 24)).alloc (.cells #[.func (.func 33) #[] #[]] 56)) := ((((Below.refl _ _).alloc (Nat.le_refl _) _).alloc (by simp) _).alloc (by simp; omega) _).alloc (by simp; omega) _
  have b3 : Plot ((((w.alloc (.cells #[.int .i64 k, .int .i64 n, .string b, .slice A ar.length c] 24)).alloc (.cells #[.int .i64 m] 3)).alloc (.cells #[.int .i64 0, .int .i64 0, .string ⟨#[]⟩, .slice none 0 0] 24)).alloc (.cells #[.func (.func 33) #[] #[]] 56)) (w.heap.size + 1 + 1) 24 #[.int .i64 0, .int .i64 0, .string ⟨#[]⟩, .slice none 0 0] := by
    have := ((Plot.new ((w.alloc (.cells #[.int .i64 k, .int .i64 n, .string b, .slice A ar.length c] 24)).alloc (.cells #[.int .i64 m] 3)) 24 #[.int .i64 0, .int .i64 0, .string ⟨#[]⟩, .slice none 0 0])).alloc (.cells #[.func (.func 33) #[] #[]] 56)
    simpa using this
  have hi : (numShifted (w.heap.size + 1 + 1 + 1) (w.heap.size + 1) m).inv () ((((w.alloc (.cells #[.int .i64 k, .int .i64 n, .string b, .slice A ar.length c] 24)).alloc (.cells #[.int .i64 m] 3)).alloc (.cells #[.int .i64 0, .int .i64 0, .string ⟨#[]⟩, .slice none 0 0] 24)).alloc (.cells #[.func (.func 33) #[] #[]] 56)) := by
    constructor
    · have := Plot.new (((w.alloc (.cells #[.int .i64 k, .int .i64 n, .string b, .slice A ar.length c] 24)).alloc (.cells #[.int .i64 m] 3)).alloc (.cells #[.int .i64 0, .int .i64 0, .string ⟨#[]⟩, .slice none 0 0] 24)) 56 #[.func (.func 33) #[] #[]]
      simpa using this
    · have := ((Plot.new (w.alloc (.cells #[.int .i64 k, .int .i64 n, .string b, .slice A ar.length c] 24)) 3 #[.int .i64 m]).alloc (.cells #[.int .i64 0, .int .i64 0, .string ⟨#[]⟩, .slice none 0 0] 24)).alloc (.cells #[.func (.func 33) #[] #[]] 56)
      simpa using this
  have hst : (store ⟨w.heap.size + 1 + 1 + 1, 0, none⟩ (.func (.func 33) #[] #[])).run Try.prog ((((w.alloc (.cells #[.int .i64 k, .int .i64 n, .string b, .slice A ar.length c] 24)).alloc (.cells #[.int .i64 m] 3)).alloc (.cells #[.int .i64 0, .int .i64 0, .string ⟨#[]⟩, .slice none 0 0] 24)).alloc (.cells #[.nilFunc] 56)) = .ok () ((((w.alloc (.cells #[.int .i64 k, .int .i64 n, .string b, .slice A ar.length c] 24)).alloc (.cells #[.int .i64 m] 3)).alloc (.cells #[.int .i64 0, .int .i64 0, .string ⟨#[]⟩, .slice none 0 0] 24)).alloc (.cells #[.func (.func 33) #[] #[]] 56)) := by
    have hb := Plot.new (((w.alloc (.cells #[.int .i64 k, .int .i64 n, .string b, .slice A ar.length c] 24)).alloc (.cells #[.int .i64 m] 3)).alloc (.cells #[.int .i64 0, .int .i64 0, .string ⟨#[]⟩, .slice none 0 0] 24)) 56 #[.nilFunc]
    have e := setCell_new (((w.alloc (.cells #[.int .i64 k, .int .i64 n, .string b, .slice A ar.length c] 24)).alloc (.cells #[.int .i64 m] 3)).alloc (.cells #[.int .i64 0, .int .i64 0, .string ⟨#[]⟩, .slice none 0 0] 24)) .nilFunc (.func (.func 33) #[] #[]) 56
    have h := run_store_func (P := Try.prog) (f := .func 33) (x := #[]) (y := #[]) (hb.cell 0) (hb.frozen 0)
    rw [e] at h
    simpa using h
  go_enter Try.func12, Try.ntmps12
  go_wp2_with fail
  refine (ren_said (numShifted_ok (w.heap.size + 1 + 1 + 1) (w.heap.size + 1) m) ar k n b _ () _ (hs.below hW) hi hn).mono ?_
  rintro e w1 ⟨v', rfl, h1, _, h3⟩
  rw [show (numShifted (w.heap.size + 1 + 1 + 1) (w.heap.size + 1) m).s1 k n () = () from rfl, ren_shifted] at h1
  rw [show (numShifted (w.heap.size + 1 + 1 + 1) (w.heap.size + 1) m).v1 k n () = shiftN k n m from rfl]
  obtain ⟨A5, c5, rfl, h5⟩ := h1.form
  have b5 := b3.chg h3 (fun h => h.elim)
  obtain ⟨d0, d1, d2, d3, df⟩ := b5.four
  have hz1 := h3.size
  go_wp2_with fail
  refine bodyPost_ret (v := .agg #[.int .i64 k, .int .i64 (shiftN k n m), .string b, .slice A5 (ar.shift m).length c5]) (by simp [results, Try.results12, go_sem, d0, d1, d2, d3]) rfl ⟨_, rfl, ?_, ?_⟩
  · refine (h5.keep (w' := _) fun k hk _ => ?_).any
    simp at hk
    simp only [World.setCell, Array.getElem?_modify]
    repeat rw [if_neg (by omega)]
  · refine (((Below.setCell ?_ (by simp; omega) _).setCell (by simp; omega) _).setCell (by simp; omega) _).setCell (by simp; omega) _
    exact hW.trans (h3.below (by simp; omega) fun _ h _ => h.elim)

theorem Ts.tidyFrom_app (D R : Ts) (ks : List Int) : (D.app R).tidyFrom ks = ((D.tidyFrom ks).1.app (R.tidyFrom (D.tidyFrom ks).2).1, (R.tidyFrom (D.tidyFrom ks).2).2) := Ts.ren_app _ D R ks

def tV (k n : Int) (ks : List Int) : Int := if k = 0 then numV ks n else n
def tS (k n : Int) (ks : List Int) : List Int := if k = 0 then numS ks n else ks
theorem Ts.tidyFrom_cons (k n : Int) (s : ByteArray) (ar r : Ts) (ks : List Int) : (Ts.cons k n s ar r).tidyFrom ks = (.cons k (tV k n ks) s (ar.tidyFrom (tS k n ks)).1 (r.tidyFrom (ar.tidyFrom (tS k n ks)).2).1, (r.tidyFrom (ar.tidyFrom (tS k n ks)).2).2) := rfl

/-- What holds at the head of Tidied's loop. W: the world in which the map lies, w: the first. -/
structure TdRel (w : World) (T D R : Ts) (u : Value) (xs : List Value) (wr : World) : Prop where
  split : T = D.app R
  own : wr.ownsRow (w.heap.size + 2) 24 4 u D.length xs
  cs : Cs wr (fun k => w.heap.size + 2 ≤ k ∧ u.ownBlock ≠ some k) (D.tidyFrom []).1 xs
  inv : (numTidied (w.heap.size + 1) w.heap.size).inv (D.tidyFrom []).2 wr
  chg : Below w.heap.size w wr
  size : w.heap.size + 2 ≤ wr.heap.size
def TdLoop (w : World) (T : Ts) (g : Nat) (s4 s10 : Value) (wr : World) : Prop := ∃ D R xs, TdRel w T D R s4 xs wr ∧ g = R.length ∧ s10 = .int .i64 D.length

theorem TdRel.step {w wr W w3 : World} {T D r ar : Ts} {k n : Int} {s : ByteArray} {u v3 v : Value} {xs : List Value}
    (h : TdRel w T D (.cons k n s ar r) u xs wr) (hC : Chg (fun k => k = w.heap.size) wr W)
    (hv : Sl W (fun k => wr.heap.size ≤ k) v (ar.tidyFrom (tS k n (D.tidyFrom []).2)).1) (hI : (numTidied (w.heap.size + 1) w.heap.size).inv (ar.tidyFrom (tS k n (D.tidyFrom []).2)).2 W)
    (ho3 : w3.ownsRow (w.heap.size + 2) 24 4 v3 (D.length + 1) (xs ++ [.int .i64 k, .int .i64 (tV k n (D.tidyFrom []).2), .string s, v]))
    (hg : W.grownBy w3 u.ownBlock) (hat : v3.ownBlock = u.ownBlock ∨ v3.ownBlock = some W.heap.size) :
    TdRel w T (D.app (.cons k n s ar .nil)) r v3 (xs ++ [.int .i64 k, .int .i64 (tV k n (D.tidyFrom []).2), .string s, v]) w3 := by
  have hlt := h.own.lt
  have hz := h.size
  have hWs := hC.size
  have e : (D.app (.cons k n s ar .nil)).tidyFrom [] = ((D.tidyFrom []).1.app (.cons k (tV k n (D.tidyFrom []).2) s (ar.tidyFrom (tS k n (D.tidyFrom []).2)).1 .nil), (ar.tidyFrom (tS k n (D.tidyFrom []).2)).2) := by
    rw [Ts.tidyFrom_app]; rfl
  have hu : ∀ k, u.ownBlock = some k → w.heap.size + 2 ≤ k ∧ k < wr.heap.size := fun k hk => hlt k hk
  refine ⟨by rw [h.split, Ts.app_assoc]; rfl, by rw [Ts.length_app]; exact ho3, ?_, ?_, ?_, by have := hg.size; omega⟩
  · rw [e]
    have h1 : Cs W (fun k => (w.heap.size + 2 ≤ k ∧ v3.ownBlock ≠ some k) ∧ u.ownBlock ≠ some k) ((D.tidyFrom []).1.app (.cons k (tV k n (D.tidyFrom []).2) s (ar.tidyFrom (tS k n (D.tidyFrom []).2)).1 .nil)) (xs ++ [.int .i64 k, .int .i64 (tV k n (D.tidyFrom []).2), .string s, v]) := by
      refine Cs.app ?_ ⟨v, [], rfl, ?_, rfl⟩
      · refine (h.cs.imp (q := fun k => (w.heap.size + 2 ≤ k ∧ v3.ownBlock ≠ some k) ∧ u.ownBlock ≠ some k) fun k hk hl => ⟨⟨hk.1, ?_⟩, hk.2⟩).keep fun k hk hl => hC.block k hl (by omega)
        rcases hat with e | e <;> rw [e]
        · exact hk.2
        · intro e2; simp at e2; omega
      · refine hv.imp fun k hk hl => ⟨⟨by omega, ?_⟩, ?_⟩
        · rcases hat with e | e <;> rw [e]
          · intro e2; have := hu k e2; omega
          · intro e2; simp at e2; omega
        · intro e2; have := hu k e2; omega
    exact (h1.keep (w' := w3) fun k hk hl => hg.block k hl (fun e => hk.2 e.symm)).imp fun k hk _ => hk.1
  · rw [e]
    refine (numTidied_ok _ _).keep _ W _ hI fun k hk => ?_
    have h1 := (numTidied_ok _ _).lt _ _ _ hI hk
    refine hg.block k h1 (fun e => ?_)
    have := hu _ e.symm
    have e2 : k = w.heap.size + 1 ∨ k = w.heap.size := hk
    omega
  · refine (h.chg.trans (hC.below (by omega) fun k hk _ => by omega)).grown hg (by omega) fun k hk => by have := hu k hk; omega

set_option maxHeartbeats 400000 in
theorem tidied_any (T : Ts) (v : Value) (w : World) (hv : Sl w (fun _ => True) v T) (hn : T.nodes ≤ 1048576) :
    Calls Try.prog 16 #[v] w fun e w' => ∃ v', e = .returned v' ∧ Sl w' (fun k => w.heap.size ≤ k) v' T.tidy ∧ Below w.heap.size w w' := by
  obtain ⟨A, c, rfl, hs⟩ := hv.form
  have hle := T.length_le
  obtain ⟨i0, hi0, hz0, hz1, hz2⟩ := info_parts info_term
  have hmk := run_makeMap (P := Try.prog) 59
  have hW : Below w.heap.size w ((w.alloc (.map #[] 0)).alloc (.cells #[.map (some w.heap.size)] 59)) := ((Below.refl _ _).alloc (Nat.le_refl _) _).alloc (by simp) _
  have h0 : TdLoop w T T.length (.slice none 0 0) (.int .i64 0) ((w.alloc (.map #[] 0)).alloc (.cells #[.map (some w.heap.size)] 59)) := by
    refine ⟨.nil, T, [], ⟨rfl, World.ownsRow_nil _ _ _ _, rfl, ⟨?_, ?_⟩, hW, by simp⟩, rfl, rfl⟩
    · have := Plot.new (w.alloc (.map #[] 0)) 59 #[.map (some w.heap.size)]
      simpa using this
    · exact (MapIs.made w).keep (Below.heap_alloc _ _ _ (by simp))
  go_enter Try.func16, Try.ntmps16
  go_wp2_with fail
  go_loopg [4, 10] T.length (TdLoop w T)
  case atStart => exact h0
  case round =>
    clear h0
    obtain ⟨D, R, xs, hrel, hg, rfl⟩ := hrel
    have HG := Lib.hid hg
    clear hg
    obtain ⟨Au, cu, hu⟩ := own_form hrel.own
    subst hu
    cases R with
    | nil =>
      have e1 : D.length = T.length := by rw [hrel.split, Ts.app_nil]
      have eD : D = T := by rw [hrel.split, Ts.app_nil]
      subst eD
      have hsl : Sl wr (fun k => w.heap.size ≤ k) (.slice Au D.length cu) D.tidy := by
        have h1 := hrel.own
        have e : (D.tidyFrom []).1.length = D.length := Ts.length_ren _ D []
        rw [← e] at h1
        have h2 := Sl.own h1 (hrel.cs.imp fun k hk _ => hk.1) fun g hg => (h1.lt g hg).1
        rw [e] at h2
        exact h2.imp fun k hk _ => by omega
      have hb := hrel.chg
      clear hrel
      go_wp2_with fail
      go_ret
      exact ⟨_, rfl, hsl, hb⟩
    | cons k n s ar r =>
      have hI := hrel.inv
      have e1 : D.length < T.length := by rw [hrel.split, Ts.length_app]; simp [Ts.length]
      have e2 : ar.nodes ≤ 1048576 := by
        have h := hrel.split
        rw [h, Ts.nodes_app] at hn
        simp [Ts.nodes] at hn
        omega
      have hsl : Sl wr (fun k => k < w.heap.size) (.slice A T.length c) (D.app (.cons k n s ar r)) := by
        rw [← hrel.split]
        exact (hs.imp (q := fun k => k < w.heap.size) fun k _ h => h).below hrel.chg
      obtain ⟨b1, o1, rfl, hq1⟩ := Sl.at_ hsl (by simp [Ts.length])
      obtain ⟨_, c10, c11, c12, ⟨v1, c13, hv1⟩, _⟩ := seg_cons.1 hq1
      obtain ⟨A1, d1, rfl, hv1⟩ := hv1.form
      have hz := hrel.size
      have hI1 : (numTidied (w.heap.size + 1) w.heap.size).inv (D.tidyFrom []).2 (wr.alloc (.cells #[.int .i64 k, .int .i64 n, .string s, .slice A1 ar.length d1] 24)) :=
        (numTidied_ok _ _).keep _ wr _ hI fun k hk => Below.heap_alloc _ _ _ ((numTidied_ok _ _).lt _ _ _ hI hk)
      clear hq1 hsl
      go_wp2_with fail
      refine (ren_said (numTidied_ok (w.heap.size + 1) w.heap.size) ar k n s _ _ _ (hv1.any.below ((Below.refl _ _).alloc (Nat.le_refl _) _)) hI1 e2).mono ?_
      rintro e w2 ⟨v', rfl, hv', hI2, hc2⟩
      rw [show (numTidied (w.heap.size + 1) w.heap.size).v1 k n (D.tidyFrom []).2 = tV k n (D.tidyFrom []).2 from rfl]
      rw [ren_tidied, show (numTidied (w.heap.size + 1) w.heap.size).s1 k n (D.tidyFrom []).2 = tS k n (D.tidyFrom []).2 from rfl] at hv' hI2
      obtain ⟨Aw, cw, rfl, hv'⟩ := hv'.form
      have hzz : wr.heap.size < w2.heap.size := by have := hc2.size; simp at this; omega
      have hC3 : Chg (fun k => k = w.heap.size) wr (w2.alloc (.cells #[.int .i64 k, .int .i64 (tV k n (D.tidyFrom []).2), .string s, .slice Aw (ar.tidyFrom (tS k n (D.tidyFrom []).2)).1.length cw] 24)) := (((Chg.refl _ wr).alloc _).trans hc2 fun _ _ h => h).alloc _
      have hI3 : (numTidied (w.heap.size + 1) w.heap.size).inv (ar.tidyFrom (tS k n (D.tidyFrom []).2)).2 (w2.alloc (.cells #[.int .i64 k, .int .i64 (tV k n (D.tidyFrom []).2), .string s, .slice Aw (ar.tidyFrom (tS k n (D.tidyFrom []).2)).1.length cw] 24)) := (numTidied_ok _ _).keep _ w2 _ hI2 fun k hk => Below.heap_alloc _ _ _ ((numTidied_ok _ _).lt _ _ _ hI2 hk)
      have hv3 : Sl (w2.alloc (.cells #[.int .i64 k, .int .i64 (tV k n (D.tidyFrom []).2), .string s, .slice Aw (ar.tidyFrom (tS k n (D.tidyFrom []).2)).1.length cw] 24)) (fun k => wr.heap.size ≤ k) (.slice Aw (ar.tidyFrom (tS k n (D.tidyFrom []).2)).1.length cw) (ar.tidyFrom (tS k n (D.tidyFrom []).2)).1 :=
        (hv'.below ((Below.refl _ _).alloc (Nat.le_refl _) _)).imp fun k hk _ => by simp at hk; omega
      have ho3 := own_chg hrel.own hC3 fun g hg => by have := (hrel.own.lt g hg).1; omega
      go_wp2_with (at_builtin; refine wpList_append_at _ rfl (.tmp 14) (.tmp 18) _ rfl (w.heap.size + 2) 24 i0 _ 4 56 Try.underlying22 hi0 hz0 hz1 hz2 rfl (by omega) (.slice Au D.length cu) D.length xs rfl ho3 ⟨w2.heap.size, 0, none⟩ 1 1 [.int .i64 k, .int .i64 (tV k n (D.tidyFrom []).2), .string s, .slice Aw (ar.tidyFrom (tS k n (D.tidyFrom []).2)).1.length cw] rfl rfl (cell_lit w2 _ _) (by simp [Value.oneCell']) (by simp only [maxLen]; omega) (by omega) (by simp; omega) ?next)
      case next =>
        intro v3 w3 hov hg hat
        have hat' : v3.ownBlock = (Value.slice Au D.length cu).ownBlock ∨ v3.ownBlock = some (w2.alloc (.cells #[.int .i64 k, .int .i64 (tV k n (D.tidyFrom []).2), .string s, .slice Aw (ar.tidyFrom (tS k n (D.tidyFrom []).2)).1.length cw] 24)).heap.size := by simpa using hat
        have hstep := TdRel.step hrel hC3 hv3 hI3 hov hg hat'
        clear hat hat' hov
        go_wp2_with fail
        go_roundg r.length
        case measure => rw [HG.out]; simp [Ts.length]
        case rel =>
          refine ⟨_, _, _, hstep, rfl, ?_⟩
          rw [Ts.length_app]; rfl
end Go.Proofs.Ytdiophafmokfiaa
namespace Go.Proofs.Ytdiophafmokfiaa
open Go.RowKit
set_option linter.unusedVariables false

/-- A term: its kind, number, name and arguments. -/
structure Tm where
  k : Int
  n : Int
  s : ByteArray
  ar : Ts
def Tm.shift (t : Tm) (m : Int) : Tm := ⟨t.k, shiftN t.k t.n m, t.s, t.ar.shift m⟩
/-- What is bound, the newest ahead. -/
abbrev Bnd := List (Int × Tm)
def bget (v : Int) : Bnd → Option Tm
  | [] => none
  | x :: r => if v = x.1 then some x.2 else bget v r
def lookF (B : Bnd) : Nat → Tm → Tm
  | 0, t => t
  | f + 1, t => if t.k = 0 then match bget t.n B with | none => t | some u => lookF B f u else t
def lookM (B : Bnd) (t : Tm) : Tm := lookF B B.length t
/-- No variable is bound twice; who is bound to a variable is bound to one that was free then. -/
def Bok : Bnd → Prop
  | [] => True
  | x :: r => bget x.1 r = none ∧ (x.2.k = 0 → x.2.n ≠ x.1 ∧ bget x.2.n r = none) ∧ Bok r

def anyL (g : Tm → Nat → Bool × Nat) : Ts → Nat → Bool × Nat
  | .nil, w => (false, w)
  | .cons k n s a r, w => if (g ⟨k, n, s, a⟩ w).1 = true then (true, (g ⟨k, n, s, a⟩ w).2) else anyL g r (g ⟨k, n, s, a⟩ w).2
/-- Does the variable v occur in t? And the work. -/
def occM (B : Bnd) (v : Int) : Nat → Tm → Nat → Bool × Nat
  | 0, _, w => (false, w + 1)
  | f + 1, t, w => if 400 < w + 1 then (false, w + 1) else if (lookM B t).k = 0 then (decide ((lookM B t).n = v), w + 1) else anyL (occM B v f) (lookM B t).ar (w + 1)

structure Us where
  ok : Bool
  B : Bnd
  w : Nat
def allL (g : Tm → Tm → Bnd → Nat → Us) : Ts → Ts → Bnd → Nat → Us
  | .cons k n s a r, .cons k' n' s' a' r', B, w => if (g ⟨k, n, s, a⟩ ⟨k', n', s', a'⟩ B w).ok = true then allL g r r' (g ⟨k, n, s, a⟩ ⟨k', n', s', a'⟩ B w).B (g ⟨k, n, s, a⟩ ⟨k', n', s', a'⟩ B w).w else g ⟨k, n, s, a⟩ ⟨k', n', s', a'⟩ B w
  | _, _, B, w => ⟨true, B, w⟩
def asgM (v : Int) (t : Tm) (B : Bnd) (w : Nat) : Us :=
  if (occM B v 401 t w).1 = true ∨ 400 < (occM B v 401 t w).2 then ⟨false, B, (occM B v 401 t w).2⟩ else ⟨true, (v, t) :: B, (occM B v 401 t w).2⟩
/-- Two that are no variables agree at the top. -/
def alikeT (x y : Tm) : Bool := decide (x.k = y.k) && decide (x.n = y.n) && decide (x.s = y.s) && decide (x.ar.length = y.ar.length)
def uniM : Nat → Tm → Tm → Bnd → Nat → Us
  | 0, _, _, B, w => ⟨false, B, w + 1⟩
  | f + 1, a, b, B, w => if 400 < w + 1 then ⟨false, B, w + 1⟩ else
    if (lookM B a).k = 0 then
      if (lookM B b).k = 0 then ⟨true, if (lookM B a).n = (lookM B b).n then B else ((lookM B a).n, lookM B b) :: B, w + 1⟩
      else asgM (lookM B a).n (lookM B b) B (w + 1)
    else if (lookM B b).k = 0 then asgM (lookM B b).n (lookM B a) B (w + 1)
    else if alikeT (lookM B a) (lookM B b) = true then allL (uniM f) (lookM B a).ar (lookM B b).ar B (w + 1)
    else ⟨false, B, w + 1⟩

def mapL (g : Tm → Nat → Option (Tm × Nat)) : Ts → Nat → Option (Ts × Nat)
  | .nil, l => some (.nil, l)
  | .cons k n s a r, l => match g ⟨k, n, s, a⟩ l with
    | none => none
    | some (t, l') => match mapL g r l' with
      | none => none
      | some (T, l'') => some (.cons t.k t.n t.s t.ar T, l'')
/-- A term with all bindings applied, and how many nodes are left; none: there are not enough. -/
def appM (B : Bnd) : Nat → Tm → Nat → Option (Tm × Nat)
  | 0, _, _ => none
  | f + 1, t, l => if l = 0 then none else match mapL (appM B f) (lookM B t).ar (l - 1) with
    | none => none
    | some (T, l') => some (⟨(lookM B t).k, (lookM B t).n, (lookM B t).s, T⟩, l')

/-- A pending goal, and how many choice points a cut leaves. -/
abbrev Gl := Tm × Nat
structure Ch where
  g : Gl
  next : List Gl
  cls : List Cl
  bound : Nat
structure SS where
  B : Bnd
  fresh : Nat
  fuel : Nat
  goals : List Gl
  ch : List Ch
  ev : List Ts
def undoM (B : Bnd) (n : Nat) : Bnd := B.drop (B.length - n)
def bodyG : Ts → Int → Nat → List Gl → List Gl
  | .nil, _, _, rest => rest
  | .cons k n s a r, m, o, rest => (Tm.shift ⟨k, n, s, a⟩ m, o) :: bodyG r m o rest
def cntC : List Ch → Nat
  | [] => 0
  | c :: r => c.cls.length + cntC r
def Cl.head (c : Cl) : Tm := ⟨c.k, c.n, c.s, c.hd⟩
def popC (c : Ch) (more : List Cl) (cs : List Ch) : List Ch := match more with
  | [] => cs
  | _ :: _ => ⟨c.g, c.next, more, c.bound⟩ :: cs
/-- Back to the last choice point, till a clause is taken. The number says how often, at most. -/
def retryM : Nat → SS → Int × SS
  | 0, s => (2, s)
  | f + 1, s => match s.ch with
    | [] => (2, s)
    | c :: cs => match c.cls with
      | [] => (2, s)
      | cl :: more =>
        let r := uniM 401 (cl.head.shift s.fresh) c.g.1 (undoM s.B c.bound) 0
        let s' : SS := ⟨r.B, s.fresh + cl.vars.toNat, s.fuel, s.goals, popC c more cs, s.ev⟩
        if 400 < r.w then (4, s')
        else if r.ok = true then (0, ⟨s'.B, s'.fresh, s'.fuel, bodyG cl.bd s.fresh cs.length c.next, s'.ch, s'.ev⟩)
        else retryM f s'
def againM (s : SS) : Int × SS := retryM (cntC s.ch + 1) s
def SS.setB (s : SS) (B : Bnd) : SS := ⟨B, s.fresh, s.fuel, s.goals, s.ch, s.ev⟩
def equalM (a b : Tm) (s : SS) : Int × SS :=
  let r := uniM 401 a b s.B 0
  if 400 < r.w then (4, s.setB r.B) else if r.ok = true then (0, s.setB r.B) else againM (s.setB r.B)
def Ts.at_ : Ts → Nat → Tm
  | .nil, _ => ⟨0, 0, ⟨#[]⟩, .nil⟩
  | .cons k n s a _, 0 => ⟨k, n, s, a⟩
  | .cons _ _ _ _ r, i + 1 => r.at_ i
def lessM (T : Ts) (s : SS) : Int × SS :=
  let a := lookM s.B (T.at_ 0)
  let b := lookM s.B (T.at_ 1)
  if a.k ≠ 2 ∨ b.k ≠ 2 then (5, s) else if b.n ≤ a.n then againM s else (0, s)
def addM (T : Ts) (s : SS) : Int × SS :=
  let a := lookM s.B (T.at_ 0)
  let b := lookM s.B (T.at_ 1)
  if a.k ≠ 2 ∨ b.k ≠ 2 then (5, s) else if a.n + b.n < -1099511627776 ∨ 1099511627776 < a.n + b.n then (5, s)
  else equalM (T.at_ 2) ⟨2, a.n + b.n, ⟨#[]⟩, .nil⟩ s
def builtM (g : Gl) (s : SS) : Int × SS :=
  if g.1.s.toList = [33] then (0, ⟨s.B, s.fresh, s.fuel, s.goals, s.ch.drop (s.ch.length - g.2), s.ev⟩)
  else if g.1.s.toList = [116, 114, 117, 101] then (0, s)
  else if g.1.s.toList = [101, 113] then equalM (g.1.ar.at_ 0) (g.1.ar.at_ 1) s
  else if g.1.s.toList = [108, 101, 115, 115] then lessM g.1.ar s
  else if g.1.s.toList = [97, 100, 100] then addM g.1.ar s
  else againM s
/-- The terms of so many variables from v on. -/
def varsM (B : Bnd) : Nat → Nat → Nat → Option (Ts × Nat)
  | 0, _, l => some (.nil, l)
  | m + 1, v, l => match appM B 201 ⟨0, v, ⟨#[]⟩, .nil⟩ l with
    | none => none
    | some (t, l') => match varsM B m (v + 1) l' with
      | none => none
      | some (T, l'') => some (.cons t.k t.n t.s t.ar T, l'')
def answerM (vars : Nat) (s : SS) : Int × SS := match varsM s.B vars 0 200 with
  | none => (4, s)
  | some (T, _) =>
    let s' : SS := ⟨s.B, s.fresh, s.fuel, s.goals, s.ch, s.ev ++ [T.tidy]⟩
    if s'.ev.length = 12 then (6, s') else againM s'
def fitsC (g : Tm) (c : Cl) : Bool := decide (c.s = g.s) && decide (c.hd.length = g.ar.length)
def stepM (p : List Cl) (vars : Nat) (s : SS) : Int × SS := match s.goals with
  | [] => answerM vars s
  | g :: rest =>
    if s.fuel = 0 then (3, s)
    else if builtB g.1.s.toList g.1.ar.length = true then builtM g ⟨s.B, s.fresh, s.fuel - 1, rest, s.ch, s.ev⟩
    else match p.filter (fitsC g.1) with
      | [] => (5, ⟨s.B, s.fresh, s.fuel - 1, rest, s.ch, s.ev⟩)
      | c :: cs => againM ⟨s.B, s.fresh, s.fuel - 1, rest, ⟨g, rest, c :: cs, s.B.length⟩ :: s.ch, s.ev⟩
/-- Events: a kind, and terms. -/
abbrev Ev := Int × Ts
def evsOf (l : List Ts) : List Ev := l.map fun T => (1, T)
def runM (p : List Cl) (vars : Nat) : Nat → SS → List Ev
  | 0, _ => []
  | n + 1, s => if (stepM p vars s).1 = 0 then runM p vars n (stepM p vars s).2 else evsOf (stepM p vars s).2.ev ++ [((stepM p vars s).1, .nil)]
def startM (q : Ts) (vars fuel : Nat) : SS := ⟨[], vars, fuel, bodyG q 0 0 [], [], []⟩
/-- What All answers. -/
def allM (p : List Cl) (q : Ts) (vars fuel : Int) : List Ev × Int :=
  if pB p = false ∨ qB vars q = false then ([], 1)
  else if fuel < 0 ∨ 150 < fuel then ([], 2)
  else (runM p vars.toNat 4000 (startM q vars.toNat fuel.toNat), 0)
end Go.Proofs.Ytdiophafmokfiaa
namespace Go.Proofs.Ytdiophafmokfiaa
open Go.RowKit
set_option linter.unusedVariables false
set_option linter.unusedSimpArgs false

def MapO (es : Array MapEntry) (ents : List (Int × Value)) : Prop := es.toList.map (fun e => (e.key, e.val)) = ents.map (fun x => (Value.int .i64 x.1, x.2))
/-- The zero value of the elements of a map keyed by int. -/
def zeroM (P : Program) (t : TypeId) : Option Value := match P.underlying t with
  | some (.map kt et) => match P.underlying kt with
    | some (.int .i64) => zeroP P et
    | _ => none
  | _ => none
theorem zeroM_some {P : Program} {t : TypeId} {z : Value} (h : zeroM P t = some z) : ∃ kt et, P.underlying t = some (.map kt et) ∧ P.underlying kt = some (.int .i64) ∧ zeroP P et = some z := by
  unfold zeroM at h
  split at h
  · rename_i kt et hu
    split at h
    · rename_i hk; exact ⟨kt, et, hu, hk, h⟩
    · cases h
  · cases h
section
variable {P : Program} {n : Nat} {e : Env} {w : World} {Q : Exit → Act → World → Prop} {ops : Array Oper} {rest : List Oper} {ty : TypeId} {pos : String} {after : Array Edge} {d : Nat}
variable {M : List Nat} {w0 : World} {H H' : List (Nat × Obj)} {F : List (World → Prop)} {mb : Nat} {es : Array MapEntry} {clk : Nat} {ents : List (Int × Value)} {x y u : Operand} {v z : Value} {dst : Option Nat} {t kt : TypeId} {i : Int}
theorem run_lookup_t (hS : St M w0 H F w) (hx : ev n e x = .map (some mb)) (hy : ev n e y = .int .i64 i) (hT : zeroM P t = some z) (hat : At H mb (.map es clk)) (hm : MapO es ents) (hg : aget i ents = some v) :
    (execOp (ev n e) ⟨dst, .lookup t x y true, ty, pos, after, none⟩).run P w = .ok (.value (.tuple #[v, .bool true])) w := by
  obtain ⟨kt, et, h1, h2, h3⟩ := zeroM_some hT
  have hl := MapIs.lookup (P := P) (w := w) (mb := mb) (ents := ents) ⟨es, clk, hS.at_ hat, hm⟩ h1 h2 (run_zeroP h3) i true
  simp only [execOp, hx, hy]
  simp only [bind, pure]
  rw [Sem.run_bind', hl, hg]
  rfl
theorem run_lookup_f (hS : St M w0 H F w) (hx : ev n e x = .map (some mb)) (hy : ev n e y = .int .i64 i) (hT : zeroM P t = some z) (hat : At H mb (.map es clk)) (hm : MapO es ents) (hg : aget i ents = none) :
    (execOp (ev n e) ⟨dst, .lookup t x y true, ty, pos, after, none⟩).run P w = .ok (.value (.tuple #[z, .bool false])) w := by
  obtain ⟨kt, et, h1, h2, h3⟩ := zeroM_some hT
  have hl := MapIs.lookup (P := P) (w := w) (mb := mb) (ents := ents) ⟨es, clk, hS.at_ hat, hm⟩ h1 h2 (run_zeroP h3) i true
  simp only [execOp, hx, hy]
  simp only [bind, pure]
  rw [Sem.run_bind', hl, hg]
  rfl
theorem run_eqlS_t {t2 : TypeId} {a c : ByteArray} (hx : ev n e x = .string a) (hy : ev n e y = .string c) (h : a = c) : (execOp (ev n e) ⟨dst, .binOp .eql t x y t2, ty, pos, after, none⟩).run P w = .ok (.value (.bool true)) w := by
  have : (execOp (ev n e) ⟨dst, .binOp .eql t x y t2, ty, pos, after, none⟩).run P w = .ok (.value (.bool (a.toList == c.toList))) w := by simp only [execOp, hx, hy]; rfl
  rw [this, h]; simp
theorem run_eqlS_f {t2 : TypeId} {a c : ByteArray} (hx : ev n e x = .string a) (hy : ev n e y = .string c) (h : a ≠ c) : (execOp (ev n e) ⟨dst, .binOp .eql t x y t2, ty, pos, after, none⟩).run P w = .ok (.value (.bool false)) w := by
  have : (execOp (ev n e) ⟨dst, .binOp .eql t x y t2, ty, pos, after, none⟩).run P w = .ok (.value (.bool (a.toList == c.toList))) w := by simp only [execOp, hx, hy]; rfl
  have h2 : (a.toList == c.toList) = false := by
    rw [beq_eq_false_iff_ne]; exact fun e => h (str_eq.1 e)
  rw [this, h2]
theorem run_neqS_f {t2 : TypeId} {a c : ByteArray} (hx : ev n e x = .string a) (hy : ev n e y = .string c) (h : a = c) : (execOp (ev n e) ⟨dst, .binOp .neq t x y t2, ty, pos, after, none⟩).run P w = .ok (.value (.bool false)) w := by
  have : (execOp (ev n e) ⟨dst, .binOp .neq t x y t2, ty, pos, after, none⟩).run P w = .ok (.value (.bool (!(a.toList == c.toList)))) w := by simp only [execOp, hx, hy]; rfl
  rw [this, h]; simp
theorem run_neqS_t {t2 : TypeId} {a c : ByteArray} (hx : ev n e x = .string a) (hy : ev n e y = .string c) (h : a ≠ c) : (execOp (ev n e) ⟨dst, .binOp .neq t x y t2, ty, pos, after, none⟩).run P w = .ok (.value (.bool true)) w := by
  have : (execOp (ev n e) ⟨dst, .binOp .neq t x y t2, ty, pos, after, none⟩).run P w = .ok (.value (.bool (!(a.toList == c.toList)))) w := by simp only [execOp, hx, hy]; rfl
  have h2 : (a.toList == c.toList) = false := by
    rw [beq_eq_false_iff_ne]; exact fun e => h (str_eq.1 e)
  rw [this, h2]; rfl
theorem lst_makeMap (hS : St M w0 H F w) (hd : Nat.blt d n = true) (h : ∀ b w', St M w0 ((b, .map #[] 0) :: H) F w' → Lst P Q ops rest n ((d, .map (some b)) :: e) w') :
    Lst P Q ops (⟨some d, .makeMap t none, ty, pos, after, none⟩ :: rest) n e w := by
  refine lst_run (v := .map (some w.heap.size)) (w' := w.alloc (.map #[] 0)) ?_ hd (h _ _ (hS.alloc _))
  have := run_makeMap (P := P) t w
  simp only [execOp, Option.map_none, bind, pure]
  rw [Sem.run_bind', this]
  rfl
theorem lst_mapNew (hS : St M w0 H F w) (hx : ev n e x = .map (some mb)) (hy : ev n e y = .int .i64 i) (hu : ev n e u = v) (hT : zeroM P t = some z) (hm : MapO es ents) (hg : aget i ents = none)
    (hU : Upd H mb (.map es clk) (.map (es.push { key := .int .i64 i, val := v, born := clk }) (clk + 1)) H')
    (h : ∀ w', MapO (es.push { key := .int .i64 i, val := v, born := clk }) (ents ++ [(i, v)]) → St M w0 H' F w' → Lst P Q ops rest n e w') :
    Lst P Q ops (⟨none, .mapUpdate t x y u, ty, pos, after, none⟩ :: rest) n e w := by
  obtain ⟨kt, et, h1, h2, h3⟩ := zeroM_some hT
  have hb := hS.at_ hU.at_
  have hf := findNow_ints i es.toList ents 0 hm
  rw [aidx_none.2 hg] at hf
  refine lst_skip0 (w' := { w with heap := w.heap.setIfInBounds mb (.map (es.push { key := .int .i64 i, val := v, born := clk }) (clk + 1)) }) ?_ (h _ ?_ (hS.turn hU ⟨rfl, rfl, rfl, by simp, fun k _ hk => (MapKept.heap_set hb).2 k (by simpa using hk)⟩ (MapKept.heap_set hb).1))
  · have : (Instr.mapUpdate t (.map (some mb)) (.int .i64 i) v).run P w = .ok () { w with heap := w.heap.setIfInBounds mb (.map (es.push { key := .int .i64 i, val := v, born := clk }) (clk + 1)) } := by
      simp [Instr.mapUpdate, run_underlying h1, MapKept.run_getObj_map hb, MapKept.run_checkKey h2 (isKey_int i), MapKept.run_findKey h2 hf, MapKept.run_setObj_map _ hb, Result.andThen]
    simp only [execOp, hx, hy, hu, bind, pure]
    rw [Sem.run_bind', this]
    rfl
  · unfold MapO at hm ⊢
    rw [Array.toList_push, List.map_append, List.map_append, hm]; rfl
theorem map_erase {α β : Type} (f : α → β) : ∀ (l : List α) (i : Nat), (l.eraseIdx i).map f = (l.map f).eraseIdx i
  | [], _ => rfl
  | _ :: _, 0 => rfl
  | a :: l, i + 1 => by simp [map_erase f l i]
theorem aidx_mid {A C : List (Int × Value)} (hA : aget i A = none) : ∀ j, aidx i (A ++ (i, v) :: C) j = some (j + A.length, v) := by
  induction A with
  | nil => intro j; simp [aidx]
  | cons a A ih =>
    intro j
    simp only [aget] at hA
    by_cases e1 : i = a.1
    · simp [e1] at hA
    · rw [if_neg e1] at hA
      simp only [List.cons_append, aidx, if_neg e1]
      rw [ih hA (j + 1)]
      simp; omega
theorem lst_delete {A C : List (Int × Value)} {ts : Array TypeId} (hS : St M w0 H F w) (hx : ev n e x = .map (some mb)) (hy : ev n e y = .int .i64 i) (hts : ts[0]? = some t) (hT : zeroM P t = some z) (hm : MapO es (A ++ (i, v) :: C)) (hA : aget i A = none)
    (hU : Upd H mb (.map es clk) (.map (es.eraseIdxIfInBounds A.length) clk) H')
    (h : ∀ w', MapO (es.eraseIdxIfInBounds A.length) (A ++ C) → St M w0 H' F w' → Lst P Q ops rest n e w') :
    Lst P Q ops (⟨none, .call ⟨.builtin .delete, #[x, y], ts⟩, ty, pos, after, none⟩ :: rest) n e w := by
  obtain ⟨kt, et, h1, h2, h3⟩ := zeroM_some hT
  have hb := hS.at_ hU.at_
  have hf := findNow_ints i es.toList _ 0 hm
  rw [aidx_mid hA 0, Nat.zero_add] at hf
  refine lst_run0 (v := .tuple #[]) (w' := { w with heap := w.heap.setIfInBounds mb (.map (es.eraseIdxIfInBounds A.length) clk) }) ?_ (h _ ?_ (hS.turn hU ⟨rfl, rfl, rfl, by simp, fun k _ hk => (MapKept.heap_set hb).2 k (by simpa using hk)⟩ (MapKept.heap_set hb).1))
  · have : (Builtin.delete_ ts ty #[.map (some mb), .int .i64 i]).run P w = .ok (.tuple #[]) { w with heap := w.heap.setIfInBounds mb (.map (es.eraseIdxIfInBounds A.length) clk) } := by
      simp [Builtin.delete_, hts, run_underlying h1, MapKept.run_getObj_map hb, MapKept.run_checkKey h2 (isKey_int i), MapKept.run_findKey h2 hf, MapKept.run_setObj_map _ hb, Result.andThen]
    simp only [execOp, resolve, List.map_toArray, List.map_cons, List.map_nil, hx, hy, bind, pure, Sem.bind, invoke, builtin]
    rw [Sem.run_bind', this]
    rfl
  · unfold MapO at hm ⊢
    have e1 : (es.eraseIdxIfInBounds A.length).toList = es.toList.eraseIdx A.length := by
      unfold Array.eraseIdxIfInBounds
      split
      · simp
      · rename_i hl
        rw [List.eraseIdx_of_length_le]
        simpa using hl
    rw [e1, map_erase, hm, ← map_erase, List.eraseIdx_append_of_length_le (Nat.le_refl _)]
    simp
end

/-- A list of terms, and where the arguments of each lie. -/
inductive TA where
  | nil
  | cons (k n : Int) (s : ByteArray) (A : Option Addr) (c : Nat) (ar r : TA)
def TA.ts : TA → Ts
  | .nil => .nil
  | .cons k n s _ _ ar r => .cons k n s ar.ts r.ts
def TA.len : TA → Nat
  | .nil => 0
  | .cons _ _ _ _ _ _ r => r.len + 1
def TA.app : TA → TA → TA
  | .nil, y => y
  | .cons k n s A c ar r, y => .cons k n s A c ar (r.app y)
theorem TA.len_ts (T : TA) : T.ts.length = T.len := by
  induction T with
  | nil => rfl
  | cons k n s A c ar r _ ih => simp only [TA.ts, Ts.length, TA.len, ih]
theorem TA.app_ts (T U : TA) : (T.app U).ts = T.ts.app U.ts := by
  induction T with
  | nil => rfl
  | cons k n s A c ar r _ ih => simp only [TA.app, TA.ts, Ts.app, ih]
theorem TA.len_app (T U : TA) : (T.app U).len = T.len + U.len := by
  induction T with
  | nil => simp [TA.app, TA.len]
  | cons k n s A c ar r _ ih => simp only [TA.app, TA.len, ih]; omega
theorem TA.app_nil (T : TA) : T.app .nil = T := by
  induction T with
  | nil => rfl
  | cons k n s A c ar r _ ih => simp only [TA.app, ih]
theorem TA.app_assoc (a b c : TA) : (a.app b).app c = a.app (b.app c) := by
  induction a with
  | nil => rfl
  | cons k n s A c ar r _ ih => simp only [TA.app, ih]
/-- A term, and where its arguments lie. -/
structure LT where
  k : Int
  n : Int
  s : ByteArray
  A : Option Addr
  c : Nat
  ar : TA
def LT.tm (t : LT) : Tm := ⟨t.k, t.n, t.s, t.ar.ts⟩
abbrev tcs (t : LT) : List Value := [.int .i64 t.k, .int .i64 t.n, .string t.s, .slice t.A t.ar.len t.c]
abbrev tv (t : LT) : Value := .agg #[.int .i64 t.k, .int .i64 t.n, .string t.s, .slice t.A t.ar.len t.c]
/-- The terms T lie from cell o of block b on. -/
def SegA (w : World) : TA → Nat → Nat → Prop
  | .nil, _, _ => True
  | .cons k n s A c ar r, b, o => w.cell? ⟨b, o, none⟩ = some (.int .i64 k) ∧ w.cell? ⟨b, o + 1, none⟩ = some (.int .i64 n) ∧ w.cell? ⟨b, o + 2, none⟩ = some (.string s) ∧
      w.cell? ⟨b, o + 3, none⟩ = some (.slice A ar.len c) ∧ (ar.len ≤ c ∧ (0 < ar.len → ∃ b' o', A = some ⟨b', o', none⟩ ∧ SegA w ar b' o')) ∧ SegA w r b (o + 4)
def ArA (A : Option Addr) (c : Nat) (T : TA) (w : World) : Prop := T.len ≤ c ∧ (0 < T.len → ∃ b o, A = some ⟨b, o, none⟩ ∧ SegA w T b o)
/-- The arguments of t may be read where they are said to lie. -/
def LRd (t : LT) (w : World) : Prop := ArA t.A t.c t.ar w
theorem segA_cons {w : World} {k n : Int} {s : ByteArray} {A : Option Addr} {c : Nat} {ar r : TA} {b o : Nat} : SegA w (.cons k n s A c ar r) b o ↔ w.cell? ⟨b, o, none⟩ = some (.int .i64 k) ∧ w.cell? ⟨b, o + 1, none⟩ = some (.int .i64 n) ∧ w.cell? ⟨b, o + 2, none⟩ = some (.string s) ∧
      w.cell? ⟨b, o + 3, none⟩ = some (.slice A ar.len c) ∧ ArA A c ar w ∧ SegA w r b (o + 4) := Iff.rfl
theorem SegA.skip {w : World} {R : TA} {b : Nat} : ∀ {D : TA} {o : Nat}, SegA w (D.app R) b o → SegA w R b (o + D.len * 4) := by
  intro D
  induction D with
  | nil => intro o h; simpa [TA.len, TA.app] using h
  | cons k n s A c ar r _ ih =>
    intro o h
    have := ih (segA_cons.1 h).2.2.2.2.2
    rw [show (TA.cons k n s A c ar r).len = r.len + 1 from rfl, show o + (r.len + 1) * 4 = o + 4 + r.len * 4 by omega]
    exact this
/-- The term behind D. -/
theorem ArA.at_ {w : World} {A : Option Addr} {c : Nat} {D r : TA} {k n : Int} {s : ByteArray} {A' : Option Addr} {c' : Nat} {ar : TA} (h : ArA A c (D.app (.cons k n s A' c' ar r)) w) :
    ∃ b o, A = some ⟨b, o, none⟩ ∧ w.cell? ⟨b, o + D.len * 4, none⟩ = some (.int .i64 k) ∧ w.cell? ⟨b, o + D.len * 4 + 1, none⟩ = some (.int .i64 n) ∧ w.cell? ⟨b, o + D.len * 4 + 2, none⟩ = some (.string s) ∧
      w.cell? ⟨b, o + D.len * 4 + 3, none⟩ = some (.slice A' ar.len c') ∧ LRd ⟨k, n, s, A', c', ar⟩ w := by
  obtain ⟨_, hs⟩ := h
  obtain ⟨b, o, rfl, hseg⟩ := hs (by rw [TA.len_app]; simp only [TA.len]; omega)
  obtain ⟨h0, h1, h2, h3, h4, _⟩ := segA_cons.1 hseg.skip
  exact ⟨b, o, rfl, h0, h1, h2, h3, h4⟩
theorem ArA.some_ {w : World} {A : Option Addr} {c : Nat} {T : TA} (h : ArA A c T w) (hl : 0 < T.len) : ∃ b o, A = some ⟨b, o, none⟩ := by
  obtain ⟨b, o, e, _⟩ := h.2 hl
  exact ⟨b, o, e⟩
theorem ArA.cells {w : World} {b o : Nat} {c : Nat} {D r : TA} {k n : Int} {s : ByteArray} {A' : Option Addr} {c' : Nat} {ar : TA} (h : ArA (some ⟨b, o, none⟩) c (D.app (.cons k n s A' c' ar r)) w) :
    w.cell? ⟨b, o + D.len * 4, none⟩ = some (.int .i64 k) ∧ w.cell? ⟨b, o + D.len * 4 + 1, none⟩ = some (.int .i64 n) ∧ w.cell? ⟨b, o + D.len * 4 + 2, none⟩ = some (.string s) ∧ w.cell? ⟨b, o + D.len * 4 + 3, none⟩ = some (.slice A' ar.len c') := by
  obtain ⟨b', o', e, h0, h1, h2, h3, _⟩ := h.at_
  simp only [Option.some.injEq, Addr.mk.injEq, and_true] at e
  obtain ⟨rfl, rfl⟩ := e
  exact ⟨h0, h1, h2, h3⟩
theorem ArA.sub {w : World} {A : Option Addr} {c : Nat} {D r : TA} {k n : Int} {s : ByteArray} {A' : Option Addr} {c' : Nat} {ar : TA} (h : ArA A c (D.app (.cons k n s A' c' ar r)) w) : LRd ⟨k, n, s, A', c', ar⟩ w := by
  obtain ⟨_, _, _, _, _, _, _, h⟩ := h.at_; exact h
theorem SegA.seg {w : World} {T : TA} : ∀ {b o : Nat}, SegA w T b o → Seg w (fun _ => True) T.ts b o := by
  induction T with
  | nil => intros; trivial
  | cons k n s A c ar r iha ihr =>
    rintro b o ⟨h0, h1, h2, h3, ⟨h4, h5⟩, h6⟩
    refine ⟨trivial, h0, h1, h2, ⟨A, c, by rw [TA.len_ts]; exact h3, by rw [TA.len_ts]; exact h4, fun hl => ?_⟩, ihr h6⟩
    rw [TA.len_ts] at hl
    obtain ⟨b', o', e, hs⟩ := h5 hl
    exact ⟨b', o', e, iha hs⟩
theorem ArA.sl {w : World} {A : Option Addr} {c : Nat} {T : TA} (h : ArA A c T w) : Sl w (fun _ => True) (.slice A T.len c) T.ts :=
  ⟨A, c, by rw [TA.len_ts], by rw [TA.len_ts]; exact h.1, fun hl => by
    rw [TA.len_ts] at hl
    obtain ⟨b, o, e, hs⟩ := h.2 hl
    exact ⟨b, o, e, hs.seg⟩⟩
/-- What reads as terms lies somewhere, and goes on to read so. -/
theorem Seg.locate {w : World} {p : Nat → Prop} {T : Ts} : ∀ {b o : Nat}, Seg w p T b o → ∃ L : TA, L.ts = T ∧ ∀ w' : World, (∀ k, p k → k < w.heap.size → w'.heap[k]? = w.heap[k]?) → SegA w' L b o := by
  induction T with
  | nil => intro b o _; exact ⟨.nil, rfl, fun _ _ => trivial⟩
  | cons k n s ar r iha ihr =>
    rintro b o ⟨h1, h2, h3, h4, ⟨A, c, h5, h6, h7⟩, h8⟩
    obtain ⟨R, hR, hR'⟩ := ihr h8
    have key : ∃ L : TA, L.ts = ar ∧ ∀ w' : World, (∀ k, p k → k < w.heap.size → w'.heap[k]? = w.heap[k]?) → L.len ≤ c ∧ (0 < L.len → ∃ b' o', A = some ⟨b', o', none⟩ ∧ SegA w' L b' o') := by
      by_cases hl : 0 < ar.length
      · obtain ⟨b', o', e, h9⟩ := h7 hl
        obtain ⟨L, hL, hL'⟩ := iha h9
        exact ⟨L, hL, fun w' hw => ⟨by rw [← TA.len_ts, hL]; exact h6, fun _ => ⟨b', o', e, hL' w' hw⟩⟩⟩
      · refine ⟨.nil, (Ts.nil_of_length (by omega)).symm, fun w' hw => ⟨by simp [TA.len], fun h => by simp [TA.len] at h⟩⟩
    obtain ⟨L, hL, hL'⟩ := key
    have e1 : L.len = ar.length := by rw [← TA.len_ts, hL]
    refine ⟨.cons k n s A c L R, by simp only [TA.ts, hL, hR], fun w' hw => ?_⟩
    have e := hw b h1 (lt_of_cell h2)
    refine ⟨?_, ?_, ?_, ?_, hL' w' hw, hR' w' hw⟩
    · rw [World.cell?_of_block (w := w) (w' := w') (a := ⟨b, o, none⟩) e]; exact h2
    · rw [World.cell?_of_block (w := w) (w' := w') (a := ⟨b, o + 1, none⟩) e]; exact h3
    · rw [World.cell?_of_block (w := w) (w' := w') (a := ⟨b, o + 2, none⟩) e]; exact h4
    · rw [World.cell?_of_block (w := w) (w' := w') (a := ⟨b, o + 3, none⟩) e, e1]; exact h5
theorem Sl.locate {w : World} {p : Nat → Prop} {T : Ts} {v : Value} (h : Sl w p v T) : ∃ (A : Option Addr) (c : Nat) (L : TA), v = .slice A L.len c ∧ L.ts = T ∧ ∀ w' : World, (∀ k, p k → k < w.heap.size → w'.heap[k]? = w.heap[k]?) → ArA A c L w' := by
  obtain ⟨A, c, rfl, h6, h7⟩ := h
  by_cases hl : 0 < T.length
  · obtain ⟨b', o', e, h9⟩ := h7 hl
    obtain ⟨L, hL, hL'⟩ := h9.locate
    have e1 : L.len = T.length := by rw [← TA.len_ts, hL]
    exact ⟨A, c, L, by rw [e1], hL, fun w' hw => ⟨by rw [e1]; exact h6, fun _ => ⟨b', o', e, hL' w' hw⟩⟩⟩
  · have e0 : T.length = 0 := by omega
    exact ⟨A, c, .nil, by rw [e0]; rfl, (Ts.nil_of_length e0).symm, fun w' hw => ⟨by simp [TA.len], fun h => by simp [TA.len] at h⟩⟩
section
variable {M : List Nat} {w0 w w' : World} {H : List (Nat × Obj)} {F : List (World → Prop)} {v : Value} {T : Ts}
/-- A list of terms that a call has made and handed back. -/
theorem St.located (hS : St M w0 H F w) (hb : Below w.heap.size w w') (h : Sl w' (fun b => w.heap.size ≤ b) v T) : ∃ (A : Option Addr) (c : Nat) (L : TA), v = .slice A L.len c ∧ L.ts = T ∧ St M w0 H (ArA A c L :: F) w' := by
  obtain ⟨A, c, L, h1, h2, h3⟩ := h.locate
  refine ⟨A, c, L, h1, h2, (hS.grow hb).learn fun w2 hx => h3 w2 fun k hk hl => hx.block k hl fun hm => ?_⟩
  have := hS.keys_lt hm
  omega
/-- A list of terms that was there. -/
theorem St.located0 (hS : St [] w0 H F w) {p : Nat → Prop} (h : Sl w0 p v T) : ∃ (A : Option Addr) (c : Nat) (L : TA), v = .slice A L.len c ∧ L.ts = T ∧ St [] w0 H (ArA A c L :: F) w := by
  obtain ⟨A, c, L, h1, h2, h3⟩ := h.locate
  exact ⟨A, c, L, h1, h2, hS.base fun w2 hx => h3 w2 fun k hk hl => hx.block k hl (by simp)⟩
end

/-- A binding: the variable, the term, and where its arguments lie. -/
structure GB where
  v : Int
  t : LT
def bnd (G : List GB) : Bnd := G.map fun x => (x.v, x.t.tm)
def ents (G : List GB) : List (Int × Value) := (G.map fun x => (x.v, tv x.t)).reverse
def trailV (G : List GB) : List Value := (G.map fun x => Value.int .i64 x.v).reverse
def GRd (G : List GB) (w : World) : Prop := ∀ x ∈ G, LRd x.t w
def gget (v : Int) : List GB → Option GB
  | [] => none
  | x :: r => if v = x.v then some x else gget v r
theorem bget_gget (v : Int) : ∀ G : List GB, bget v (bnd G) = (gget v G).map (·.t.tm)
  | [] => rfl
  | x :: r => by
    show (if v = x.v then some x.t.tm else bget v (bnd r)) = _
    simp only [gget]
    by_cases e : v = x.v
    · rw [if_pos e, if_pos e]; rfl
    · rw [if_neg e, if_neg e]; exact bget_gget v r
theorem aget_snoc (v : Int) (y : Int × Value) : ∀ A : List (Int × Value), aget v (A ++ [y]) = (aget v A).orElse fun _ => if v = y.1 then some y.2 else none
  | [] => by simp [aget]
  | x :: r => by
    simp only [List.cons_append, aget]
    by_cases e : v = x.1
    · rw [if_pos e, if_pos e]; rfl
    · rw [if_neg e, if_neg e]; exact aget_snoc v y r
theorem ents_cons (x : GB) (G : List GB) : ents (x :: G) = ents G ++ [(x.v, tv x.t)] := by simp [ents]
theorem trail_cons (x : GB) (G : List GB) : trailV (x :: G) = trailV G ++ [.int .i64 x.v] := by simp [trailV]
theorem trail_len (G : List GB) : (trailV G).length = G.length := by simp [trailV]
theorem bnd_len (G : List GB) : (bnd G).length = G.length := by simp [bnd]
theorem aget_gget (v : Int) : ∀ G : List GB, Bok (bnd G) → aget v (ents G) = (gget v G).map fun x => tv x.t
  | [], _ => rfl
  | x :: r, h => by
    have ih := aget_gget v r h.2.2
    rw [ents_cons, aget_snoc, ih]
    simp only [gget]
    by_cases e : v = x.v
    · have h0 : bget x.v (bnd r) = none := h.1
      rw [bget_gget, Option.map_eq_none_iff] at h0
      rw [if_pos e, if_pos e, e, h0]; rfl
    · rw [if_neg e, if_neg e]
      cases gget v r <;> rfl
theorem gget_mem {v : Int} : ∀ {G : List GB} {x : GB}, gget v G = some x → x ∈ G ∧ x.v = v
  | y :: r, x, h => by
    simp only [gget] at h
    by_cases e : v = y.v
    · rw [if_pos e] at h; cases h; exact ⟨.head _, e.symm⟩
    · rw [if_neg e] at h
      obtain ⟨h1, h2⟩ := gget_mem h
      exact ⟨.tail _ h1, h2⟩
/-- The bindings G in memory: the map's pairs, the trail's row, what may be read. -/
structure BM (G : List GB) (it : TypeId) (es : Array MapEntry) (TR : Value) (O : List (Nat × Obj)) (F : List (World → Prop)) : Prop where
  mp : MapO es (ents G)
  row : Row it 1 TR G.length (trailV G) O
  rd : Und F (GRd G)
  ok : Bok (bnd G)
theorem BM.tail {G : List GB} {it : TypeId} {es : Array MapEntry} {TR : Value} {O : List (Nat × Obj)} {F : List (World → Prop)} {φ : World → Prop} (h : BM G it es TR O F) : BM G it es TR O (φ :: F) := ⟨h.mp, h.row, h.rd.tail, h.ok⟩
theorem BM.mono {G : List GB} {it : TypeId} {es : Array MapEntry} {TR : Value} {O : List (Nat × Obj)} {F F' : List (World → Prop)} (h : BM G it es TR O F) (hs : ∀ φ ∈ F, φ ∈ F') : BM G it es TR O F' := ⟨h.mp, h.row, h.rd.mono hs, h.ok⟩
end Go.Proofs.Ytdiophafmokfiaa
namespace Go.Proofs.Ytdiophafmokfiaa
set_option linter.unusedVariables false

theorem bget_app (v : Int) (Y : Bnd) : ∀ X : Bnd, bget v (X ++ Y) = (bget v X).orElse fun _ => bget v Y
  | [] => by simp [bget]
  | x :: r => by
    simp only [List.cons_append, bget]
    by_cases e : v = x.1
    · rw [if_pos e, if_pos e]; rfl
    · rw [if_neg e, if_neg e]; exact bget_app v Y r
theorem Bok.drop {B : Bnd} (h : Bok B) : ∀ m, Bok (B.drop m) := by
  induction B with
  | nil => intro m; simpa using h
  | cons x r ih =>
    intro m
    cases m with
    | zero => exact h
    | succ m => exact ih h.2.2 m
theorem bget_pos {v : Int} {u : Tm} : ∀ {B : Bnd}, bget v B = some u → ∃ p, p < B.length ∧ B.drop p = (v, u) :: B.drop (p + 1)
  | [], h => by cases h
  | x :: r, h => by
    simp only [bget] at h
    by_cases e : v = x.1
    · rw [if_pos e] at h
      cases h
      exact ⟨0, by simp, by simp [e]⟩
    · rw [if_neg e] at h
      obtain ⟨p, h1, h2⟩ := bget_pos h
      exact ⟨p + 1, by simp; omega, by simpa using h2⟩
/-- What t stands for, if it is bound at all, was bound among the newest m. -/
def Clear (B : Bnd) (m : Nat) (t : Tm) : Prop := t.k = 0 → bget t.n (B.drop m) = none
theorem Clear.step {B : Bnd} {m : Nat} {t u : Tm} (hB : Bok B) (h : Clear B m t) (hk : t.k = 0) (hg : bget t.n B = some u) : ∃ p, p < m ∧ Clear B p u := by
  obtain ⟨p, hp, hd⟩ := bget_pos hg
  refine ⟨p, ?_, fun hu => ?_⟩
  · rcases Nat.lt_or_ge p m with hl | hl
    · exact hl
    · exfalso
      have h0 := h hk
      have e : B.drop m = (B.drop m).take (p - m) ++ B.drop p := by
        conv => lhs; rw [← List.take_append_drop (p - m) (B.drop m)]
        rw [List.drop_drop, show m + (p - m) = p by omega]
      rw [e, bget_app, hd] at h0
      have h1 : bget t.n ((t.n, u) :: B.drop (p + 1)) = some u := by simp [bget]
      rw [h1] at h0
      cases hx : bget t.n ((B.drop m).take (p - m)) <;> rw [hx] at h0 <;> cases h0
  · have hb := hB.drop p
    rw [hd] at hb ⊢
    obtain ⟨h1, h2, h3⟩ := hb
    obtain ⟨h4, h5⟩ := h2 hu
    simp only [bget]
    rw [if_neg h4]; exact h5
theorem Clear.start (B : Bnd) (t : Tm) : Clear B B.length t := fun _ => by simp [bget]
theorem lookF_nonvar {B : Bnd} {t : Tm} (h : t.k ≠ 0) : ∀ f, lookF B f t = t
  | 0 => rfl
  | f + 1 => by simp [lookF, h]
theorem lookF_free {B : Bnd} {t : Tm} (h : bget t.n B = none) : ∀ f, lookF B f t = t
  | 0 => rfl
  | f + 1 => by simp [lookF, h]
theorem lookF_step {B : Bnd} {t u : Tm} (hk : t.k = 0) (h : bget t.n B = some u) (f : Nat) : lookF B (f + 1) t = lookF B f u := by simp [lookF, hk, h]
theorem lookF_enough {B : Bnd} (hB : Bok B) : ∀ (p : Nat) (t : Tm), Clear B p t → ∀ f, p ≤ f → lookF B f t = lookF B p t := by
  intro p
  induction p using Nat.strongRecOn with
  | _ p ih =>
    intro t hc f hf
    by_cases hk : t.k = 0
    · cases hg : bget t.n B with
      | none => rw [lookF_free hg, lookF_free hg]
      | some u =>
        obtain ⟨q, hq, hcq⟩ := hc.step hB hk hg
        obtain ⟨f, rfl⟩ : ∃ f', f = f' + 1 := ⟨f - 1, by omega⟩
        obtain ⟨p, rfl⟩ : ∃ p', p = p' + 1 := ⟨p - 1, by omega⟩
        rw [lookF_step hk hg, lookF_step hk hg, ih q hq u hcq f (by omega), ih q hq u hcq p (by omega)]
    · rw [lookF_nonvar hk, lookF_nonvar hk]
theorem look_nonvar {B : Bnd} {t : Tm} (h : t.k ≠ 0) : lookM B t = t := lookF_nonvar h _
theorem look_free {B : Bnd} {t : Tm} (h : bget t.n B = none) : lookM B t = t := lookF_free h _
theorem look_bound {B : Bnd} {t u : Tm} (hB : Bok B) (hk : t.k = 0) (h : bget t.n B = some u) : lookM B t = lookM B u := by
  obtain ⟨p, hp, hc⟩ := (Clear.start B t).step hB hk h
  unfold lookM
  have : B.length = (B.length - 1) + 1 := by omega
  conv => lhs; rw [this, lookF_step hk h]
  exact (lookF_enough hB p u hc _ (by omega)).trans (lookF_enough hB p u hc _ (by omega)).symm
theorem lookF_end {B : Bnd} (hB : Bok B) : ∀ (p : Nat) (t : Tm), Clear B p t → (lookF B p t).k = 0 → bget (lookF B p t).n B = none := by
  intro p
  induction p using Nat.strongRecOn with
  | _ p ih =>
    intro t hc
    by_cases hk : t.k = 0
    · cases hg : bget t.n B with
      | none => rw [lookF_free hg]; exact fun _ => hg
      | some u =>
        obtain ⟨q, hq, hcq⟩ := hc.step hB hk hg
        obtain ⟨p, rfl⟩ : ∃ p', p = p' + 1 := ⟨p - 1, by omega⟩
        rw [lookF_step hk hg, lookF_enough hB q u hcq p (by omega)]
        exact ih q hq u hcq
    · rw [lookF_nonvar hk]; exact fun h => absurd h hk
/-- What is found is free, or no variable. -/
theorem look_end {B : Bnd} (hB : Bok B) (t : Tm) (h : (lookM B t).k = 0) : bget (lookM B t).n B = none := lookF_end hB _ t (Clear.start B t) h
theorem look_look {B : Bnd} (hB : Bok B) (t : Tm) : lookM B (lookM B t) = lookM B t := by
  by_cases h : (lookM B t).k = 0
  · exact look_free (look_end hB t h)
  · exact look_nonvar h
/-- What is found is the term itself, or is one that is bound. -/
theorem lookF_mem {B : Bnd} : ∀ (f : Nat) (t : Tm), lookF B f t = t ∨ ∃ x ∈ B, lookF B f t = x.2
  | 0, t => .inl rfl
  | f + 1, t => by
    by_cases hk : t.k = 0
    · cases hg : bget t.n B with
      | none => exact .inl (lookF_free hg _)
      | some u =>
        rw [lookF_step hk hg]
        have hm : ∃ x ∈ B, u = x.2 := by
          obtain ⟨p, _, hd⟩ := bget_pos hg
          exact ⟨(t.n, u), List.mem_of_mem_drop (i := p) (by rw [hd]; exact .head _), rfl⟩
        rcases lookF_mem f u with h | h
        · rw [h]; exact .inr hm
        · exact .inr h
    · exact .inl (lookF_nonvar hk _)
theorem look_mem {B : Bnd} (t : Tm) : lookM B t = t ∨ ∃ x ∈ B, lookM B t = x.2 := lookF_mem _ t
end Go.Proofs.Ytdiophafmokfiaa
namespace Go.Proofs.Ytdiophafmokfiaa
open Go.RowKit
set_option linter.unusedVariables false
set_option linter.unusedSimpArgs false
set_option maxRecDepth 100000
set_option maxHeartbeats 1000000

abbrev pt (b : Nat) : Value := .pointer (some ⟨b, 0, none⟩)
abbrev tob (t : LT) : Obj := .cells (tcs t).toArray 24
abbrev sob (mb : Nat) (TR : Value) (rest : List Value) : Obj := .cells (.map (some mb) :: TR :: rest).toArray 72
section
variable {M : List Nat} {w0 : World} {H : List (Nat × Obj)} {F : List (World → Prop)} {b mb clk : Nat} {es : Array MapEntry} {TR : Value} {rest : List Value} {O : List (Nat × Obj)} {G : List GB}
theorem look_any (t : LT) (w : World) (hB : BM G 3 es TR O F) (hA : Und F (LRd t)) (hS : St M w0 ((b, sob mb TR rest) :: (mb, .map es clk) :: H) F w) :
    Calls Try.prog 62 #[pt b, tv t] w fun e w' => ∃ u : LT, e = .returned (tv u) ∧ u.tm = lookM (bnd G) t.tm ∧ Und F (LRd u) ∧ St M w0 ((b, sob mb TR rest) :: (mb, .map es clk) :: H) F w' := by
  have hmap := hB.mp
  refine goes_enter2 Try.func62 rfl Try.ntmps62 rfl ?_
  refine goes_seq ?_
  refine goes_region ?_
  refine lst_box hS rfl rfl ?_
  clear hS
  intro b1 wx1 hS
  refine lst_alloc (cs := [_, _, _, _]) hS rfl rfl rfl ?_
  clear hS
  intro b2 wx2 hS
  refine lst_done ?_
  refine goes_seq ?_
  refine goes_block ?_
  refine goes_loop0  (7 :: 8 :: 9 :: 11 :: 12 :: 13 :: 14 :: 15 :: 16 :: 17 :: 10 :: 18 :: 19 :: 5 :: 6 :: 20 :: 21 :: 22 :: 23 :: []) (fun (x : Nat × LT) w' => Clear (bnd G) x.1 x.2.tm ∧ lookF (bnd G) x.1 x.2.tm = lookM (bnd G) t.tm ∧ Und F (LRd x.2) ∧ St M w0 ((b2, .cells [.int .i64 0, .int .i64 0, .string ⟨#[]⟩, .slice none 0 0].toArray 24) :: (b1, tob x.2) :: (b, sob mb TR rest) :: (mb, .map es clk) :: H) F w') (fun x => x.1) (((bnd G).length, t)) ?_ ?_
  · exact ⟨Clear.start _ _, rfl, hA, hS⟩
  clear hS
  rintro ⟨m, u⟩ w2 jv ⟨hc, hl, hu, hS⟩ ih
  dsimp only at hc hl hu hS
  by_cases hk : u.k = 0
  · refine goes_seq ?_
    refine goes_seq ?_
    refine goes_region ?_
    refine lst_run (run_fieldAddr (off := 0) rfl rfl) rfl ?_
    first
      | refine lst_run (run_load1_own hS rfl rfl (by first | exact .head | exact .tail .head | exact .tail (.tail .head) | exact .tail (.tail (.tail .head)) | exact .tail (.tail (.tail (.tail .head))) | exact .tail (.tail (.tail (.tail (.tail .head))))) (by repeat constructor)) rfl ?_
      | refine lst_run (run_load1 rfl rfl (by first | assumption | exact hS.cell0 (by assumption) | exact lv_next hS | exact lv_list hS)) rfl ?_
    first
      | refine lst_run (run_eql_one_int rfl rfl) rfl ?_
      | refine lst_run (run_eql_no rfl rfl (by first | assumption | omega)) rfl ?_
      | refine lst_run (run_eql_yes rfl rfl (by omega)) rfl ?_
      | refine lst_run (rfl) rfl ?_
    refine lst_done ?_
    refine goes_true rfl ?_
    refine goes_skip ?_
    refine goes_block ?_
    refine goes_seq ?_
    cases hg : gget u.n G with
    | none =>
      have hbg : bget u.n (bnd G) = none := by rw [bget_gget, hg]; rfl
      have hag : aget u.n (ents G) = none := by rw [aget_gget _ _ hB.ok, hg]; rfl
      refine goes_draw (St _ _ _ _) 13 ((0, true) :: (1, true) :: (2, true) :: (3, true) :: (4, true) :: (5, true) :: (6, true) :: (7, true) :: (8, true) :: (9, true) :: (10, false) :: (11, false) :: (12, true) :: []) (by kernel_rfl) (by kernel_rfl) (hS.drew) ?_
      replace hS := hS.drew
      refine ord_read rfl (fun _ hS => run_move (by conv => lhs; whnf)) rfl ?_
      refine ord_read rfl (fun _ hS => run_nilCheck rfl) rfl ?_
      refine ord_read rfl (fun _ hS => run_fieldAddr (off := 0) rfl rfl) rfl ?_
      first
        | refine ord_read rfl (fun _ hS => run_load1_own hS rfl rfl (by first | exact .head | exact .tail .head | exact .tail (.tail .head) | exact .tail (.tail (.tail .head)) | exact .tail (.tail (.tail (.tail .head))) | exact .tail (.tail (.tail (.tail (.tail .head))))) (by repeat constructor)) rfl ?_
        | refine ord_read rfl (fun _ hS => run_load1 rfl rfl (by first | assumption | exact hS.cell0 (by assumption) | exact lv_next hS | exact lv_list hS)) rfl ?_
      refine ord_read rfl (fun _ hS => run_fieldAddr (off := 1) rfl rfl) rfl ?_
      first
        | refine ord_read rfl (fun _ hS => run_load1_own hS rfl rfl (by first | exact .head | exact .tail .head | exact .tail (.tail .head) | exact .tail (.tail (.tail .head)) | exact .tail (.tail (.tail (.tail .head))) | exact .tail (.tail (.tail (.tail (.tail .head))))) (by repeat constructor)) rfl ?_
        | refine ord_read rfl (fun _ hS => run_load1 rfl rfl (by first | assumption | exact hS.cell0 (by assumption) | exact lv_next hS | exact lv_list hS)) rfl ?_
      first
        | refine ord_read rfl (fun _ hS => run_lookup_t hS rfl rfl rfl (by first | exact .head | exact .tail .head | exact .tail (.tail .head) | exact .tail (.tail (.tail .head)) | exact .tail (.tail (.tail (.tail .head))) | exact .tail (.tail (.tail (.tail (.tail .head))))) (by assumption) (by assumption)) rfl ?_
        | refine ord_read rfl (fun _ hS => run_lookup_f hS rfl rfl rfl (by first | exact .head | exact .tail .head | exact .tail (.tail .head) | exact .tail (.tail (.tail .head)) | exact .tail (.tail (.tail (.tail .head))) | exact .tail (.tail (.tail (.tail (.tail .head))))) (by assumption) (by assumption)) rfl ?_
      refine ord_read rfl (fun _ hS => run_move (by conv => lhs; whnf)) rfl ?_
      refine ord_read rfl (fun _ hS => run_extract rfl rfl) rfl ?_
      refine ord_read rfl (fun _ hS => run_extract rfl rfl) rfl ?_
      refine ord_act rfl ?_
      refine lst_alloc (cs := [_, _, _, _]) hS rfl rfl rfl ?_
      clear hS
      intro b3 wx3 hS
      refine lst_ord (by first | exact hS | exact hS.drop | exact hS.drop.drop | exact hS.drop.drop.drop | exact hS.unlearn | exact hS.unlearn.drop | exact hS.unlearn.drop.drop | exact hS.forget (by assumption) | exact hS.drop.forget (by assumption)) ?_
      refine ord_act rfl ?_
      refine lst_storeN hS rfl (by conv => lhs; whnf) rfl rfl (by first | exact .head | exact .tail .head | exact .tail (.tail .head) | exact .tail (.tail (.tail .head)) | exact .tail (.tail (.tail (.tail .head))) | exact .tail (.tail (.tail (.tail (.tail .head))))) (by repeat constructor) (by first | exact .head | exact .tail .head | exact .tail (.tail .head) | exact .tail (.tail (.tail .head)) | exact .tail (.tail (.tail (.tail .head))) | exact .tail (.tail (.tail (.tail (.tail .head))))) ?_
      clear hS
      intro wx4 hS
      refine lst_ord (by first | exact hS | exact hS.drop | exact hS.drop.drop | exact hS.drop.drop.drop | exact hS.unlearn | exact hS.unlearn.drop | exact hS.unlearn.drop.drop | exact hS.forget (by assumption) | exact hS.drop.forget (by assumption)) ?_
      refine ord_read rfl (fun _ hS => run_assign (by conv => lhs; whnf)) rfl ?_
      refine ord_end ?_
      refine lst_done ?_
      refine goes_seq ?_
      refine goes_seq ?_
      refine goes_region ?_
      refine lst_run (run_move (by conv => lhs; whnf)) rfl ?_
      refine lst_run (rfl) rfl ?_
      refine lst_done ?_
      refine goes_true rfl ?_
      refine goes_seq ?_
      refine goes_region ?_
      first
        | refine lst_run (run_loadN_own (k := 4) hS rfl rfl rfl (by first | exact .head | exact .tail .head | exact .tail (.tail .head) | exact .tail (.tail (.tail .head)) | exact .tail (.tail (.tail (.tail .head))) | exact .tail (.tail (.tail (.tail (.tail .head))))) (by repeat constructor)) rfl ?_
        | refine lst_run (run_load4 rfl rfl rfl (by first | assumption | exact hS.cell0 (by assumption)) (by first | assumption | exact hS.cell0 (by assumption)) (by first | assumption | exact hS.cell0 (by assumption)) (by first | assumption | exact hS.cell0 (by assumption))) rfl ?_
      refine lst_storeN hS rfl (by conv => lhs; whnf) rfl rfl (by first | exact .head | exact .tail .head | exact .tail (.tail .head) | exact .tail (.tail (.tail .head)) | exact .tail (.tail (.tail (.tail .head))) | exact .tail (.tail (.tail (.tail (.tail .head))))) (by repeat constructor) (by first | exact .head | exact .tail .head | exact .tail (.tail .head) | exact .tail (.tail (.tail .head)) | exact .tail (.tail (.tail (.tail .head))) | exact .tail (.tail (.tail (.tail (.tail .head))))) ?_
      clear hS
      intro wx5 hS
      refine lst_done ?_
      refine goes_retC (sz := 4) hS Try.func62 rfl rfl rfl rfl (by first | exact .head | exact .tail .head | exact .tail (.tail .head) | exact .tail (.tail (.tail .head)) | exact .tail (.tail (.tail (.tail .head))) | exact .tail (.tail (.tail (.tail (.tail .head))))) (by repeat constructor) ?_
      have e : lookM (bnd G) t.tm = u.tm := by rw [← hl]; exact lookF_free hbg _
      exact ⟨u, rfl, e.symm, hu, hS.drop.drop.drop⟩
    | some x =>
      obtain ⟨xv, xt⟩ := x
      have hbg : bget u.n (bnd G) = some xt.tm := by rw [bget_gget, hg]; rfl
      have hag : aget u.n (ents G) = some (tv xt) := by rw [aget_gget _ _ hB.ok, hg]; rfl
      obtain ⟨hxm, _⟩ := gget_mem hg
      obtain ⟨p, hp, hcp⟩ := hc.step hB.ok hk hbg
      refine goes_draw (St _ _ _ _) 13 ((0, true) :: (1, true) :: (2, true) :: (3, true) :: (4, true) :: (5, true) :: (6, true) :: (7, true) :: (8, true) :: (9, true) :: (10, false) :: (11, false) :: (12, true) :: []) (by kernel_rfl) (by kernel_rfl) (hS.drew) ?_
      replace hS := hS.drew
      refine ord_read rfl (fun _ hS => run_move (by conv => lhs; whnf)) rfl ?_
      refine ord_read rfl (fun _ hS => run_nilCheck rfl) rfl ?_
      refine ord_read rfl (fun _ hS => run_fieldAddr (off := 0) rfl rfl) rfl ?_
      first
        | refine ord_read rfl (fun _ hS => run_load1_own hS rfl rfl (by first | exact .head | exact .tail .head | exact .tail (.tail .head) | exact .tail (.tail (.tail .head)) | exact .tail (.tail (.tail (.tail .head))) | exact .tail (.tail (.tail (.tail (.tail .head))))) (by repeat constructor)) rfl ?_
        | refine ord_read rfl (fun _ hS => run_load1 rfl rfl (by first | assumption | exact hS.cell0 (by assumption) | exact lv_next hS | exact lv_list hS)) rfl ?_
      refine ord_read rfl (fun _ hS => run_fieldAddr (off := 1) rfl rfl) rfl ?_
      first
        | refine ord_read rfl (fun _ hS => run_load1_own hS rfl rfl (by first | exact .head | exact .tail .head | exact .tail (.tail .head) | exact .tail (.tail (.tail .head)) | exact .tail (.tail (.tail (.tail .head))) | exact .tail (.tail (.tail (.tail (.tail .head))))) (by repeat constructor)) rfl ?_
        | refine ord_read rfl (fun _ hS => run_load1 rfl rfl (by first | assumption | exact hS.cell0 (by assumption) | exact lv_next hS | exact lv_list hS)) rfl ?_
      first
        | refine ord_read rfl (fun _ hS => run_lookup_t hS rfl rfl rfl (by first | exact .head | exact .tail .head | exact .tail (.tail .head) | exact .tail (.tail (.tail .head)) | exact .tail (.tail (.tail (.tail .head))) | exact .tail (.tail (.tail (.tail (.tail .head))))) (by assumption) (by assumption)) rfl ?_
        | refine ord_read rfl (fun _ hS => run_lookup_f hS rfl rfl rfl (by first | exact .head | exact .tail .head | exact .tail (.tail .head) | exact .tail (.tail (.tail .head)) | exact .tail (.tail (.tail (.tail .head))) | exact .tail (.tail (.tail (.tail (.tail .head))))) (by assumption) (by assumption)) rfl ?_
      refine ord_read rfl (fun _ hS => run_move (by conv => lhs; whnf)) rfl ?_
      refine ord_read rfl (fun _ hS => run_extract rfl rfl) rfl ?_
      refine ord_read rfl (fun _ hS => run_extract rfl rfl) rfl ?_
      refine ord_act rfl ?_
      refine lst_alloc (cs := [_, _, _, _]) hS rfl rfl rfl ?_
      clear hS
      intro b3 wx3 hS
      refine lst_ord (by first | exact hS | exact hS.drop | exact hS.drop.drop | exact hS.drop.drop.drop | exact hS.unlearn | exact hS.unlearn.drop | exact hS.unlearn.drop.drop | exact hS.forget (by assumption) | exact hS.drop.forget (by assumption)) ?_
      refine ord_act rfl ?_
      refine lst_storeN hS rfl (by conv => lhs; whnf) rfl rfl (by first | exact .head | exact .tail .head | exact .tail (.tail .head) | exact .tail (.tail (.tail .head)) | exact .tail (.tail (.tail (.tail .head))) | exact .tail (.tail (.tail (.tail (.tail .head))))) (by repeat constructor) (by first | exact .head | exact .tail .head | exact .tail (.tail .head) | exact .tail (.tail (.tail .head)) | exact .tail (.tail (.tail (.tail .head))) | exact .tail (.tail (.tail (.tail (.tail .head))))) ?_
      clear hS
      intro wx4 hS
      refine lst_ord (by first | exact hS | exact hS.drop | exact hS.drop.drop | exact hS.drop.drop.drop | exact hS.unlearn | exact hS.unlearn.drop | exact hS.unlearn.drop.drop | exact hS.forget (by assumption) | exact hS.drop.forget (by assumption)) ?_
      refine ord_read rfl (fun _ hS => run_assign (by conv => lhs; whnf)) rfl ?_
      refine ord_end ?_
      refine lst_done ?_
      refine goes_seq ?_
      refine goes_seq ?_
      refine goes_region ?_
      refine lst_run (run_move (by conv => lhs; whnf)) rfl ?_
      refine lst_run (rfl) rfl ?_
      refine lst_done ?_
      refine goes_false rfl ?_
      refine goes_skip ?_
      refine goes_region ?_
      first
        | refine lst_run (run_loadN_own (k := 4) hS rfl rfl rfl (by first | exact .head | exact .tail .head | exact .tail (.tail .head) | exact .tail (.tail (.tail .head)) | exact .tail (.tail (.tail (.tail .head))) | exact .tail (.tail (.tail (.tail (.tail .head))))) (by repeat constructor)) rfl ?_
        | refine lst_run (run_load4 rfl rfl rfl (by first | assumption | exact hS.cell0 (by assumption)) (by first | assumption | exact hS.cell0 (by assumption)) (by first | assumption | exact hS.cell0 (by assumption)) (by first | assumption | exact hS.cell0 (by assumption))) rfl ?_
      refine lst_storeN hS rfl (by conv => lhs; whnf) rfl rfl (by first | exact .head | exact .tail .head | exact .tail (.tail .head) | exact .tail (.tail (.tail .head)) | exact .tail (.tail (.tail (.tail .head))) | exact .tail (.tail (.tail (.tail (.tail .head))))) (by repeat constructor) (by first | exact .head | exact .tail .head | exact .tail (.tail .head) | exact .tail (.tail (.tail .head)) | exact .tail (.tail (.tail (.tail .head))) | exact .tail (.tail (.tail (.tail (.tail .head))))) ?_
      clear hS
      intro wx5 hS
      refine lst_done ?_
      refine goes_inBlock ?_
      refine ih ((p, xt)) _ _ ?_ ?_ (by kernel_rfl)
      · exact hp
      · refine ⟨hcp, ?_, hB.rd.imp fun w h => h _ hxm, hS.drop⟩
        rw [← hl]
        obtain ⟨m, rfl⟩ : ∃ m', m = m' + 1 := ⟨m - 1, by omega⟩
        rw [lookF_step (t := u.tm) hk hbg]; exact (lookF_enough hB.ok p xt.tm hcp m (by omega)).symm
  · refine goes_seq ?_
    refine goes_seq ?_
    refine goes_region ?_
    refine lst_run (run_fieldAddr (off := 0) rfl rfl) rfl ?_
    first
      | refine lst_run (run_load1_own hS rfl rfl (by first | exact .head | exact .tail .head | exact .tail (.tail .head) | exact .tail (.tail (.tail .head)) | exact .tail (.tail (.tail (.tail .head))) | exact .tail (.tail (.tail (.tail (.tail .head))))) (by repeat constructor)) rfl ?_
      | refine lst_run (run_load1 rfl rfl (by first | assumption | exact hS.cell0 (by assumption) | exact lv_next hS | exact lv_list hS)) rfl ?_
    first
      | refine lst_run (run_eql_one_int rfl rfl) rfl ?_
      | refine lst_run (run_eql_no rfl rfl (by first | assumption | omega)) rfl ?_
      | refine lst_run (run_eql_yes rfl rfl (by omega)) rfl ?_
      | refine lst_run (rfl) rfl ?_
    refine lst_done ?_
    refine goes_false rfl ?_
    refine goes_exit rfl ?_
    refine goes_seq ?_
    refine goes_region ?_
    first
      | refine lst_run (run_loadN_own (k := 4) hS rfl rfl rfl (by first | exact .head | exact .tail .head | exact .tail (.tail .head) | exact .tail (.tail (.tail .head)) | exact .tail (.tail (.tail (.tail .head))) | exact .tail (.tail (.tail (.tail (.tail .head))))) (by repeat constructor)) rfl ?_
      | refine lst_run (run_load4 rfl rfl rfl (by first | assumption | exact hS.cell0 (by assumption)) (by first | assumption | exact hS.cell0 (by assumption)) (by first | assumption | exact hS.cell0 (by assumption)) (by first | assumption | exact hS.cell0 (by assumption))) rfl ?_
    refine lst_storeN hS rfl (by conv => lhs; whnf) rfl rfl (by first | exact .head | exact .tail .head | exact .tail (.tail .head) | exact .tail (.tail (.tail .head)) | exact .tail (.tail (.tail (.tail .head))) | exact .tail (.tail (.tail (.tail (.tail .head))))) (by repeat constructor) (by first | exact .head | exact .tail .head | exact .tail (.tail .head) | exact .tail (.tail (.tail .head)) | exact .tail (.tail (.tail (.tail .head))) | exact .tail (.tail (.tail (.tail (.tail .head))))) ?_
    clear hS
    intro wx3 hS
    refine lst_done ?_
    refine goes_retC (sz := 4) hS Try.func62 rfl rfl rfl rfl (by first | exact .head | exact .tail .head | exact .tail (.tail .head) | exact .tail (.tail (.tail .head)) | exact .tail (.tail (.tail (.tail .head))) | exact .tail (.tail (.tail (.tail (.tail .head))))) (by repeat constructor) ?_
    have e : lookM (bnd G) t.tm = u.tm := by rw [← hl]; exact lookF_nonvar hk _
    exact ⟨u, rfl, e.symm, hu, hS.drop.drop⟩
abbrev uob (b : Nat) (work : Nat) : Obj := .cells [pt b, .int .i64 (work : Nat)].toArray 93
theorem large_any (ub k : Nat) (w : World) (hS : St M w0 ((ub, uob b k) :: H) F w) :
    Calls Try.prog 64 #[pt ub] w fun e w' => e = .returned (.bool (decide (400 < k))) ∧ St M w0 ((ub, uob b k) :: H) F w' := by
  by_cases h : 400 < k
  · rw [decide_eq_true h]
    refine goes_enter1 Try.func64 rfl Try.ntmps64 rfl ?_
    refine goes_seq ?_
    refine goes_region ?_
    refine lst_run (run_assign (by conv => lhs; whnf)) rfl ?_
    refine lst_done ?_
    refine goes_seq ?_
    refine goes_region ?_
    refine lst_run (run_move (by conv => lhs; whnf)) rfl ?_
    refine lst_run (run_nilCheck rfl) rfl ?_
    refine lst_run (run_fieldAddr (off := 1) rfl rfl) rfl ?_
    first
      | refine lst_run (run_load1_own hS rfl rfl (by first | exact .head | exact .tail .head | exact .tail (.tail .head) | exact .tail (.tail (.tail .head)) | exact .tail (.tail (.tail (.tail .head))) | exact .tail (.tail (.tail (.tail (.tail .head))))) (by repeat constructor)) rfl ?_
      | refine lst_run (run_load1 rfl rfl (by first | assumption | exact hS.cell0 (by assumption) | exact lv_next hS | exact lv_list hS)) rfl ?_
    first
      | refine lst_run (run_gtr_yes rfl rfl (by omega)) rfl ?_
      | refine lst_run (run_gtr_no rfl rfl (by omega)) rfl ?_
      | refine lst_run (rfl) rfl ?_
    refine lst_run (run_assign (by conv => lhs; whnf)) rfl ?_
    refine lst_done ?_
    refine goes_ret1 Try.func64 rfl (by conv => lhs; whnf) ?_
    exact ⟨rfl, hS⟩
  · rw [decide_eq_false h]
    refine goes_enter1 Try.func64 rfl Try.ntmps64 rfl ?_
    refine goes_seq ?_
    refine goes_region ?_
    refine lst_run (run_assign (by conv => lhs; whnf)) rfl ?_
    refine lst_done ?_
    refine goes_seq ?_
    refine goes_region ?_
    refine lst_run (run_move (by conv => lhs; whnf)) rfl ?_
    refine lst_run (run_nilCheck rfl) rfl ?_
    refine lst_run (run_fieldAddr (off := 1) rfl rfl) rfl ?_
    first
      | refine lst_run (run_load1_own hS rfl rfl (by first | exact .head | exact .tail .head | exact .tail (.tail .head) | exact .tail (.tail (.tail .head)) | exact .tail (.tail (.tail (.tail .head))) | exact .tail (.tail (.tail (.tail (.tail .head))))) (by repeat constructor)) rfl ?_
      | refine lst_run (run_load1 rfl rfl (by first | assumption | exact hS.cell0 (by assumption) | exact lv_next hS | exact lv_list hS)) rfl ?_
    first
      | refine lst_run (run_gtr_yes rfl rfl (by omega)) rfl ?_
      | refine lst_run (run_gtr_no rfl rfl (by omega)) rfl ?_
      | refine lst_run (rfl) rfl ?_
    refine lst_run (run_assign (by conv => lhs; whnf)) rfl ?_
    refine lst_done ?_
    refine goes_ret1 Try.func64 rfl (by conv => lhs; whnf) ?_
    exact ⟨rfl, hS⟩
theorem bind_any (v : Int) (t : LT) (w : World) (hB : BM G 3 es TR O F) (hv : bget v (bnd G) = none) (hn : t.k = 0 → t.n ≠ v ∧ bget t.n (bnd G) = none) (hA : Und F (LRd t)) (hl : G.length ≤ 1099511627776)
    (hS : St M w0 ((b, sob mb TR rest) :: (mb, .map es clk) :: (O ++ H)) F w) :
    Calls Try.prog 65 #[pt b, .int .i64 v, tv t] w fun e w' => ∃ es' clk' TR' O', e = .returned (.tuple #[]) ∧ BM (⟨v, t⟩ :: G) 3 es' TR' O' F ∧ St M w0 ((b, sob mb TR' rest) :: (mb, .map es' clk') :: (O' ++ H)) F w' := by
  have hmap := hB.mp
  have hag : aget v (ents G) = none := by
    rw [aget_gget _ _ hB.ok]
    rw [bget_gget, Option.map_eq_none_iff] at hv
    rw [hv]; rfl
  refine goes_enter3 Try.func65 rfl Try.ntmps65 rfl ?_
  refine goes_seq ?_
  refine goes_region ?_
  refine lst_box hS rfl rfl ?_
  clear hS
  intro b1 wx1 hS
  refine lst_done ?_
  refine goes_seq ?_
  refine goes_draw (St _ _ _ _) 6 ((0, true) :: (1, true) :: (2, true) :: (3, true) :: (4, true) :: (5, true) :: []) (by kernel_rfl) (by kernel_rfl) (hS.drew) ?_
  replace hS := hS.drew
  refine ord_read rfl (fun _ hS => run_move (by conv => lhs; whnf)) rfl ?_
  refine ord_read rfl (fun _ hS => run_nilCheck rfl) rfl ?_
  refine ord_read rfl (fun _ hS => run_fieldAddr (off := 0) rfl rfl) rfl ?_
  first
    | refine ord_read rfl (fun _ hS => run_load1_own hS rfl rfl (by first | exact .head | exact .tail .head | exact .tail (.tail .head) | exact .tail (.tail (.tail .head)) | exact .tail (.tail (.tail (.tail .head))) | exact .tail (.tail (.tail (.tail (.tail .head))))) (by repeat constructor)) rfl ?_
    | refine ord_read rfl (fun _ hS => run_load1 rfl rfl (by first | assumption | exact hS.cell0 (by assumption) | exact lv_next hS | exact lv_list hS)) rfl ?_
  refine ord_read rfl (fun _ hS => run_move (by conv => lhs; whnf)) rfl ?_
  first
    | refine ord_read rfl (fun _ hS => run_loadN_own (k := 4) hS rfl rfl rfl (by first | exact .head | exact .tail .head | exact .tail (.tail .head) | exact .tail (.tail (.tail .head)) | exact .tail (.tail (.tail (.tail .head))) | exact .tail (.tail (.tail (.tail (.tail .head))))) (by repeat constructor)) rfl ?_
    | refine ord_read rfl (fun _ hS => run_load4 rfl rfl rfl (by first | assumption | exact hS.cell0 (by assumption)) (by first | assumption | exact hS.cell0 (by assumption)) (by first | assumption | exact hS.cell0 (by assumption)) (by first | assumption | exact hS.cell0 (by assumption))) rfl ?_
  refine ord_end ?_
  refine lst_mapNew hS rfl rfl (by conv => lhs; whnf) rfl hmap hag (.tail (.tail .head)) ?_
  clear hS
  intro w5 hm' hS
  refine lst_done ?_
  refine goes_region ?_
  refine lst_run (run_move (by conv => lhs; whnf)) rfl ?_
  refine lst_run (run_move (by conv => lhs; whnf)) rfl ?_
  refine lst_run (run_nilCheck rfl) rfl ?_
  refine lst_run (run_fieldAddr (off := 1) rfl rfl) rfl ?_
  first
    | refine lst_run (run_load1_own hS rfl rfl (by first | exact .head | exact .tail .head | exact .tail (.tail .head) | exact .tail (.tail (.tail .head)) | exact .tail (.tail (.tail (.tail .head))) | exact .tail (.tail (.tail (.tail (.tail .head))))) (by repeat constructor)) rfl ?_
    | refine lst_run (run_load1 rfl rfl (by first | assumption | exact hS.cell0 (by assumption) | exact lv_next hS | exact lv_list hS)) rfl ?_
  refine lst_run (run_move (by conv => lhs; whnf)) rfl ?_
  refine lst_buildSlice (cells := [_]) hS (.cons (by conv => lhs; whnf) .nil) rfl rfl ?_
  clear hS
  intro b2 wx2 hS
  refine lst_app (sz := 1) (bts := 8) hS (by conv => lhs; whnf) rfl rfl rfl rfl (hB.row) rfl rfl (.cons _ (List.perm_append_comm_assoc [_, _, _] _ _)) (by omega) (by omega) rfl ?_
  clear hS
  intro v' O' w6 hrow' hS
  obtain ⟨A', c', rfl⟩ := hrow'.form
  replace hS := hS.perm (List.perm_append_comm_assoc O' [_, _, _] _)
  refine lst_run (run_nilCheck rfl) rfl ?_
  refine lst_run (run_fieldAddr (off := 1) rfl rfl) rfl ?_
  refine lst_store1 hS rfl (by conv => lhs; whnf) rfl rfl (by first | exact .head | exact .tail .head | exact .tail (.tail .head) | exact .tail (.tail (.tail .head)) | exact .tail (.tail (.tail (.tail .head))) | exact .tail (.tail (.tail (.tail (.tail .head))))) (by repeat constructor) (by first | exact .head | exact .tail .head | exact .tail (.tail .head) | exact .tail (.tail (.tail .head)) | exact .tail (.tail (.tail (.tail .head))) | exact .tail (.tail (.tail (.tail (.tail .head))))) ?_
  clear hS
  intro wx3 hS
  refine lst_done ?_
  refine goes_end0 Try.func65 rfl ?_
  refine ⟨_, _, _, O', rfl, ⟨by rw [ents_cons]; exact hm', by rw [trail_cons]; exact hrow', ?_, ?_⟩, hS.drop⟩
  · exact fun w h x hx => by
      rcases List.mem_cons.1 hx with rfl | hx
      · exact hA w h
      · exact hB.rd w h x hx
  · exact ⟨hv, hn, hB.ok⟩
/-- Pairs, the oldest ahead. -/
def entsO (l : List GB) : List (Int × Value) := l.map fun x => (x.v, tv x.t)
theorem ents_rev (G : List GB) : ents G = entsO G.reverse := by simp [ents, entsO]
theorem trail_rev (G : List GB) : trailV G = G.reverse.map fun x => Value.int .i64 x.v := by simp [trailV]
/-- Who was bound later is not among the elder ones. -/
theorem newer_free : ∀ (N R : List GB) (x : GB), Bok (bnd (N ++ R)) → x ∈ N → aget x.v (ents R) = none
  | y :: N, R, x, h, hx => by
    have hR : Bok (bnd R) := by
      have := Bok.drop h (y :: N).length
      rw [show bnd (y :: N ++ R) = bnd (y :: N) ++ bnd R by simp [bnd]] at this
      rwa [List.drop_append_of_le_length (by simp [bnd]), show (bnd (y :: N)).drop (y :: N).length = [] by simp [bnd], List.nil_append] at this
    rcases List.mem_cons.1 hx with rfl | hx
    · have h1 : bget x.v (bnd (N ++ R)) = none := h.1
      rw [show bnd (N ++ R) = bnd N ++ bnd R by simp [bnd], bget_app] at h1
      rw [aget_gget _ _ hR]
      have h2 : bget x.v (bnd R) = none := by
        cases hq : bget x.v (bnd N) with
        | none => rw [hq] at h1; simpa using h1
        | some u => rw [hq] at h1; cases h1
      rw [bget_gget, Option.map_eq_none_iff] at h2
      rw [h2]; rfl
    · exact newer_free N R x h.2.2 hx
theorem undo_any (n : Nat) (w : World) (hB : BM G 3 es TR O F) (hn : n ≤ G.length) (hl : G.length ≤ 1099511627776)
    (hS : St M w0 ((b, sob mb TR rest) :: (mb, .map es clk) :: (O ++ H)) F w) :
    Calls Try.prog 59 #[pt b, .int .i64 (n : Nat)] w fun e w' => ∃ es' TR', e = .returned (.tuple #[]) ∧ BM (G.drop (G.length - n)) 3 es' TR' O F ∧ St M w0 ((b, sob mb TR' rest) :: (mb, .map es' clk) :: (O ++ H)) F w' := by
  have hrow := hB.row
  obtain ⟨A, cap, rfl⟩ := hrow.form
  have hcap := hrow.cap
  have hcut := hrow.cut hn
  have hfin : ∀ es', MapO es' (ents (G.drop (G.length - n))) → BM (G.drop (G.length - n)) 3 es' (.slice A n cap) O F := fun es' hm => by
    have e0 : (G.drop (G.length - n)).length = n := by simp; omega
    have e1 : (trailV G).take (n * 1) = trailV (G.drop (G.length - n)) := by
      rw [trail_rev, trail_rev, Nat.mul_one, ← List.map_take, List.take_reverse]
    refine ⟨hm, ?_, hB.rd.imp fun w h x hx => h x (List.mem_of_mem_drop hx), ?_⟩
    · rw [e0, ← e1]; exact hcut
    · have := Bok.drop hB.ok (G.length - n)
      rwa [bnd, ← List.map_drop] at this
  by_cases hlt : n < G.length
  · obtain ⟨g, sp, rfl, rfl, _⟩ := hrow.some_ (by omega)
    generalize hR : G.drop (G.length - n) = R at hfin ⊢
    obtain ⟨N, hN⟩ : ∃ N, G = N ++ R := ⟨G.take (G.length - n), by rw [← hR, List.take_append_drop]⟩
    have hRn : R.length = n := by rw [← hR]; simp; omega
    have hGl : G.length = N.length + R.length := by rw [hN]; simp
    have hm0 : MapO es (ents R ++ entsO N.reverse) := by
      have := hB.mp
      rw [hN, ents_rev, List.reverse_append] at this
      rw [ents_rev]
      simpa [entsO] using this
    refine goes_enter2 Try.func59 rfl Try.ntmps59 rfl ?_
    refine goes_seq ?_
    refine goes_seq ?_
    refine goes_region ?_
    refine lst_run (run_move (by conv => lhs; whnf)) rfl ?_
    refine lst_run (run_nilCheck rfl) rfl ?_
    refine lst_run (run_fieldAddr (off := 1) rfl rfl) rfl ?_
    first
      | refine lst_run (run_load1_own hS rfl rfl (by first | exact .head | exact .tail .head | exact .tail (.tail .head) | exact .tail (.tail (.tail .head)) | exact .tail (.tail (.tail (.tail .head))) | exact .tail (.tail (.tail (.tail (.tail .head))))) (by repeat constructor)) rfl ?_
      | refine lst_run (run_load1 rfl rfl (by first | assumption | exact hS.cell0 (by assumption) | exact lv_next hS | exact lv_list hS)) rfl ?_
    refine lst_run (run_move (by conv => lhs; whnf)) rfl ?_
    first
      | refine lst_run (run_slice_lt (sz := 1) rfl rfl rfl rfl (by omega) (by omega) (by omega)) rfl ?_
      | refine lst_run (run_slice_rest (sz := 1) rfl rfl rfl rfl (by omega) (by omega)) rfl ?_
    refine lst_run (run_len_slice rfl rfl rfl) rfl ?_
    refine lst_run (run_move (by conv => lhs; whnf)) rfl ?_
    refine lst_done ?_
    refine goes_block ?_
    refine goes_loop1 13 (14 :: 15 :: 16 :: 5 :: 17 :: 18 :: 19 :: 20 :: 21 :: 22 :: []) (fun (E : List GB) v w' => ∃ D es, N.reverse = D ++ E ∧ v = .int .i64 (D.length : Nat) ∧ MapO es (ents R ++ entsO E) ∧ St M w0 ((b, sob mb (.slice (some ⟨g, 0, none⟩) G.length cap) rest) :: (mb, .map es clk) :: ([(g, .cells (trailV G ++ sp).toArray 3)] ++ H)) F w') (fun E => E.length) (N.reverse) ?_ (by conv => lhs; whnf) ?_
    · exact ⟨[], es, rfl, rfl, hm0, hS⟩
    clear hS
    rintro E _ w2 jv ⟨D, es2, hDE, rfl, hm, hS⟩ ih
    have hlen : N.length = D.length + E.length := by have := congrArg List.length hDE; simpa using this
    cases E with
    | nil =>
      simp only [List.length_nil] at hlen
      refine goes_seq ?_
      refine goes_region ?_
      first
        | refine lst_run (run_lss_yes rfl rfl (by omega)) rfl ?_
        | refine lst_run (run_lss_no rfl rfl (by omega)) rfl ?_
        | refine lst_run (rfl) rfl ?_
      refine lst_done ?_
      refine goes_seq ?_
      refine goes_false rfl ?_
      refine goes_exit rfl ?_
      refine goes_region ?_
      refine lst_run (run_move (by conv => lhs; whnf)) rfl ?_
      refine lst_run (run_move (by conv => lhs; whnf)) rfl ?_
      refine lst_run (run_nilCheck rfl) rfl ?_
      refine lst_run (run_fieldAddr (off := 1) rfl rfl) rfl ?_
      first
        | refine lst_run (run_load1_own hS rfl rfl (by first | exact .head | exact .tail .head | exact .tail (.tail .head) | exact .tail (.tail (.tail .head)) | exact .tail (.tail (.tail (.tail .head))) | exact .tail (.tail (.tail (.tail (.tail .head))))) (by repeat constructor)) rfl ?_
        | refine lst_run (run_load1 rfl rfl (by first | assumption | exact hS.cell0 (by assumption) | exact lv_next hS | exact lv_list hS)) rfl ?_
      refine lst_run (run_move (by conv => lhs; whnf)) rfl ?_
      refine lst_run (run_slice_slice (sz := 1) rfl rfl rfl rfl (by omega) (by omega)) rfl ?_
      refine lst_run (run_nilCheck rfl) rfl ?_
      refine lst_run (run_fieldAddr (off := 1) rfl rfl) rfl ?_
      refine lst_store1 hS rfl (by conv => lhs; whnf) rfl rfl (by first | exact .head | exact .tail .head | exact .tail (.tail .head) | exact .tail (.tail (.tail .head)) | exact .tail (.tail (.tail (.tail .head))) | exact .tail (.tail (.tail (.tail (.tail .head))))) (by repeat constructor) (by first | exact .head | exact .tail .head | exact .tail (.tail .head) | exact .tail (.tail (.tail .head)) | exact .tail (.tail (.tail (.tail .head))) | exact .tail (.tail (.tail (.tail (.tail .head))))) ?_
      clear hS
      intro wx1 hS
      refine lst_done ?_
      refine goes_end0 Try.func59 rfl ?_
      exact ⟨es2, _, rfl, hfin es2 (by simpa [entsO] using hm), hS⟩
    | cons x E =>
      simp only [List.length_cons] at hlen
      have hcell : w2.cell? ⟨g, 0 + ((n : Nat) : Int).toNat * 1 + ((D.length : Nat) : Int).toNat * 1, none⟩ = some (.int .i64 x.v) := by
        rw [show 0 + ((n : Nat) : Int).toNat * 1 + ((D.length : Nat) : Int).toNat * 1 = n + D.length by omega, cell_own (hS.own (g, _) (.tail _ (.tail _ (.head _)))), trail_rev, hN, List.reverse_append, hDE, List.getElem?_append_left (by simp; omega), List.map_append, List.getElem?_append_right (by simp; omega), List.map_append, List.getElem?_append_right (by simp; omega)]
        have : n + D.length - (List.map (fun x => Value.int .i64 x.v) R.reverse).length - (List.map (fun x => Value.int .i64 x.v) D).length = 0 := by simp; omega
        rw [this]; rfl
      have hxN : x ∈ N := by
        have : x ∈ N.reverse := by rw [hDE]; simp
        simpa using this
      have hA : aget x.v (ents R) = none := newer_free N R x (by rw [← hN]; exact hB.ok) hxN
      refine goes_seq ?_
      refine goes_region ?_
      first
        | refine lst_run (run_lss_yes rfl rfl (by omega)) rfl ?_
        | refine lst_run (run_lss_no rfl rfl (by omega)) rfl ?_
        | refine lst_run (rfl) rfl ?_
      refine lst_done ?_
      refine goes_seq ?_
      refine goes_true rfl ?_
      refine goes_skip ?_
      refine goes_seq ?_
      refine goes_block ?_
      refine goes_seq ?_
      refine goes_region ?_
      refine lst_run (run_indexAddr (sz := 1) rfl rfl rfl rfl (by omega) (by omega)) rfl ?_
      first
        | refine lst_run (run_load1_own hS rfl rfl (by first | exact .head | exact .tail .head | exact .tail (.tail .head) | exact .tail (.tail (.tail .head)) | exact .tail (.tail (.tail (.tail .head))) | exact .tail (.tail (.tail (.tail (.tail .head))))) (by repeat constructor)) rfl ?_
        | refine lst_run (run_load1 rfl rfl (by first | assumption | exact hS.cell0 (by assumption) | exact lv_next hS | exact lv_list hS)) rfl ?_
      refine lst_run (run_assign (by conv => lhs; whnf)) rfl ?_
      refine lst_done ?_
      refine goes_region ?_
      refine lst_run (run_move (by conv => lhs; whnf)) rfl ?_
      refine lst_run (run_nilCheck rfl) rfl ?_
      refine lst_run (run_fieldAddr (off := 0) rfl rfl) rfl ?_
      first
        | refine lst_run (run_load1_own hS rfl rfl (by first | exact .head | exact .tail .head | exact .tail (.tail .head) | exact .tail (.tail (.tail .head)) | exact .tail (.tail (.tail (.tail .head))) | exact .tail (.tail (.tail (.tail (.tail .head))))) (by repeat constructor)) rfl ?_
        | refine lst_run (run_load1 rfl rfl (by first | assumption | exact hS.cell0 (by assumption) | exact lv_next hS | exact lv_list hS)) rfl ?_
      refine lst_run (run_move (by conv => lhs; whnf)) rfl ?_
      refine lst_delete hS rfl rfl rfl rfl hm hA (.tail .head) ?_
      clear hS hm
      intro w5 hm hS
      refine lst_done ?_
      refine goes_inBlock ?_
      refine goes_region ?_
      refine lst_run (run_add rfl rfl (by omega) (by omega)) rfl ?_
      refine lst_run (run_move (by conv => lhs; whnf)) rfl ?_
      refine lst_done ?_
      refine ih (E) _ _ _ ?_ ?_ (by conv => lhs; whnf) (by kernel_rfl)
      · simp
      · exact ⟨D ++ [x], _, by rw [hDE]; simp, by simp, hm, hS⟩
  · obtain rfl : n = G.length := by omega
    refine goes_enter2 Try.func59 rfl Try.ntmps59 rfl ?_
    refine goes_seq ?_
    refine goes_seq ?_
    refine goes_region ?_
    refine lst_run (run_move (by conv => lhs; whnf)) rfl ?_
    refine lst_run (run_nilCheck rfl) rfl ?_
    refine lst_run (run_fieldAddr (off := 1) rfl rfl) rfl ?_
    first
      | refine lst_run (run_load1_own hS rfl rfl (by first | exact .head | exact .tail .head | exact .tail (.tail .head) | exact .tail (.tail (.tail .head)) | exact .tail (.tail (.tail (.tail .head))) | exact .tail (.tail (.tail (.tail (.tail .head))))) (by repeat constructor)) rfl ?_
      | refine lst_run (run_load1 rfl rfl (by first | assumption | exact hS.cell0 (by assumption) | exact lv_next hS | exact lv_list hS)) rfl ?_
    refine lst_run (run_move (by conv => lhs; whnf)) rfl ?_
    first
      | refine lst_run (run_slice_lt (sz := 1) rfl rfl rfl rfl (by omega) (by omega) (by omega)) rfl ?_
      | refine lst_run (run_slice_rest (sz := 1) rfl rfl rfl rfl (by omega) (by omega)) rfl ?_
    refine lst_run (run_len_slice rfl rfl rfl) rfl ?_
    refine lst_run (run_move (by conv => lhs; whnf)) rfl ?_
    refine lst_done ?_
    refine goes_block ?_
    refine goes_loop1 13 (14 :: 15 :: 16 :: 5 :: 17 :: 18 :: 19 :: 20 :: 21 :: 22 :: []) (fun (x : Unit) v w' => v = .int .i64 0 ∧ St M w0 ((b, sob mb (.slice A G.length cap) rest) :: (mb, .map es clk) :: (O ++ H)) F w') (fun _ => 0) (()) ?_ (by conv => lhs; whnf) ?_
    · exact ⟨rfl, hS⟩
    clear hS
    rintro _ _ w2 jv ⟨rfl, hS⟩ ih
    refine goes_seq ?_
    refine goes_region ?_
    first
      | refine lst_run (run_lss_yes rfl rfl (by omega)) rfl ?_
      | refine lst_run (run_lss_no rfl rfl (by omega)) rfl ?_
      | refine lst_run (rfl) rfl ?_
    refine lst_done ?_
    refine goes_seq ?_
    refine goes_false rfl ?_
    refine goes_exit rfl ?_
    refine goes_region ?_
    refine lst_run (run_move (by conv => lhs; whnf)) rfl ?_
    refine lst_run (run_move (by conv => lhs; whnf)) rfl ?_
    refine lst_run (run_nilCheck rfl) rfl ?_
    refine lst_run (run_fieldAddr (off := 1) rfl rfl) rfl ?_
    first
      | refine lst_run (run_load1_own hS rfl rfl (by first | exact .head | exact .tail .head | exact .tail (.tail .head) | exact .tail (.tail (.tail .head)) | exact .tail (.tail (.tail (.tail .head))) | exact .tail (.tail (.tail (.tail (.tail .head))))) (by repeat constructor)) rfl ?_
      | refine lst_run (run_load1 rfl rfl (by first | assumption | exact hS.cell0 (by assumption) | exact lv_next hS | exact lv_list hS)) rfl ?_
    refine lst_run (run_move (by conv => lhs; whnf)) rfl ?_
    refine lst_run (run_slice_slice (sz := 1) rfl rfl rfl rfl (by omega) (by omega)) rfl ?_
    refine lst_run (run_nilCheck rfl) rfl ?_
    refine lst_run (run_fieldAddr (off := 1) rfl rfl) rfl ?_
    refine lst_store1 hS rfl (by conv => lhs; whnf) rfl rfl (by first | exact .head | exact .tail .head | exact .tail (.tail .head) | exact .tail (.tail (.tail .head)) | exact .tail (.tail (.tail (.tail .head))) | exact .tail (.tail (.tail (.tail (.tail .head))))) (by repeat constructor) (by first | exact .head | exact .tail .head | exact .tail (.tail .head) | exact .tail (.tail (.tail .head)) | exact .tail (.tail (.tail (.tail .head))) | exact .tail (.tail (.tail (.tail (.tail .head))))) ?_
    clear hS
    intro wx1 hS
    refine lst_done ?_
    refine goes_end0 Try.func59 rfl ?_
    refine ⟨es, _, rfl, ?_, hS⟩
    exact hfin es (by rw [Nat.sub_self]; exact hB.mp)
end
end Go.Proofs.Ytdiophafmokfiaa
namespace Go.Proofs.Ytdiophafmokfiaa
set_option linter.unusedVariables false

/-- Every term that is bound is small. -/
def SmB (B : Bnd) : Prop := ∀ x ∈ B, x.2.ar.nodes ≤ 24
theorem look_small {B : Bnd} (hB : SmB B) {t : Tm} (ht : t.ar.nodes ≤ 24) : (lookM B t).ar.nodes ≤ 24 := by
  rcases look_mem (B := B) t with h | ⟨x, hx, h⟩
  · rw [h]; exact ht
  · rw [h]; exact hB x hx
theorem anyL_le {g : Tm → Nat → Bool × Nat} {K : Nat} : ∀ (T : Ts) (w : Nat), (∀ t : Tm, t.ar.nodes < T.nodes → ∀ w, (g t w).2 ≤ max (w + 1) K) → (anyL g T w).2 ≤ max w K + T.length
  | .nil, w, _ => by simp [anyL, Ts.length]; omega
  | .cons k n s a r, w, h => by
    have h1 := h ⟨k, n, s, a⟩ (by simp only [Ts.nodes]; omega) w
    have h2 := anyL_le r (g ⟨k, n, s, a⟩ w).2 fun t ht => h t (by simp only [Ts.nodes]; omega)
    simp only [anyL, Ts.length]
    split
    · simp only; omega
    · omega
theorem occ_le {B : Bnd} (hB : SmB B) (v : Int) : ∀ (f : Nat) (t : Tm), t.ar.nodes ≤ 24 → ∀ w, (occM B v f t w).2 ≤ max (w + 1) (401 + 24 * f)
  | 0, t, ht, w => by simp only [occM]; omega
  | f + 1, t, ht, w => by
    simp only [occM]
    split
    · simp only; omega
    · split
      · simp only; omega
      · have hs := look_small hB ht
        have hl := (lookM B t).ar.length_le
        have := anyL_le (g := occM B v f) (K := 401 + 24 * f) (lookM B t).ar (w + 1) fun u hu => occ_le hB v f u (by omega)
        omega
theorem occ_gt {B : Bnd} {v : Int} : ∀ (f : Nat) (t : Tm) (w : Nat), w + 1 ≤ (occM B v f t w).2
  | 0, t, w => Nat.le_refl _
  | f + 1, t, w => by
    have key : ∀ (T : Ts) (w : Nat), w ≤ (anyL (occM B v f) T w).2 := by
      intro T
      induction T with
      | nil => intro w; exact Nat.le_refl _
      | cons k n s a r _ ih =>
        intro w
        have h1 := occ_gt (B := B) (v := v) f ⟨k, n, s, a⟩ w
        have h2 := ih (occM B v f ⟨k, n, s, a⟩ w).2
        simp only [anyL]
        split
        · simp only; omega
        · omega
    simp only [occM]
    split
    · exact Nat.le_refl _
    · split
      · exact Nat.le_refl _
      · exact key _ _

/-- What a unification keeps. -/
structure UP (B : Bnd) (w : Nat) (r : Us) : Prop where
  bok : Bok r.B
  sm : SmB r.B
  ok : r.ok = true → r.w ≤ 400
  len : r.B.length + w ≤ B.length + r.w
  ext : ∃ N, r.B = N ++ B
theorem SmB.cons {B : Bnd} (h : SmB B) {x : Int × Tm} (hx : x.2.ar.nodes ≤ 24) : SmB (x :: B) := fun y hy => by
  rcases List.mem_cons.1 hy with rfl | hy
  · exact hx
  · exact h y hy
theorem asg_up {B : Bnd} {w : Nat} {v : Int} {t : Tm} (hB : Bok B) (hS : SmB B) (hv : bget v B = none) (hk : t.k ≠ 0) (ht : t.ar.nodes ≤ 24) : UP B w (asgM v t B w) := by
  have h1 := occ_gt (B := B) (v := v) 401 t w
  unfold asgM
  split
  · exact ⟨hB, hS, fun h => (by cases h), by simp only; omega, [], rfl⟩
  · rename_i h
    exact ⟨⟨hv, fun h => absurd h hk, hB⟩, hS.cons ht, fun _ => by simp only; omega, by simp; omega, [(v, t)], rfl⟩
theorem all_up {g : Tm → Tm → Bnd → Nat → Us} : ∀ (T U : Ts) (B : Bnd) (w : Nat), (∀ a b : Tm, a.ar.nodes < T.nodes → b.ar.nodes < U.nodes → ∀ B w, Bok B → SmB B → w ≤ 400 → UP B w (g a b B w)) → Bok B → SmB B → w ≤ 400 → UP B w (allL g T U B w)
  | .nil, U, B, w, h, hB, hS, hw => ⟨hB, hS, fun _ => hw, by simp [allL], [], rfl⟩
  | .cons k n s a r, .nil, B, w, h, hB, hS, hw => ⟨hB, hS, fun _ => hw, by simp [allL], [], rfl⟩
  | .cons k n s a r, .cons k' n' s' a' r', B, w, h, hB, hS, hw => by
    have h1 := h ⟨k, n, s, a⟩ ⟨k', n', s', a'⟩ (by simp only [Ts.nodes]; omega) (by simp only [Ts.nodes]; omega) B w hB hS hw
    simp only [allL]
    split
    · rename_i hok
      have h2 := all_up r r' _ _ (fun a b ha hb => h a b (by simp only [Ts.nodes]; omega) (by simp only [Ts.nodes]; omega)) h1.bok h1.sm (h1.ok hok)
      obtain ⟨N1, e1⟩ := h1.ext
      obtain ⟨N2, e2⟩ := h2.ext
      refine ⟨h2.bok, h2.sm, h2.ok, ?_, N2 ++ N1, by rw [e2, e1, List.append_assoc]⟩
      have := h1.len
      have := h2.len
      omega
    · exact h1
theorem uni_up : ∀ (f : Nat) (a b : Tm) (B : Bnd) (w : Nat), a.ar.nodes ≤ 24 → b.ar.nodes ≤ 24 → Bok B → SmB B → w ≤ 400 → UP B w (uniM f a b B w)
  | 0, a, b, B, w, ha, hb, hB, hS, hw => ⟨hB, hS, fun h => (by cases h), by simp only [uniM]; omega, [], rfl⟩
  | f + 1, a, b, B, w, ha, hb, hB, hS, hw => by
    have ea := look_small hS ha
    have eb := look_small hS hb
    have na := look_end hB a
    have nb := look_end hB b
    have up1 : ∀ r : Us, UP B (w + 1) r → UP B w r := fun r h => ⟨h.bok, h.sm, h.ok, by have := h.len; omega, h.ext⟩
    simp only [uniM]
    split
    · exact ⟨hB, hS, fun h => (by cases h), by simp only; omega, [], rfl⟩
    split
    · rename_i ha0
      split
      · rename_i hb0
        by_cases e : (lookM B a).n = (lookM B b).n
        · rw [if_pos e]
          exact ⟨hB, hS, fun _ => by simp only; omega, by simp only; omega, [], rfl⟩
        · rw [if_neg e]
          exact ⟨⟨na ha0, fun h => ⟨fun h2 => e h2.symm, nb h⟩, hB⟩, hS.cons eb, fun _ => by simp only; omega, by simp; omega, [_], rfl⟩
      · rename_i hb0
        exact up1 _ (asg_up hB hS (na ha0) hb0 eb)
    split
    · rename_i ha0 hb0
      exact up1 _ (asg_up hB hS (nb hb0) ha0 ea)
    split
    · exact up1 _ (all_up _ _ _ _ (fun x y hx hy B w hB hS hw => uni_up f x y B w (by omega) (by omega) hB hS hw) hB hS (by omega))
    · exact ⟨hB, hS, fun h => (by cases h), by simp only; omega, [], rfl⟩
end Go.Proofs.Ytdiophafmokfiaa
