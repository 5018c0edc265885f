/-
  Shift, Shifted, Tidy and Tidied answer the terms that their numberings say.
-/
import Derived.Test.YtjicoifjgokoiaaRename
namespace Go.Proofs.Ytjicoifjgokoiaa
open Go.RowKit

theorem Ts.ren_congr {σ : Type} {N M : Num σ} (hv : ∀ s n, N.val s n = M.val s n) (hx : ∀ s n, N.nxt s n = M.nxt s n) (T : Ts) : ∀ s, T.ren N s = T.ren M s := by
  have h1 : ∀ k n s, N.v1 k n s = M.v1 k n s := fun k n s => by simp [Num.v1, hv]
  have h2 : ∀ k n s, N.s1 k n s = M.s1 k n s := fun k n s => by simp [Num.s1, hx]
  induction T with
  | nil => intro s; rfl
  | cons k n b ar r iha ihr => intro s; simp only [Ts.ren, h1, h2, iha, ihr]

def numShift (vb : Nat) (m : Int) : Num Unit :=
  { fid := 40, cap := #[.pointer (some ⟨vb, 0, none⟩)], own := fun _ => False, lean := fun k => k = vb, inv := fun _ w => Plot w vb 3 #[.int .i64 m], val := fun _ n => low n + m, nxt := fun _ _ => () }
theorem numShift_ok (vb : Nat) (m : Int) (h0 : 0 ≤ m) (h1 : m < 1099511627776) : (numShift vb m).Ok where
  keep := fun _ w w' h hk => (hk vb rfl).trans h
  lt := fun _ w k h hk => by
    have e : k = vb := hk
    subst e
    exact Plot.lt h
  sub := fun _ h => h.elim
  bare := fun _ _ _ _ _ _ _ h => h.elim
  enter := fun args w => by simp [numShift, go_sem]
  call := fun _ n w h => by
    refine (shift1_any n m vb w h h0 h1).mono ?_
    rintro e w' ⟨rfl, q, rfl⟩
    exact ⟨rfl, Plot.drewN h q, (Chg.of_fresh (below_drewN _ w q))⟩

def numShifted (fb nb : Nat) (m : Int) : Num Unit :=
  { fid := 43, cap := #[.pointer (some ⟨fb, 0, none⟩), .pointer (some ⟨nb, 0, none⟩)], own := fun _ => False, lean := fun k => k = fb ∨ k = nb,
    inv := fun _ w => Plot w fb 66 #[.func (.func 41) #[] #[]] ∧ Plot w nb 3 #[.int .i64 m], val := fun _ n => low n + low m, nxt := fun _ _ => () }
theorem numShifted_ok (fb nb : Nat) (m : Int) : (numShifted fb nb m).Ok where
  keep := fun _ w w' h hk => ⟨(hk fb (.inl rfl)).trans h.1, (hk nb (.inr rfl)).trans h.2⟩
  lt := fun _ w k h hk => by
    have e : k = fb ∨ k = nb := hk
    rcases e with rfl | rfl
    · exact Plot.lt h.1
    · exact Plot.lt h.2
  sub := fun _ h => h.elim
  bare := fun _ _ _ _ _ _ _ h => h.elim
  enter := fun args w => by simp [numShifted, go_sem]
  call := fun _ n w h => by
    refine (shifted2_any n m fb nb w h.1 h.2).mono ?_
    rintro e w' ⟨rfl, q, rfl⟩
    exact ⟨rfl, ⟨Plot.drewN h.1 q, Plot.drewN h.2 q⟩, (Chg.of_fresh (below_drewN _ w q))⟩

def numTidy (vb mb : Nat) : Num (List Int) :=
  { fid := 44, cap := #[.pointer (some ⟨vb, 0, none⟩)], own := fun k => k = mb, lean := fun k => k = vb ∨ k = mb,
    inv := fun ks w => Plot w vb 69 #[.map (some mb)] ∧ NumIs w mb ks, val := numV, nxt := numS }
theorem numTidy_ok (vb mb : Nat) : (numTidy vb mb).Ok where
  keep := fun _ w w' h hk => ⟨(hk vb (.inl rfl)).trans h.1, MapIs.keep h.2 (hk mb (.inr rfl))⟩
  lt := fun _ w k h hk => by
    have e : k = vb ∨ k = mb := hk
    rcases e with rfl | rfl
    · exact Plot.lt h.1
    · exact MapIs.lt h.2
  sub := fun _ h => .inr h
  bare := fun ks w k c t f h ho e => by
    have e1 : k = mb := ho
    subst e1
    obtain ⟨es, clock, hb, _⟩ := h.2
    rw [hb] at e
    cases e
  enter := fun args w => by simp [numTidy, go_sem]
  call := fun ks n w h => by
    refine (tidy1_any n ks vb mb w h.1 h.2).mono ?_
    rintro e w' ⟨rfl, h1, h2⟩
    exact ⟨rfl, ⟨h.1.chg h2 fun e => Plot.not_map h.1 h.2 e, h1⟩, h2⟩

def numTidied (vb mb : Nat) : Num (List Int) := { numTidy vb mb with fid := 45 }
theorem numTidied_ok (vb mb : Nat) : (numTidied vb mb).Ok where
  keep := (numTidy_ok vb mb).keep
  lt := (numTidy_ok vb mb).lt
  sub := (numTidy_ok vb mb).sub
  bare := (numTidy_ok vb mb).bare
  enter := fun args w => by simp [numTidied, numTidy, go_sem]
  call := fun ks n w h => by
    refine (tidied1_any n ks vb mb w h.1 h.2).mono ?_
    rintro e w' ⟨rfl, h1, h2⟩
    exact ⟨rfl, ⟨h.1.chg h2 fun e => Plot.not_map h.1 h.2 e, h1⟩, h2⟩

/-- The terms, their variables numbered in the order in which they come. -/
def Ts.tidyFrom (T : Ts) (ks : List Int) : Ts × List Int := T.ren (numTidy 0 0) ks
def Ts.tidy (T : Ts) : Ts := (T.tidyFrom []).1
theorem ren_tidy (vb mb : Nat) (T : Ts) (ks : List Int) : T.ren (numTidy vb mb) ks = T.tidyFrom ks := Ts.ren_congr (N := numTidy vb mb) (M := numTidy 0 0) (fun _ _ => rfl) (fun _ _ => rfl) T ks
theorem ren_tidied (vb mb : Nat) (T : Ts) (ks : List Int) : T.ren (numTidied vb mb) ks = T.tidyFrom ks := Ts.ren_congr (N := numTidied vb mb) (M := numTidy 0 0) (fun _ _ => rfl) (fun _ _ => rfl) T ks
/-- The terms, m added to the low part of each variable's number. -/
def Ts.shift (T : Ts) (m : Int) : Ts := (T.ren (numShift 0 (low m)) ()).1
theorem ren_shift (vb : Nat) (T : Ts) (m : Int) : (T.ren (numShift vb (low m)) ()).1 = T.shift m := by unfold Ts.shift; rw [Ts.ren_congr (N := numShift vb (low m)) (M := numShift 0 (low m)) (fun _ _ => rfl) (fun _ _ => rfl)]
theorem ren_shifted (fb nb : Nat) (T : Ts) (m : Int) : (T.ren (numShifted fb nb m) ()).1 = T.shift m := by unfold Ts.shift; rw [Ts.ren_congr (N := numShifted fb nb m) (M := numShift 0 (low m)) (fun _ _ => rfl) (fun _ _ => rfl)]
def shiftN (k n m : Int) : Int := if k = 0 then low n + low m else n
theorem Ts.shift_cons (k n m : Int) (b : ByteArray) (ar r : Ts) : (Ts.cons k n b ar r).shift m = .cons k (shiftN k n m) b (ar.shift m) (r.shift m) := rfl

set_option maxHeartbeats 400000 in
theorem tidy_any (T : Ts) (v : Value) (w : World) (hv : Sl w (fun _ => True) v T) (hn : T.nodes ≤ 1073741824) :
    Calls Try.prog 15 #[v] w fun e w' => ∃ v', e = .returned v' ∧ Sl w' (fun k => w.heap.size ≤ k) v' T.tidy ∧ Below w.heap.size w w' := by
  have hi : (numTidy (w.heap.size + 1) w.heap.size).inv [] ((w.alloc (.map #[] 0)).alloc (.cells #[.map (some w.heap.size)] 69)) := by
    refine ⟨?_, ?_⟩
    · have := Plot.new (w.alloc (.map #[] 0)) 69 #[.map (some w.heap.size)]
      simpa using this
    · exact (MapIs.made w).keep (Below.heap_alloc _ _ _ (by simp))
  have hW : Below w.heap.size w ((w.alloc (.map #[] 0)).alloc (.cells #[.map (some w.heap.size)] 69)) := ((Below.refl _ _).alloc (Nat.le_refl _) _).alloc (by simp) _
  have hsl := hv.below hW
  have hmk := run_makeMap (P := Try.prog) 69
  go_enter Try.func15, Try.ntmps15
  go_wp2_with fail
  refine (rename_any (numTidy_ok (w.heap.size + 1) w.heap.size) T v [] _ hsl hi hn).mono ?_
  rintro e w' ⟨v', rfl, h1, _, h3⟩
  rw [ren_tidy] at h1
  go_wp2_with fail
  go_ret
  refine ⟨_, rfl, h1.imp (fun k hk _ => by simp at hk; omega), hW.trans (h3.below (by simp; omega) fun k hk _ => ?_)⟩
  have e : k = w.heap.size := hk
  omega

set_option maxHeartbeats 400000 in
theorem shift_any (k n m : Int) (b : ByteArray) (ar : Ts) (v : Value) (w : World) (hv : Sl w (fun _ => True) v ar) (hn : ar.nodes < 1048576) :
    Calls Try.prog 11 #[.agg #[.int .i64 k, .int .i64 n, .string b, v], .int .i64 m] w fun e w' => ∃ v', e = .returned (.agg #[.int .i64 k, .int .i64 (shiftN k n m), .string b, v']) ∧ Sl w' (fun k => w.heap.size ≤ k) v' (ar.shift m) ∧ Below w.heap.size w w' := by
  obtain ⟨A, c, rfl, hs⟩ := hv.form
  obtain ⟨hb1, hb2⟩ := low_bounds m
  go_enter Try.func11, Try.ntmps11
  go_wp2_with (go_at_call 38; refine (remainder_any _ _).mono ?_; rintro e w1 ⟨rfl, rfl⟩)
  have hW : Below w.heap.size w ((((w.alloc (.cells #[.int .i64 k, .int .i64 n, .string b, .slice A ar.length c] 24)).alloc (.cells #[.int .i64 0, .int .i64 0, .string ⟨#[]⟩, .slice none 0 0] 24)).alloc (.cells #[.int .i64 (low m)] 3)).alloc (.cells #[.int .i64 k, .int .i64 n, .string b, .slice A ar.length c] 24)) := ((((Below.refl _ _).alloc (Nat.le_refl _) _).alloc (by simp) _).alloc (by simp; omega) _).alloc (by simp; omega) _
  have b2 : Plot ((((w.alloc (.cells #[.int .i64 k, .int .i64 n, .string b, .slice A ar.length c] 24)).alloc (.cells #[.int .i64 0, .int .i64 0, .string ⟨#[]⟩, .slice none 0 0] 24)).alloc (.cells #[.int .i64 (low m)] 3)).alloc (.cells #[.int .i64 k, .int .i64 n, .string b, .slice A ar.length c] 24)) (w.heap.size + 1) 24 #[.int .i64 0, .int .i64 0, .string ⟨#[]⟩, .slice none 0 0] := by
    have := ((Plot.new (w.alloc (.cells #[.int .i64 k, .int .i64 n, .string b, .slice A ar.length c] 24)) 24 #[.int .i64 0, .int .i64 0, .string ⟨#[]⟩, .slice none 0 0]).alloc (.cells #[.int .i64 (low m)] 3)).alloc (.cells #[.int .i64 k, .int .i64 n, .string b, .slice A ar.length c] 24)
    simpa using this
  have hi : (numShift (w.heap.size + 1 + 1) (low m)).inv () ((((w.alloc (.cells #[.int .i64 k, .int .i64 n, .string b, .slice A ar.length c] 24)).alloc (.cells #[.int .i64 0, .int .i64 0, .string ⟨#[]⟩, .slice none 0 0] 24)).alloc (.cells #[.int .i64 (low m)] 3)).alloc (.cells #[.int .i64 k, .int .i64 n, .string b, .slice A ar.length c] 24)) := by
    have := (Plot.new ((w.alloc (.cells #[.int .i64 k, .int .i64 n, .string b, .slice A ar.length c] 24)).alloc (.cells #[.int .i64 0, .int .i64 0, .string ⟨#[]⟩, .slice none 0 0] 24)) 3 #[.int .i64 (low m)]).alloc (.cells #[.int .i64 k, .int .i64 n, .string b, .slice A ar.length c] 24)
    simpa [numShift] using this
  have b4 : Plot ((((w.alloc (.cells #[.int .i64 k, .int .i64 n, .string b, .slice A ar.length c] 24)).alloc (.cells #[.int .i64 0, .int .i64 0, .string ⟨#[]⟩, .slice none 0 0] 24)).alloc (.cells #[.int .i64 (low m)] 3)).alloc (.cells #[.int .i64 k, .int .i64 n, .string b, .slice A ar.length c] 24)) (w.heap.size + 1 + 1 + 1) 24 #[.int .i64 k, .int .i64 n, .string b, .slice A ar.length c] := by
    have := Plot.new (((w.alloc (.cells #[.int .i64 k, .int .i64 n, .string b, .slice A ar.length c] 24)).alloc (.cells #[.int .i64 0, .int .i64 0, .string ⟨#[]⟩, .slice none 0 0] 24)).alloc (.cells #[.int .i64 (low m)] 3)) 24 #[.int .i64 k, .int .i64 n, .string b, .slice A ar.length c]
    simpa using this
  have hsl : Sl ((((w.alloc (.cells #[.int .i64 k, .int .i64 n, .string b, .slice A ar.length c] 24)).alloc (.cells #[.int .i64 0, .int .i64 0, .string ⟨#[]⟩, .slice none 0 0] 24)).alloc (.cells #[.int .i64 (low m)] 3)).alloc (.cells #[.int .i64 k, .int .i64 n, .string b, .slice A ar.length c] 24)) (fun _ => True) (.slice (some ⟨w.heap.size + 1 + 1 + 1, 0, none⟩) 1 1) (.cons k n b ar .nil) := by
    refine ⟨_, 1, rfl, Nat.le_refl _, fun _ => ⟨_, 0, rfl, seg_cons.2 ⟨trivial, b4.cell 0, b4.cell 1, b4.cell 2, ⟨_, b4.cell 3, hs.below hW⟩, trivial⟩⟩⟩
  refine (rename_any (numShift_ok (w.heap.size + 1 + 1) (low m) hb1 hb2) (.cons k n b ar .nil) _ () _ hsl hi (by simp [Ts.nodes]; omega)).mono ?_
  rintro e w1 ⟨v', rfl, h1, _, h3⟩
  rw [ren_shift, Ts.shift_cons] at h1
  obtain ⟨A1, c1, rfl, h1⟩ := h1.form
  have b5 := b2.chg h3 (fun h => h.elim)
  obtain ⟨d0, d1, d2, d3, df⟩ := b5.four
  obtain ⟨b1, o1, rfl, hseg⟩ := Sl.at_ (D := .nil) (R := .cons k (shiftN k n m) b (ar.shift m) (Ts.nil.shift m)) h1 (by simp [Ts.length])
  obtain ⟨_, c10, c11, c12, ⟨v5, c13, h5⟩, _⟩ := seg_cons.1 hseg
  obtain ⟨A5, c5, rfl, h5⟩ := h5.form
  simp only [Ts.length, Nat.zero_mul, Nat.add_zero] at c10 c11 c12 c13
  have hl1 : (Ts.cons k (shiftN k n m) b (ar.shift m) (Ts.nil.shift m)).length = 1 := rfl
  rw [hl1]
  have hz1 := h3.size
  go_wp2_with fail
  refine bodyPost_ret (v := .agg #[.int .i64 k, .int .i64 (shiftN k n m), .string b, .slice A5 (ar.shift m).length c5]) (by simp [results, Try.results11, go_sem, d0, d1, d2, d3]) rfl ⟨_, rfl, ?_, ?_⟩
  · refine (h5.keep (w' := _) fun k hk _ => ?_).imp fun k hk _ => by simp at hk; omega
    simp at hk
    simp only [World.setCell, Array.getElem?_modify]
    repeat rw [if_neg (by omega)]
  · refine (((Below.setCell ?_ (by simp) _).setCell (by simp) _).setCell (by simp) _).setCell (by simp) _
    exact hW.trans (h3.below (by simp; omega) fun _ h _ => h.elim)

set_option maxHeartbeats 400000 in
theorem shifted_any (k n m : Int) (b : ByteArray) (ar : Ts) (v : Value) (w : World) (hv : Sl w (fun _ => True) v ar) (hn : ar.nodes ≤ 1048576) :
    Calls Try.prog 13 #[.agg #[.int .i64 k, .int .i64 n, .string b, v], .int .i64 m] w fun e w' => ∃ v', e = .returned (.agg #[.int .i64 k, .int .i64 (shiftN k n m), .string b, v']) ∧ Sl w' (fun _ => True) v' (ar.shift m) ∧ Below w.heap.size w w' := by
  obtain ⟨A, c, rfl, hs⟩ := hv.form
  have hW : Below w.heap.size w ((((w.alloc (.cells #[.int .i64 k, .int .i64 n, .string b, .slice A ar.length c] 24)).alloc (.cells #[.int .i64 m] 3)).alloc (.cells #[.int .i64 0, .int .i64 0, .string ⟨#[]⟩, .slice none 0 0] 24)).alloc (.cells #[.func (.func 41) #[] #[]] 66)) := ((((Below.refl _ _).alloc (Nat.le_refl _) _).alloc (by simp) _).alloc (by simp; omega) _).alloc (by simp; omega) _
  have b3 : Plot ((((w.alloc (.cells #[.int .i64 k, .int .i64 n, .string b, .slice A ar.length c] 24)).alloc (.cells #[.int .i64 m] 3)).alloc (.cells #[.int .i64 0, .int .i64 0, .string ⟨#[]⟩, .slice none 0 0] 24)).alloc (.cells #[.func (.func 41) #[] #[]] 66)) (w.heap.size + 1 + 1) 24 #[.int .i64 0, .int .i64 0, .string ⟨#[]⟩, .slice none 0 0] := by
    have := ((Plot.new ((w.alloc (.cells #[.int .i64 k, .int .i64 n, .string b, .slice A ar.length c] 24)).alloc (.cells #[.int .i64 m] 3)) 24 #[.int .i64 0, .int .i64 0, .string ⟨#[]⟩, .slice none 0 0])).alloc (.cells #[.func (.func 41) #[] #[]] 66)
    simpa using this
  have hi : (numShifted (w.heap.size + 1 + 1 + 1) (w.heap.size + 1) m).inv () ((((w.alloc (.cells #[.int .i64 k, .int .i64 n, .string b, .slice A ar.length c] 24)).alloc (.cells #[.int .i64 m] 3)).alloc (.cells #[.int .i64 0, .int .i64 0, .string ⟨#[]⟩, .slice none 0 0] 24)).alloc (.cells #[.func (.func 41) #[] #[]] 66)) := by
    constructor
    · have := Plot.new (((w.alloc (.cells #[.int .i64 k, .int .i64 n, .string b, .slice A ar.length c] 24)).alloc (.cells #[.int .i64 m] 3)).alloc (.cells #[.int .i64 0, .int .i64 0, .string ⟨#[]⟩, .slice none 0 0] 24)) 66 #[.func (.func 41) #[] #[]]
      simpa using this
    · have := ((Plot.new (w.alloc (.cells #[.int .i64 k, .int .i64 n, .string b, .slice A ar.length c] 24)) 3 #[.int .i64 m]).alloc (.cells #[.int .i64 0, .int .i64 0, .string ⟨#[]⟩, .slice none 0 0] 24)).alloc (.cells #[.func (.func 41) #[] #[]] 66)
      simpa using this
  have hst : (store ⟨w.heap.size + 1 + 1 + 1, 0, none⟩ (.func (.func 41) #[] #[])).run Try.prog ((((w.alloc (.cells #[.int .i64 k, .int .i64 n, .string b, .slice A ar.length c] 24)).alloc (.cells #[.int .i64 m] 3)).alloc (.cells #[.int .i64 0, .int .i64 0, .string ⟨#[]⟩, .slice none 0 0] 24)).alloc (.cells #[.nilFunc] 66)) = .ok () ((((w.alloc (.cells #[.int .i64 k, .int .i64 n, .string b, .slice A ar.length c] 24)).alloc (.cells #[.int .i64 m] 3)).alloc (.cells #[.int .i64 0, .int .i64 0, .string ⟨#[]⟩, .slice none 0 0] 24)).alloc (.cells #[.func (.func 41) #[] #[]] 66)) := by
    have hb := Plot.new (((w.alloc (.cells #[.int .i64 k, .int .i64 n, .string b, .slice A ar.length c] 24)).alloc (.cells #[.int .i64 m] 3)).alloc (.cells #[.int .i64 0, .int .i64 0, .string ⟨#[]⟩, .slice none 0 0] 24)) 66 #[.nilFunc]
    have e := setCell_new (((w.alloc (.cells #[.int .i64 k, .int .i64 n, .string b, .slice A ar.length c] 24)).alloc (.cells #[.int .i64 m] 3)).alloc (.cells #[.int .i64 0, .int .i64 0, .string ⟨#[]⟩, .slice none 0 0] 24)) .nilFunc (.func (.func 41) #[] #[]) 66
    have h := run_store_func (P := Try.prog) (f := .func 41) (x := #[]) (y := #[]) (hb.cell 0) (hb.frozen 0)
    rw [e] at h
    simpa using h
  go_enter Try.func13, Try.ntmps13
  go_wp2_with fail
  refine (ren_said (numShifted_ok (w.heap.size + 1 + 1 + 1) (w.heap.size + 1) m) ar k n b _ () _ (hs.below hW) hi hn).mono ?_
  rintro e w1 ⟨v', rfl, h1, _, h3⟩
  rw [show (numShifted (w.heap.size + 1 + 1 + 1) (w.heap.size + 1) m).s1 k n () = () from rfl, ren_shifted] at h1
  rw [show (numShifted (w.heap.size + 1 + 1 + 1) (w.heap.size + 1) m).v1 k n () = shiftN k n m from rfl]
  obtain ⟨A5, c5, rfl, h5⟩ := h1.form
  have b5 := b3.chg h3 (fun h => h.elim)
  obtain ⟨d0, d1, d2, d3, df⟩ := b5.four
  have hz1 := h3.size
  go_wp2_with fail
  refine bodyPost_ret (v := .agg #[.int .i64 k, .int .i64 (shiftN k n m), .string b, .slice A5 (ar.shift m).length c5]) (by simp [results, Try.results13, go_sem, d0, d1, d2, d3]) rfl ⟨_, rfl, ?_, ?_⟩
  · refine (h5.keep (w' := _) fun k hk _ => ?_).any
    simp at hk
    simp only [World.setCell, Array.getElem?_modify]
    repeat rw [if_neg (by omega)]
  · refine (((Below.setCell ?_ (by simp; omega) _).setCell (by simp; omega) _).setCell (by simp; omega) _).setCell (by simp; omega) _
    exact hW.trans (h3.below (by simp; omega) fun _ h _ => h.elim)

theorem Ts.tidyFrom_app (D R : Ts) (ks : List Int) : (D.app R).tidyFrom ks = ((D.tidyFrom ks).1.app (R.tidyFrom (D.tidyFrom ks).2).1, (R.tidyFrom (D.tidyFrom ks).2).2) := Ts.ren_app _ D R ks

def tV (k n : Int) (ks : List Int) : Int := if k = 0 then numV ks n else n
def tS (k n : Int) (ks : List Int) : List Int := if k = 0 then numS ks n else ks
theorem Ts.tidyFrom_cons (k n : Int) (s : ByteArray) (ar r : Ts) (ks : List Int) : (Ts.cons k n s ar r).tidyFrom ks = (.cons k (tV k n ks) s (ar.tidyFrom (tS k n ks)).1 (r.tidyFrom (ar.tidyFrom (tS k n ks)).2).1, (r.tidyFrom (ar.tidyFrom (tS k n ks)).2).2) := rfl

/-- What holds at the head of Tidied's loop. W: the world in which the map lies, w: the first. -/
structure TdRel (w : World) (T D R : Ts) (u : Value) (xs : List Value) (wr : World) : Prop where
  split : T = D.app R
  own : wr.ownsRow (w.heap.size + 2) 24 4 u D.length xs
  cs : Cs wr (fun k => w.heap.size + 2 ≤ k ∧ u.ownBlock ≠ some k) (D.tidyFrom []).1 xs
  inv : (numTidied (w.heap.size + 1) w.heap.size).inv (D.tidyFrom []).2 wr
  chg : Below w.heap.size w wr
  size : w.heap.size + 2 ≤ wr.heap.size
def TdLoop (w : World) (T : Ts) (g : Nat) (s4 s10 : Value) (wr : World) : Prop := ∃ D R xs, TdRel w T D R s4 xs wr ∧ g = R.length ∧ s10 = .int .i64 D.length

theorem TdRel.step {w wr W w3 : World} {T D r ar : Ts} {k n : Int} {s : ByteArray} {u v3 v : Value} {xs : List Value}
    (h : TdRel w T D (.cons k n s ar r) u xs wr) (hC : Chg (fun k => k = w.heap.size) wr W)
    (hv : Sl W (fun k => wr.heap.size ≤ k) v (ar.tidyFrom (tS k n (D.tidyFrom []).2)).1) (hI : (numTidied (w.heap.size + 1) w.heap.size).inv (ar.tidyFrom (tS k n (D.tidyFrom []).2)).2 W)
    (ho3 : w3.ownsRow (w.heap.size + 2) 24 4 v3 (D.length + 1) (xs ++ [.int .i64 k, .int .i64 (tV k n (D.tidyFrom []).2), .string s, v]))
    (hg : W.grownBy w3 u.ownBlock) (hat : v3.ownBlock = u.ownBlock ∨ v3.ownBlock = some W.heap.size) :
    TdRel w T (D.app (.cons k n s ar .nil)) r v3 (xs ++ [.int .i64 k, .int .i64 (tV k n (D.tidyFrom []).2), .string s, v]) w3 := by
  have hlt := h.own.lt
  have hz := h.size
  have hWs := hC.size
  have e : (D.app (.cons k n s ar .nil)).tidyFrom [] = ((D.tidyFrom []).1.app (.cons k (tV k n (D.tidyFrom []).2) s (ar.tidyFrom (tS k n (D.tidyFrom []).2)).1 .nil), (ar.tidyFrom (tS k n (D.tidyFrom []).2)).2) := by
    rw [Ts.tidyFrom_app]; rfl
  have hu : ∀ k, u.ownBlock = some k → w.heap.size + 2 ≤ k ∧ k < wr.heap.size := fun k hk => hlt k hk
  refine ⟨by rw [h.split, Ts.app_assoc]; rfl, by rw [Ts.length_app]; exact ho3, ?_, ?_, ?_, by have := hg.size; omega⟩
  · rw [e]
    have h1 : Cs W (fun k => (w.heap.size + 2 ≤ k ∧ v3.ownBlock ≠ some k) ∧ u.ownBlock ≠ some k) ((D.tidyFrom []).1.app (.cons k (tV k n (D.tidyFrom []).2) s (ar.tidyFrom (tS k n (D.tidyFrom []).2)).1 .nil)) (xs ++ [.int .i64 k, .int .i64 (tV k n (D.tidyFrom []).2), .string s, v]) := by
      refine Cs.app ?_ ⟨v, [], rfl, ?_, rfl⟩
      · refine (h.cs.imp (q := fun k => (w.heap.size + 2 ≤ k ∧ v3.ownBlock ≠ some k) ∧ u.ownBlock ≠ some k) fun k hk hl => ⟨⟨hk.1, ?_⟩, hk.2⟩).keep fun k hk hl => hC.block k hl (by omega)
        rcases hat with e | e <;> rw [e]
        · exact hk.2
        · intro e2; simp at e2; omega
      · refine hv.imp fun k hk hl => ⟨⟨by omega, ?_⟩, ?_⟩
        · rcases hat with e | e <;> rw [e]
          · intro e2; have := hu k e2; omega
          · intro e2; simp at e2; omega
        · intro e2; have := hu k e2; omega
    exact (h1.keep (w' := w3) fun k hk hl => hg.block k hl (fun e => hk.2 e.symm)).imp fun k hk _ => hk.1
  · rw [e]
    refine (numTidied_ok _ _).keep _ W _ hI fun k hk => ?_
    have h1 := (numTidied_ok _ _).lt _ _ _ hI hk
    refine hg.block k h1 (fun e => ?_)
    have := hu _ e.symm
    have e2 : k = w.heap.size + 1 ∨ k = w.heap.size := hk
    omega
  · refine (h.chg.trans (hC.below (by omega) fun k hk _ => by omega)).grown hg (by omega) fun k hk => by have := hu k hk; omega

set_option maxHeartbeats 400000 in
theorem tidied_any (T : Ts) (v : Value) (w : World) (hv : Sl w (fun _ => True) v T) (hn : T.nodes ≤ 1048576) :
    Calls Try.prog 17 #[v] w fun e w' => ∃ v', e = .returned v' ∧ Sl w' (fun k => w.heap.size ≤ k) v' T.tidy ∧ Below w.heap.size w w' := by
  obtain ⟨A, c, rfl, hs⟩ := hv.form
  have hle := T.length_le
  obtain ⟨i0, hi0, hz0, hz1, hz2⟩ := info_parts info_term
  have hmk := run_makeMap (P := Try.prog) 69
  have hW : Below w.heap.size w ((w.alloc (.map #[] 0)).alloc (.cells #[.map (some w.heap.size)] 69)) := ((Below.refl _ _).alloc (Nat.le_refl _) _).alloc (by simp) _
  have h0 : TdLoop w T T.length (.slice none 0 0) (.int .i64 0) ((w.alloc (.map #[] 0)).alloc (.cells #[.map (some w.heap.size)] 69)) := by
    refine ⟨.nil, T, [], ⟨rfl, World.ownsRow_nil _ _ _ _, rfl, ⟨?_, ?_⟩, hW, by simp⟩, rfl, rfl⟩
    · have := Plot.new (w.alloc (.map #[] 0)) 69 #[.map (some w.heap.size)]
      simpa using this
    · exact (MapIs.made w).keep (Below.heap_alloc _ _ _ (by simp))
  go_enter Try.func17, Try.ntmps17
  go_wp2_with fail
  go_loopg [4, 10] T.length (TdLoop w T)
  case atStart => exact h0
  case round =>
    clear h0
    obtain ⟨D, R, xs, hrel, hg, rfl⟩ := hrel
    have HG := Lib.hid hg
    clear hg
    obtain ⟨Au, cu, hu⟩ := own_form hrel.own
    subst hu
    cases R with
    | nil =>
      have e1 : D.length = T.length := by rw [hrel.split, Ts.app_nil]
      have eD : D = T := by rw [hrel.split, Ts.app_nil]
      subst eD
      have hsl : Sl wr (fun k => w.heap.size ≤ k) (.slice Au D.length cu) D.tidy := by
        have h1 := hrel.own
        have e : (D.tidyFrom []).1.length = D.length := Ts.length_ren _ D []
        rw [← e] at h1
        have h2 := Sl.own h1 (hrel.cs.imp fun k hk _ => hk.1) fun g hg => (h1.lt g hg).1
        rw [e] at h2
        exact h2.imp fun k hk _ => by omega
      have hb := hrel.chg
      clear hrel
      go_wp2_with fail
      go_ret
      exact ⟨_, rfl, hsl, hb⟩
    | cons k n s ar r =>
      have hI := hrel.inv
      have e1 : D.length < T.length := by rw [hrel.split, Ts.length_app]; simp [Ts.length]
      have e2 : ar.nodes ≤ 1048576 := by
        have h := hrel.split
        rw [h, Ts.nodes_app] at hn
        simp [Ts.nodes] at hn
        omega
      have hsl : Sl wr (fun k => k < w.heap.size) (.slice A T.length c) (D.app (.cons k n s ar r)) := by
        rw [← hrel.split]
        exact (hs.imp (q := fun k => k < w.heap.size) fun k _ h => h).below hrel.chg
      obtain ⟨b1, o1, rfl, hq1⟩ := Sl.at_ hsl (by simp [Ts.length])
      obtain ⟨_, c10, c11, c12, ⟨v1, c13, hv1⟩, _⟩ := seg_cons.1 hq1
      obtain ⟨A1, d1, rfl, hv1⟩ := hv1.form
      have hz := hrel.size
      have hI1 : (numTidied (w.heap.size + 1) w.heap.size).inv (D.tidyFrom []).2 (wr.alloc (.cells #[.int .i64 k, .int .i64 n, .string s, .slice A1 ar.length d1] 24)) :=
        (numTidied_ok _ _).keep _ wr _ hI fun k hk => Below.heap_alloc _ _ _ ((numTidied_ok _ _).lt _ _ _ hI hk)
      clear hq1 hsl
      go_wp2_with fail
      refine (ren_said (numTidied_ok (w.heap.size + 1) w.heap.size) ar k n s _ _ _ (hv1.any.below ((Below.refl _ _).alloc (Nat.le_refl _) _)) hI1 e2).mono ?_
      rintro e w2 ⟨v', rfl, hv', hI2, hc2⟩
      rw [show (numTidied (w.heap.size + 1) w.heap.size).v1 k n (D.tidyFrom []).2 = tV k n (D.tidyFrom []).2 from rfl]
      rw [ren_tidied, show (numTidied (w.heap.size + 1) w.heap.size).s1 k n (D.tidyFrom []).2 = tS k n (D.tidyFrom []).2 from rfl] at hv' hI2
      obtain ⟨Aw, cw, rfl, hv'⟩ := hv'.form
      have hzz : wr.heap.size < w2.heap.size := by have := hc2.size; simp at this; omega
      have hC3 : Chg (fun k => k = w.heap.size) wr (w2.alloc (.cells #[.int .i64 k, .int .i64 (tV k n (D.tidyFrom []).2), .string s, .slice Aw (ar.tidyFrom (tS k n (D.tidyFrom []).2)).1.length cw] 24)) := (((Chg.refl _ wr).alloc _).trans hc2 fun _ _ h => h).alloc _
      have hI3 : (numTidied (w.heap.size + 1) w.heap.size).inv (ar.tidyFrom (tS k n (D.tidyFrom []).2)).2 (w2.alloc (.cells #[.int .i64 k, .int .i64 (tV k n (D.tidyFrom []).2), .string s, .slice Aw (ar.tidyFrom (tS k n (D.tidyFrom []).2)).1.length cw] 24)) := (numTidied_ok _ _).keep _ w2 _ hI2 fun k hk => Below.heap_alloc _ _ _ ((numTidied_ok _ _).lt _ _ _ hI2 hk)
      have hv3 : Sl (w2.alloc (.cells #[.int .i64 k, .int .i64 (tV k n (D.tidyFrom []).2), .string s, .slice Aw (ar.tidyFrom (tS k n (D.tidyFrom []).2)).1.length cw] 24)) (fun k => wr.heap.size ≤ k) (.slice Aw (ar.tidyFrom (tS k n (D.tidyFrom []).2)).1.length cw) (ar.tidyFrom (tS k n (D.tidyFrom []).2)).1 :=
        (hv'.below ((Below.refl _ _).alloc (Nat.le_refl _) _)).imp fun k hk _ => by simp at hk; omega
      have ho3 := own_chg hrel.own hC3 fun g hg => by have := (hrel.own.lt g hg).1; omega
      go_wp2_with (at_builtin; refine wpList_append_at _ rfl (.tmp 14) (.tmp 18) _ rfl (w.heap.size + 2) 24 i0 _ 4 56 Try.underlying22 hi0 hz0 hz1 hz2 rfl (by omega) (.slice Au D.length cu) D.length xs rfl ho3 ⟨w2.heap.size, 0, none⟩ 1 1 [.int .i64 k, .int .i64 (tV k n (D.tidyFrom []).2), .string s, .slice Aw (ar.tidyFrom (tS k n (D.tidyFrom []).2)).1.length cw] rfl rfl (cell_lit w2 _ _) (by simp [Value.oneCell']) (by simp only [maxLen]; omega) (by omega) (by simp; omega) ?next)
      case next =>
        intro v3 w3 hov hg hat
        have hat' : v3.ownBlock = (Value.slice Au D.length cu).ownBlock ∨ v3.ownBlock = some (w2.alloc (.cells #[.int .i64 k, .int .i64 (tV k n (D.tidyFrom []).2), .string s, .slice Aw (ar.tidyFrom (tS k n (D.tidyFrom []).2)).1.length cw] 24)).heap.size := by simpa using hat
        have hstep := TdRel.step hrel hC3 hv3 hI3 hov hg hat'
        clear hat hat' hov
        go_wp2_with fail
        go_roundg r.length
        case measure => rw [HG.out]; simp [Ts.length]
        case rel =>
          refine ⟨_, _, _, hstep, rfl, ?_⟩
          rw [Ts.length_app]; rfl
end Go.Proofs.Ytjicoifjgokoiaa
