/-
  rename lays a renamed copy of a term by the path, whatever the numbering, in the order in which the reference goes.
-/
import Derived.Test.YtjicoifjgokoiaaPath
import Derived.Test.YtjicoifjgokoiaaRen
namespace Go.Proofs.Ytjicoifjgokoiaa
open Go.RowKit

/-- Is a cell one of those that are still to be visited? -/
def InS (L : List Lev) (k i : Nat) : Prop := ∃ l ∈ L, l.b = k ∧ l.o ≤ i ∧ i < l.o + 4 * l.T.length
/-- Block k is a row of terms' cells. -/
def T24 (w : World) (k : Nat) : Prop := ∃ cur, Plot w k 24 cur
/-- In w' all levels have been visited, from the state s on to the state sf. -/
def RenL {σ : Type} (N : Num σ) (B : Nat) (w' : World) : List Lev → σ → σ → Prop
  | [], s, sf => sf = s
  | l :: r, s, sf => Seg w' (fun k => B ≤ k) (l.T.ren N s).1 l.b l.o ∧ RenL N B w' r (l.T.ren N s).2 sf
/-- What is not to be visited has not turned. -/
def Fr (L : List Lev) (w w' : World) : Prop := ∀ k i v, T24 w k → ¬ InS L k i → w.cell? ⟨k, i, none⟩ = some v → w'.cell? ⟨k, i, none⟩ = some v

/-- A level's cells are those of terms of the first world. -/
def LevIs (w0 w : World) (B : Nat) (l : Lev) : Prop :=
  B ≤ l.b ∧ ∃ cur xs, Plot w l.b 24 cur ∧ Cs w0 (fun _ => True) l.T xs ∧ ∀ j u, xs[j]? = some u → cur[l.o + j]? = some u

structure RnRel {σ : Type} (N : Num σ) (w0 : World) (s0 : σ) (T : Ts) (out : Value) (pb : Nat) (L : List Lev) (s : σ) (pv : Value) (xs : List Value) (w : World) : Prop where
  path : IsPath w w0.heap.size pb pv xs
  pbl : w0.heap.size ≤ pb
  pvs : PV L xs
  lev : ∀ l ∈ L, LevIs w0 w w0.heap.size l
  dis : (L.map Lev.b).Nodup
  inv : N.inv s w
  chg : Chg N.own w0 w
  small : nodesOf L ≤ T.nodes
  wand : ∀ w' sf, RenL N w0.heap.size w' L s sf → Fr L w w' → Sl w' (fun k => w0.heap.size ≤ k) out (T.ren N s0).1 ∧ sf = (T.ren N s0).2


theorem mem_push {T : Ts} {b o : Nat} {L : List Lev} {l : Lev} (h : l ∈ push T b o L) : (0 < T.length ∧ l = ⟨b, o, T⟩) ∨ l ∈ L := by
  unfold push at h
  split at h
  · exact .inr h
  · rcases List.mem_cons.1 h with h | h
    · exact .inl ⟨by omega, h⟩
    · exact .inr h
theorem inS_push {T : Ts} {b o k i : Nat} {L : List Lev} (h : InS (push T b o L) k i) : (b = k ∧ o ≤ i ∧ i < o + 4 * T.length) ∨ InS L k i := by
  obtain ⟨l, hl, h⟩ := h
  rcases mem_push hl with ⟨_, rfl⟩ | hl
  · exact .inl h
  · exact .inr ⟨l, hl, h⟩
theorem renL_push {σ : Type} {N : Num σ} {B : Nat} {w' : World} {T : Ts} {b o : Nat} {L : List Lev} {s sf : σ} (h : RenL N B w' (push T b o L) s sf) : Seg w' (fun k => B ≤ k) (T.ren N s).1 b o ∧ RenL N B w' L (T.ren N s).2 sf := by
  unfold push at h
  split at h
  · rename_i h0
    rw [Ts.nil_of_length h0]
    exact ⟨trivial, h⟩
  · exact h

theorem RnRel.step {σ : Type} {N : Num σ} {w0 wr w5 : World} {s0 s : σ} {T : Ts} {out : Value} {pb b o g : Nat} {k n : Int} {t : ByteArray} {ar r : Ts} {L : List Lev} {pv pv5 v v4 : Value} {xs xs5 ys xs4 : List Value} {cur curg : Array Value}
    (h : RnRel N w0 s0 T out pb (⟨b, o, .cons k n t ar r⟩ :: L) s pv xs wr)
    (hcur : Plot wr b 24 cur) (c0 : cur[o]? = some (.int .i64 k)) (c1 : cur[o + 1]? = some (.int .i64 n)) (c2 : cur[o + 2]? = some (.string t)) (c3 : cur[o + 3]? = some v) (hys : Cs w0 (fun _ => True) r ys) (cys : ∀ (j : Nat) u, ys[j]? = some u → cur[o + 4 + j]? = some u)
    (hpath : IsPath w5 w0.heap.size pb pv5 xs5) (hpv : PV (push ar g 0 (push r b (o + 4) L)) xs5) (hxs4 : Cs w0 (fun _ => True) ar xs4)
    (hother : ∀ k' cur', k' ≠ b → Plot wr k' 24 cur' → Plot w5 k' 24 cur')
    (hb5 : Plot w5 b 24 ((cur.setIfInBounds (o + 1) (.int .i64 (N.v1 k n s))).setIfInBounds (o + 3) v4))
    (hv4 : ∃ A c, v4 = .slice A ar.length c ∧ ar.length ≤ c ∧ (0 < ar.length → A = some ⟨g, 0, none⟩))
    (hg : 0 < ar.length → wr.heap.size ≤ g ∧ Plot w5 g 24 curg ∧ ∀ (j : Nat) u, xs4[j]? = some u → curg[j]? = some u)
    (hI : N.inv (N.s1 k n s) w5) (hC : Chg N.own w0 w5) :
    RnRel N w0 s0 T out pb (push ar g 0 (push r b (o + 4) L)) (N.s1 k n s) pv5 xs5 w5 := by
  have hd := h.dis
  simp only [List.map_cons, List.nodup_cons] at hd
  have hne : ∀ l ∈ L, l.b ≠ b := fun l hl e => hd.1 (by rw [← e]; exact List.mem_map_of_mem hl)
  have hbl := hcur.lt
  have hlev : ∀ l ∈ L, l.b < wr.heap.size := fun l hl => by
    obtain ⟨_, _, _, h1, _⟩ := h.lev l (List.mem_cons_of_mem _ hl)
    exact h1.lt
  have hB : w0.heap.size ≤ b := (h.lev _ (List.mem_cons_self ..)).1
  have hBr := h.chg.size
  have hsz : ((cur.setIfInBounds (o + 1) (.int .i64 (N.v1 k n s))).setIfInBounds (o + 3) v4).size = cur.size := by simp
  have hlt : ∀ {i : Nat} {u : Value}, cur[i]? = some u → i < cur.size := fun hu => (Array.getElem?_eq_some_iff.1 hu).1
  have hset : ∀ i u, i ≠ o + 1 → i ≠ o + 3 → cur[i]? = some u → ((cur.setIfInBounds (o + 1) (.int .i64 (N.v1 k n s))).setIfInBounds (o + 3) v4)[i]? = some u := fun i u h1 h3 hu => by
    rw [Array.getElem?_setIfInBounds_ne (by omega), Array.getElem?_setIfInBounds_ne (by omega)]; exact hu
  have d1 : ((cur.setIfInBounds (o + 1) (.int .i64 (N.v1 k n s))).setIfInBounds (o + 3) v4)[o + 1]? = some (.int .i64 (N.v1 k n s)) := by
    rw [Array.getElem?_setIfInBounds_ne (by omega), Array.getElem?_setIfInBounds_self_of_lt (hlt c1)]
  have d3 : ((cur.setIfInBounds (o + 1) (.int .i64 (N.v1 k n s))).setIfInBounds (o + 3) v4)[o + 3]? = some v4 := by
    rw [Array.getElem?_setIfInBounds_self_of_lt (by simpa using hlt c3)]
  refine ⟨hpath, h.pbl, hpv, ?_, ?_, hI, hC, ?_, ?_⟩
  · intro l hl
    rcases mem_push hl with ⟨hp, rfl⟩ | hl
    · obtain ⟨h1, h2, h3⟩ := hg hp
      exact ⟨by show _ ≤ g; omega, curg, xs4, h2, hxs4, fun j u hu => by rw [Nat.zero_add]; exact h3 j u hu⟩
    · rcases mem_push hl with ⟨hp, rfl⟩ | hl
      · exact ⟨hB, _, ys, hb5, hys, fun j u hu => hset _ _ (by show o + 4 + j ≠ _; omega) (by show o + 4 + j ≠ _; omega) (cys j u hu)⟩
      · obtain ⟨h1, cur', zs, h2, h3, h4⟩ := h.lev l (List.mem_cons_of_mem _ hl)
        exact ⟨h1, cur', zs, hother _ _ (hne l hl) h2, h3, h4⟩
  · have h1 : ((push r b (o + 4) L).map Lev.b).Nodup ∧ ∀ l ∈ push r b (o + 4) L, l.b < wr.heap.size := by
      constructor
      · unfold push
        split
        · exact hd.2
        · simpa using hd
      · intro l hl
        rcases mem_push hl with ⟨_, rfl⟩ | hl
        · exact hbl
        · exact hlev l hl
    unfold push
    split
    · exact h1.1
    · rename_i h0
      refine List.nodup_cons.2 ⟨fun hm => ?_, h1.1⟩
      obtain ⟨l, hl, e⟩ := List.mem_map.1 hm
      have h2 := h1.2 l hl
      have h3 := (hg (by omega)).1
      have e' : l.b = g := e
      omega
  · have := h.small
    rw [nodesOf_push, nodesOf_push]
    simp only [nodesOf, List.map_cons, List.sum_cons, Ts.nodes] at this ⊢
    omega
  · intro w' sf hR hF
    refine h.wand w' sf ?_ ?_
    · obtain ⟨hR1, hR2⟩ := renL_push hR
      obtain ⟨hR3, hR4⟩ := renL_push hR2
      have hcell : ∀ i u, (∀ l ∈ L, l.b ≠ b) → i < o + 4 → ((cur.setIfInBounds (o + 1) (.int .i64 (N.v1 k n s))).setIfInBounds (o + 3) v4)[i]? = some u → w'.cell? ⟨b, i, none⟩ = some u := by
        intro i u hL hi hu
        refine hF b i u ⟨_, hb5⟩ ?_ ((hb5.cell i).trans hu)
        intro hin
        rcases inS_push hin with ⟨e, h1, h2⟩ | hin
        · have := (hg (by omega)).1; omega
        · rcases inS_push hin with ⟨_, h1, _⟩ | ⟨l, hl, e, _⟩
          · omega
          · exact hL l hl e
      refine ⟨?_, hR4⟩
      refine seg_cons.2 ⟨hB, hcell o _ hne (by omega) (hset o _ (by omega) (by omega) c0), hcell (o + 1) _ hne (by omega) d1, hcell (o + 2) _ hne (by omega) (hset (o + 2) _ (by omega) (by omega) c2), ⟨v4, hcell (o + 3) _ hne (by omega) d3, ?_⟩, hR3⟩
      obtain ⟨A, c, e, hc, hA⟩ := hv4
      refine ⟨A, c, by rw [Ts.length_ren]; exact e, by rw [Ts.length_ren]; exact hc, fun hp => ?_⟩
      rw [Ts.length_ren] at hp
      exact ⟨g, 0, hA hp, hR1⟩
    · intro k' i u hT hin hu
      obtain ⟨cur', hk'⟩ := hT
      have hk'l := hk'.lt
      by_cases e : k' = b
      · subst e
        have hcc : cur' = cur := by
          unfold Plot at hk' hcur
          rw [hk'] at hcur
          injection hcur with hcur
          injection hcur
        subst hcc
        rw [hk'.cell i] at hu
        have hnot : ¬ (o ≤ i ∧ i < o + 4 * (Ts.cons k n t ar r).length) := fun hh => hin ⟨_, List.mem_cons_self .., rfl, hh⟩
        simp only [Ts.length] at hnot
        refine hF k' i u ⟨_, hb5⟩ ?_ ((hb5.cell i).trans (hset i u (by omega) (by omega) hu))
        intro hin2
        rcases inS_push hin2 with ⟨e, h1, h2⟩ | hin2
        · have := (hg (by omega)).1; omega
        · rcases inS_push hin2 with ⟨_, h1, h2⟩ | ⟨l, hl, e, _⟩
          · omega
          · exact hne l hl e
      · have h5 := hother k' cur' e hk'
        refine hF k' i u ⟨_, h5⟩ ?_ ((h5.cell i).trans ((hk'.cell i).symm.trans hu))
        intro hin2
        rcases inS_push hin2 with ⟨e2, h1, h2⟩ | hin2
        · have := (hg (by omega)).1; omega
        · rcases inS_push hin2 with ⟨e2, _, _⟩ | ⟨l, hl, hh⟩
          · exact e e2.symm
          · exact hin ⟨l, List.mem_cons_of_mem _ hl, hh⟩

def RnLoop {σ : Type} (N : Num σ) (w0 : World) (s0 : σ) (T : Ts) (out : Value) (pb : Nat) (g : Nat) (w : World) : Prop :=
  ∃ L s pv xs, RnRel N w0 s0 T out pb L s pv xs w ∧ g = nodesOf L

theorem info_path : (Try.prog.info? 61).map (fun i => (i.zero, i.size, i.bytes)) = some (some (.slice none 0 0), 1, 24) := by kernel_rfl

theorem Num.Ok.raw {σ : Type} {N : Num σ} (ok : N.Ok) {w w' : World} {s : σ} {v : Value} {l : Nat} {xs : List Value} (h : Raw w v l xs) (hi : N.inv s w) (hc : Chg N.own w w') : Raw w' v l xs := by
  obtain ⟨A, c, e, h1, h2, h3, h4⟩ := h
  refine ⟨A, c, e, h1, h2, h3, fun hl => ?_⟩
  obtain ⟨b, o, e2, h5⟩ := h4 hl
  refine ⟨b, o, e2, fun j u hu => ?_⟩
  have h6 := h5 j u hu
  rw [World.cell?_of_block (w := w) (w' := w') (a := ⟨b, o + j, none⟩) (hc.block b (lt_of_cell h6) fun ho => by rw [ok.cell_none hi ho] at h6; cases h6)]
  exact h6

structure RnMid {σ : Type} (N : Num σ) (w0 wr : World) (pb b : Nat) (pv : Value) (xs : List Value) (cur : Array Value) (s : σ) (wx : World) : Prop where
  path : IsPath wx w0.heap.size pb pv xs
  cur : Plot wx b 24 cur
  other : ∀ k' cur', k' ≠ b → Plot wr k' 24 cur' → Plot wx k' 24 cur'
  inv : N.inv s wx
  chg : Chg N.own w0 wx
  size : wr.heap.size ≤ wx.heap.size

set_option maxHeartbeats 400000 in
theorem rename_any {σ : Type} {N : Num σ} (ok : N.Ok) (T : Ts) (v : Value) (s : σ) (w : World) (hv : Sl w (fun _ => True) v T) (hi : N.inv s w) (hn : T.nodes ≤ 1073741824) :
    Calls Try.prog 39 #[v, .func (.func N.fid) #[] N.cap] w fun e w' => ∃ v', e = .returned v' ∧ Sl w' (fun k => w.heap.size ≤ k) v' (T.ren N s).1 ∧ N.inv (T.ren N s).2 w' ∧ Chg N.own w w' := by
  obtain ⟨xs0, hraw, hcs0⟩ := hv.raw
  have hle := T.length_le
  have hen := ok.enter
  have HLT : Hid (∀ k, N.lean k → k < w.heap.size) := fun k => ok.lt s w k hi
  go_enter Try.func39, Try.ntmps39
  go_wp2_with fail
  refine (clone_raw hraw (by omega)).mono ?_
  rintro e w1 ⟨v1, rfl, ho1, hb1⟩
  obtain ⟨A1, d1, rfl⟩ := own_form ho1
  obtain ⟨hd1, g, cur, hg⟩ := own_blk ho1
  have hB1 := hb1.size
  have hp0 : IsPath (w1.alloc (.cells #[.slice none 0 0] 61)) w.heap.size w1.heap.size (.slice none 0 0) [] := ⟨Plot.new _ _ _, World.ownsRow_nil _ _ _ _, by simp [Value.ownBlock]⟩
  go_wp2_with fail
  refine (add_lev (b := g) (o := 0) (L := []) hp0 rfl (by simp; omega) (by simp [nodesOf]) hd1 (fun h => (hg h).1)).mono ?_
  rintro e w2 ⟨rfl, pv2, xs2, hp2, hpv2, _, hc2⟩
  have hc02 : Chg N.own w w2 := by
    refine ((Chg.of_fresh hb1).alloc _).trans hc2 fun k hk h => ?_
    rcases h with h | h
    · omega
    · simp [Value.ownBlock] at h
  have h0 : RnLoop N w s T (.slice A1 T.length d1) w1.heap.size T.nodes w2 := by
    refine ⟨push T g 0 [], s, pv2, xs2, ⟨hp2, hB1, hpv2, ?_, ?_, ?_, hc02, ?_, ?_⟩, by rw [nodesOf_push]; simp [nodesOf]⟩
    · intro l hl
      rcases mem_push hl with ⟨h, rfl⟩ | h
      · obtain ⟨h1, h2, h3, h4⟩ := hg h
        refine ⟨h2, cur, xs0, (h3.alloc _).chg hc2 ?_, hcs0, fun j u hu => by rw [Nat.zero_add]; exact h4 j u hu⟩
        have := h3.lt
        intro h; rcases h with h | h
        · omega
        · simp [Value.ownBlock] at h
      · cases h
    · unfold push; split <;> simp
    · refine ok.keep s w _ hi fun k hk => ?_
      have := HLT.out k hk
      rw [hc2.block k (by simp; omega) (by simp [Value.ownBlock]; omega), Below.heap_alloc _ _ _ (by omega), hb1.block k this]
    · rw [nodesOf_push]; simp [nodesOf]
    · intro w' sf hR _
      obtain ⟨h1, h2⟩ := renL_push hR
      refine ⟨⟨A1, d1, by rw [Ts.length_ren], by rw [Ts.length_ren]; exact hd1, fun h => ?_⟩, h2⟩
      rw [Ts.length_ren] at h
      exact ⟨g, 0, (hg h).1, h1⟩
  clear hg ho1 hp0 hp2 hpv2
  go_wp2_with fail
  go_loopg [] T.nodes (RnLoop N w s T (.slice A1 T.length d1) w1.heap.size)
  case atStart => exact h0
  case round =>
    clear h0
    obtain ⟨L, s', pv, xs, hrel, hgk⟩ := hrel
    have hpx := hrel.pvs.length
    have hpl := hrel.pvs.le
    have hsm := hrel.small
    obtain ⟨Ap, cp, hpv⟩ := own_form hrel.path.own
    subst hpv
    have cpb : wr.cell? ⟨w1.heap.size, 0, none⟩ = some (.slice Ap xs.length cp) := hrel.path.var.cell 0
    have HG := Lib.hid hgk
    clear hgk
    cases L with
    | nil =>
      have hx : xs = [] := hrel.pvs
      subst hx
      obtain ⟨hsl, hst⟩ := hrel.wand wr s' rfl (fun _ _ _ _ _ h => h)
      subst hst
      have hI := hrel.inv
      have hC := hrel.chg
      clear hrel hpx
      go_wp2_with fail
      go_ret
      exact ⟨_, rfl, hsl, hI, hC⟩
    | cons l Ls =>
      obtain ⟨b, o, T1⟩ := l
      cases T1 with
      | nil => obtain ⟨_, _, _, _, h, _⟩ := hrel.pvs; simp [Ts.length] at h
      | cons k n t ar r =>
      have hxl : 0 < xs.length := by rw [hpx]; simp
      obtain ⟨hbB, cur, zs, hcur, ⟨v, ys, rfl, hva, hcr⟩, hcells⟩ := hrel.lev _ (List.mem_cons_self ..)
      have c0 : cur[o]? = some (.int .i64 k) := hcells 0 _ rfl
      have c1 : cur[o + 1]? = some (.int .i64 n) := hcells 1 _ rfl
      have c2 : cur[o + 2]? = some (.string t) := hcells 2 _ rfl
      have c3 : cur[o + 3]? = some v := hcells 3 _ rfl
      have cys : ∀ (j : Nat) u, ys[j]? = some u → cur[o + 4 + j]? = some u := fun j u hu => by
        have := hcells (j + 4) u (by simpa using hu)
        rwa [show o + (j + 4) = o + 4 + j by omega] at this
      have CYS := Lib.hid cys
      have C0 := Lib.hid c0
      have C1 := Lib.hid c1
      have C2 := Lib.hid c2
      have C3 := Lib.hid c3
      have hn4 : nodesOf (⟨b, o, .cons k n t ar r⟩ :: Ls) ≤ 1073741824 := by omega
      clear cys hcells c0 c1 c2 c3
      go_wp2_with fail
      refine (next_lev hrel.path hrel.pvs hn4).mono ?_
      rintro e w3 ⟨rfl, pv3, xs3, hp3, hpv3, hop3, hc3⟩
      have hb3 : Plot w3 b 24 cur := hrel.path.keep hc3 hcur
      have hoth3 : ∀ k' cur', Plot wr k' 24 cur' → Plot w3 k' 24 cur' := fun k' cur' h => hrel.path.keep hc3 h
      have hpown : ∀ g, (Value.slice Ap xs.length cp).ownBlock = some g → w.heap.size ≤ g ∧ g < wr.heap.size := fun g hg => hrel.path.own.lt g hg
      have hchg3 : Chg N.own w w3 := hrel.chg.trans hc3 fun k hk h => by
        rcases h with h | h
        · omega
        · have := hpown _ h; omega
      have hlean : ∀ k, N.lean k → w3.heap[k]? = wr.heap[k]? := fun k hk => by
        have hk := HLT.out k hk
        refine hc3.block k (by have := hrel.chg.size; omega) fun h => ?_
        rcases h with h | h
        · omega
        · have := hpown _ h; omega
      have hI3 : N.inv s' w3 := ok.keep s' wr _ hrel.inv hlean
      have hz3 := hc3.size
      have a0 : w3.cell? ⟨b, o, none⟩ = some (.int .i64 k) := (hb3.cell o).trans C0.out
      have a1 : w3.cell? ⟨b, o + 1, none⟩ = some (.int .i64 n) := (hb3.cell (o + 1)).trans C1.out
      have HL := Lib.hid hlean
      have HO := Lib.hid hoth3
      have HP := Lib.hid hpown
      clear hlean hoth3 hpown
      go_upto_if 20 with fail
      go_cut [] (fun wx => RnMid N w wr w1.heap.size b pv3 xs3 (cur.setIfInBounds (o + 1) (.int .i64 (N.v1 k n s'))) (N.s1 k n s') wx)
      case first =>
        by_cases hk : k = 0
        · subst hk
          go_wp2_with fail
          refine (ok.call s' n _ hI3).mono ?_
          rintro e w4 ⟨rfl, hI4, hc4⟩
          have hb4 : Plot w4 b 24 cur := hb3.chg hc4 fun ho => ok.bare _ _ _ _ _ _ hI3 ho hb3
          have a2 : w4.cell? ⟨b, o + 1, none⟩ = some (.int .i64 n) := (hb4.cell (o + 1)).trans C1.out
          have f2 : w4.frozen? ⟨b, o + 1, none⟩ = false := hb4.frozen _
          have hp4 : IsPath w4 w.heap.size w1.heap.size pv3 xs3 := hp3.chg hc4 (fun ho => by have := HLT.out _ (ok.sub _ ho); omega) fun g hg ho => by
            have := HLT.out _ (ok.sub _ ho)
            rw [hop3] at hg
            have := HP.out g hg
            omega
          go_wp2_with fail
          go_meet
          refine ⟨hp4.set hb4, hb4.set_ _ _, fun k' cur' hne h => ?_, ?_, ?_, by have := hc4.size; simp [World.setCell]; omega⟩
          · have h3 := HO.out k' cur' h
            exact (h3.chg hc4 fun ho => ok.bare _ _ _ _ _ _ hI3 ho h3).far hne _
          · refine ok.keep _ w4 _ hI4 fun k hk => ?_
            have := HLT.out k hk
            exact Below.heap_setCell _ _ _ _ (by simp; omega)
          · exact (hchg3.trans hc4 fun _ _ h => h).setCell (fun h => by simp at h; omega) _
        · have hk' : (k == 0) = false := by simp [hk]
          have e1 : N.v1 k n s' = n := by simp [Num.v1, hk]
          have e2 : N.s1 k n s' = s' := by simp [Num.s1, hk]
          have E1 := Lib.hid e1
          have E2 := Lib.hid e2
          clear e1 e2
          go_wp2_with fail
          go_meet
          rw [E1.out, E2.out, set_same C1.out]
          exact ⟨hp3, hb3, fun k' cur' _ h => HO.out k' cur' h, hI3, hchg3, hz3⟩
      case rest =>
        obtain ⟨hp5, hb5, ho5, hI5, hc5, hz5⟩ := hcut
        clear hp3 hc3 hb3 hchg3 hI3 a0 a1
        obtain ⟨xs4, hraw4, hcs4⟩ := hva.raw
        obtain ⟨Av, cv, rfl, hva⟩ := hva.form
        have har : ar.length ≤ 1073741824 := by
          have := ar.length_le
          simp only [nodesOf, List.map_cons, List.sum_cons, Ts.nodes] at hn4
          omega
        have hn5 : nodesOf (push r b (o + 4) Ls) ≤ 1073741824 := by
          rw [nodesOf_push]
          simp only [nodesOf, List.map_cons, List.sum_cons, Ts.nodes] at hn4 ⊢
          omega
        have a3 : wc.cell? ⟨b, o + 3, none⟩ = some (.slice Av ar.length cv) := by
          rw [hb5.cell, Array.getElem?_setIfInBounds_ne (by omega)]; exact C3.out
        go_wp2_with fail
        refine (clone_raw (ok.raw hraw4 hi hc5) har).mono ?_
        rintro e w6 ⟨v4, rfl, ho6, hb6⟩
        obtain ⟨A4, d4, rfl⟩ := own_form ho6
        obtain ⟨hd4, g4, cur4, hg4⟩ := own_blk ho6
        have hz6 := hb6.size
        have hbb6 := hb5.below hb6
        have a6 : w6.cell? ⟨b, o + 3, none⟩ = some (.slice Av ar.length cv) := by
          rw [hbb6.cell, Array.getElem?_setIfInBounds_ne (by omega)]; exact C3.out
        have f6 : w6.frozen? ⟨b, o + 3, none⟩ = false := hbb6.frozen _
        have hp6 : IsPath w6 w.heap.size w1.heap.size pv3 xs3 := hp5.chg (Chg.of_fresh (S := fun _ => False) hb6) (fun h => h) fun _ _ h => h
        have hp7 : IsPath (w6.setCell ⟨b, o + 3, none⟩ (.slice A4 ar.length d4)) w.heap.size w1.heap.size pv3 xs3 := hp6.set hbb6
        have hbb7 := hbb6.set_ (o + 3) (.slice A4 ar.length d4)
        have hwz := hrel.chg.size
        have HG4 := Lib.hid hg4
        clear hg4
        go_wp2_with fail
        refine (add_lev (b := g4) (o := 0) hp7 hpv3 (by simp [World.setCell]; omega) hn5 hd4 (fun h => (HG4.out h).1)).mono ?_
        rintro e w8 ⟨rfl, pv8, xs8, hp8, hpv8, hat8, hc8⟩
        have hpown3 : ∀ g, pv3.ownBlock = some g → w.heap.size ≤ g := fun g hg => by rw [hop3] at hg; exact (HP.out g hg).1
        have hstep := RnRel.step (g := g4) (xs4 := xs4) (v4 := .slice A4 ar.length d4) (curg := cur4) hrel hcur C0.out C1.out C2.out C3.out hcr CYS.out hp8 hpv8 hcs4
          (fun k' cur' hne h => hp7.keep hc8 (((ho5 k' cur' hne h).below hb6).far hne _)) (hp7.keep hc8 hbb7) ⟨A4, d4, rfl, hd4, fun h => (HG4.out h).1⟩
          (fun h => by
            obtain ⟨_, h2, h3, h4⟩ := HG4.out h
            have := h3.lt
            exact ⟨by omega, hp7.keep hc8 (h3.far (by simp; intro e; have := hb5.lt; omega) _), h4⟩)
          (ok.keep _ wc _ hI5 fun k hk => by
            have := HLT.out k hk
            rw [hc8.block k (by simp [World.setCell]; omega) (fun h => by rcases h with h | h
                                                                          · omega
                                                                          · have := hpown3 _ h; omega), Below.heap_setCell _ _ _ _ (by simp; omega), hb6.block k (by omega)])
          (((hc5.trans (Chg.of_fresh (S := fun _ => False) hb6) fun _ _ h => h.elim).setCell (fun h => by simp at h; omega) _).trans hc8 fun k hk h => by
            rcases h with h | h
            · omega
            · have := hpown3 _ h; omega)
        clear hat8
        go_wp2_with fail
        go_roundg (nodesOf (push ar g4 0 (push r b (o + 4) Ls)))
        case measure =>
          rw [HG.out, nodesOf_push, nodesOf_push]
          simp only [nodesOf, List.map_cons, List.sum_cons, Ts.nodes]
          omega
        case rel => exact ⟨_, _, _, _, hstep, rfl⟩
end Go.Proofs.Ytjicoifjgokoiaa
