/- Rename, Turns, SModel, XModel, CPure, TidyBy, CPure2, SPure, SPure2, TSim, Tidy, SInv: texts that follow one another, laid into one file. -/
import Derived.Test.YthliapbflkfdiabZ0
import Derived.Test.YthliapbflkfdiabG3
import Derived.Test.YthliapbflkfdiabG1
import Derived.Test.YthliapbflkfdiabG2
namespace Go.Proofs.Ythliapbflkfdiab
open Go.RowKit
def InS (L : List Lev) (k i : Nat) : Prop := ∃ l ∈ L, l.b = k ∧ l.o ≤ i ∧ i < l.o + 4 * l.T.length
def T24 (w : World) (k : Nat) : Prop := ∃ cur, Plot w k 39 cur
def RenL {σ : Type} (N : Num σ) (B : Nat) (w' : World) : List Lev → σ → σ → Prop
 | [], s, sf => sf = s
 | l :: r, s, sf => Seg w' (fun k => B ≤ k) (l.T.ren N s).1 l.b l.o ∧ RenL N B w' r (l.T.ren N s).2 sf
def Fr (L : List Lev) (w w' : World) : Prop := ∀ k i v, T24 w k → ¬ InS L k i → w.cell? ⟨k, i, none⟩ = some v → w'.cell? ⟨k, i, none⟩ = some v
def LevIs (w0 w : World) (B : Nat) (l : Lev) : Prop :=
 B ≤ l.b ∧ ∃ cur xs, Plot w l.b 39 cur ∧ Cs w0 (fun _ => True) l.T xs ∧ ∀ j u, xs[j]? = some u → cur[l.o + j]? = some u
structure RnRel {σ : Type} (N : Num σ) (w0 : World) (s0 : σ) (T : Ts) (out : Value) (pb : Nat) (L : List Lev) (s : σ) (pv : Value) (xs : List Value) (w : World) : Prop where
 path : IsPath w w0.heap.size pb pv xs
 pbl : w0.heap.size ≤ pb
 pvs : PV L xs
 lev : ∀ l ∈ L, LevIs w0 w w0.heap.size l
 dis : (L.map Lev.b).Nodup
 inv : N.inv s w
 chg : Chg N.own w0 w
 small : nodesOf L ≤ T.nodes
 wand : ∀ w' sf, RenL N w0.heap.size w' L s sf → Fr L w w' → Sl w' (fun k => w0.heap.size ≤ k) out (T.ren N s0).1 ∧ sf = (T.ren N s0).2
theorem mem_push {T : Ts} {b o : Nat} {L : List Lev} {l : Lev} (h : l ∈ push T b o L) : (0 < T.length ∧ l = ⟨b, o, T⟩) ∨ l ∈ L := by
 unfold push at h
 split at h
 ·exact .inr h
 ·rcases List.mem_cons.1 h with h | h
  ·exact .inl ⟨by omega, h⟩
  ·exact .inr h
theorem inS_push {T : Ts} {b o k i : Nat} {L : List Lev} (h : InS (push T b o L) k i) : (b = k ∧ o ≤ i ∧ i < o + 4 * T.length) ∨ InS L k i := by
 obtain ⟨l, hl, h⟩ := h
 rcases mem_push hl with ⟨_, rfl⟩ | hl
 ·exact .inl h
 ·exact .inr ⟨l, hl, h⟩
theorem renL_push {σ : Type} {N : Num σ} {B : Nat} {w' : World} {T : Ts} {b o : Nat} {L : List Lev} {s sf : σ} (h : RenL N B w' (push T b o L) s sf) : Seg w' (fun k => B ≤ k) (T.ren N s).1 b o ∧ RenL N B w' L (T.ren N s).2 sf := by
 unfold push at h
 split at h
 ·rename_i h0
  rw [Ts.nil_of_length h0]
  exact ⟨trivial, h⟩
 ·exact h
theorem RnRel.step {σ : Type} {N : Num σ} {w0 wr w5 : World} {s0 s : σ} {T : Ts} {out : Value} {pb b o g : Nat} {k n : Int} {t : ByteArray} {ar r : Ts} {L : List Lev} {pv pv5 v v4 : Value} {xs xs5 ys xs4 : List Value} {cur curg : Array Value}
  (h : RnRel N w0 s0 T out pb (⟨b, o, .cons k n t ar r⟩ :: L) s pv xs wr)
  (hcur : Plot wr b 39 cur) (c0 : cur[o]? = some (.int .i64 k)) (c1 : cur[o + 1]? = some (.int .i64 n)) (c2 : cur[o + 2]? = some (.string t)) (c3 : cur[o + 3]? = some v) (hys : Cs w0 (fun _ => True) r ys) (cys : ∀ (j : Nat) u, ys[j]? = some u → cur[o + 4 + j]? = some u)
  (hpath : IsPath w5 w0.heap.size pb pv5 xs5) (hpv : PV (push ar g 0 (push r b (o + 4) L)) xs5) (hxs4 : Cs w0 (fun _ => True) ar xs4)
  (hother : ∀ k' cur', k' ≠ b → Plot wr k' 39 cur' → Plot w5 k' 39 cur')
  (hb5 : Plot w5 b 39 ((cur.setIfInBounds (o + 1) (.int .i64 (N.v1 k n s))).setIfInBounds (o + 3) v4))
  (hv4 : ∃ A c, v4 = .slice A ar.length c ∧ ar.length ≤ c ∧ (0 < ar.length → A = some ⟨g, 0, none⟩))
  (hg : 0 < ar.length → wr.heap.size ≤ g ∧ Plot w5 g 39 curg ∧ ∀ (j : Nat) u, xs4[j]? = some u → curg[j]? = some u)
  (hI : N.inv (N.s1 k n s) w5) (hC : Chg N.own w0 w5) :
  RnRel N w0 s0 T out pb (push ar g 0 (push r b (o + 4) L)) (N.s1 k n s) pv5 xs5 w5 := by
 have hd := h.dis
 simp only [List.map_cons, List.nodup_cons] at hd
 have hne : ∀ l ∈ L, l.b ≠ b := fun l hl e => hd.1 (by rw [← e]; exact List.mem_map_of_mem hl)
 have hbl := hcur.lt
 have hlev : ∀ l ∈ L, l.b < wr.heap.size := fun l hl => by
  obtain ⟨_, _, _, h1, _⟩ := h.lev l (List.mem_cons_of_mem _ hl)
  exact h1.lt
 have hB : w0.heap.size ≤ b := (h.lev _ (List.mem_cons_self ..)).1
 have hBr := h.chg.size
 have hsz : ((cur.setIfInBounds (o + 1) (.int .i64 (N.v1 k n s))).setIfInBounds (o + 3) v4).size = cur.size := by simp
 have hlt : ∀ {i : Nat} {u : Value}, cur[i]? = some u → i < cur.size := fun hu => (Array.getElem?_eq_some_iff.1 hu).1
 have hset : ∀ i u, i ≠ o + 1 → i ≠ o + 3 → cur[i]? = some u → ((cur.setIfInBounds (o + 1) (.int .i64 (N.v1 k n s))).setIfInBounds (o + 3) v4)[i]? = some u := fun i u h1 h3 hu => by
  rw [Array.getElem?_setIfInBounds_ne (by omega), Array.getElem?_setIfInBounds_ne (by omega)]; exact hu
 have d1 : ((cur.setIfInBounds (o + 1) (.int .i64 (N.v1 k n s))).setIfInBounds (o + 3) v4)[o + 1]? = some (.int .i64 (N.v1 k n s)) := by
  rw [Array.getElem?_setIfInBounds_ne (by omega), Array.getElem?_setIfInBounds_self_of_lt (hlt c1)]
 have d3 : ((cur.setIfInBounds (o + 1) (.int .i64 (N.v1 k n s))).setIfInBounds (o + 3) v4)[o + 3]? = some v4 := by
  rw [Array.getElem?_setIfInBounds_self_of_lt (by simpa using hlt c3)]
 refine ⟨hpath, h.pbl, hpv, ?_, ?_, hI, hC, ?_, ?_⟩
 ·intro l hl
  rcases mem_push hl with ⟨hp, rfl⟩ | hl
  ·obtain ⟨h1, h2, h3⟩ := hg hp
   exact ⟨by show _ ≤ g; omega, curg, xs4, h2, hxs4, fun j u hu => by rw [Nat.zero_add]; exact h3 j u hu⟩
  ·rcases mem_push hl with ⟨hp, rfl⟩ | hl
   ·exact ⟨hB, _, ys, hb5, hys, fun j u hu => hset _ _ (by show o + 4 + j ≠ _; omega) (by show o + 4 + j ≠ _; omega) (cys j u hu)⟩
   ·obtain ⟨h1, cur', zs, h2, h3, h4⟩ := h.lev l (List.mem_cons_of_mem _ hl)
    exact ⟨h1, cur', zs, hother _ _ (hne l hl) h2, h3, h4⟩
 ·have h1 : ((push r b (o + 4) L).map Lev.b).Nodup ∧ ∀ l ∈ push r b (o + 4) L, l.b < wr.heap.size := by
   constructor
   ·unfold push
    split
    ·exact hd.2
    ·simpa using hd
   ·intro l hl
    rcases mem_push hl with ⟨_, rfl⟩ | hl
    ·exact hbl
    ·exact hlev l hl
  unfold push
  split
  ·exact h1.1
  ·rename_i h0
   refine List.nodup_cons.2 ⟨fun hm => ?_, h1.1⟩
   obtain ⟨l, hl, e⟩ := List.mem_map.1 hm
   have h2 := h1.2 l hl
   have h3 := (hg (by omega)).1
   have e' : l.b = g := e
   omega
 ·have := h.small
  rw [nodesOf_push, nodesOf_push]
  simp only [nodesOf, List.map_cons, List.sum_cons, Ts.nodes] at this ⊢
  omega
 ·intro w' sf hR hF
  refine h.wand w' sf ?_ ?_
  ·obtain ⟨hR1, hR2⟩ := renL_push hR
   obtain ⟨hR3, hR4⟩ := renL_push hR2
   have hcell : ∀ i u, (∀ l ∈ L, l.b ≠ b) → i < o + 4 → ((cur.setIfInBounds (o + 1) (.int .i64 (N.v1 k n s))).setIfInBounds (o + 3) v4)[i]? = some u → w'.cell? ⟨b, i, none⟩ = some u := by
    intro i u hL hi hu
    refine hF b i u ⟨_, hb5⟩ ?_ ((hb5.cell i).trans hu)
    intro hin
    rcases inS_push hin with ⟨e, h1, h2⟩ | hin
    ·have := (hg (by omega)).1; omega
    ·rcases inS_push hin with ⟨_, h1, _⟩ | ⟨l, hl, e, _⟩
     ·omega
     ·exact hL l hl e
   refine ⟨?_, hR4⟩
   refine seg_cons.2 ⟨hB, hcell o _ hne (by omega) (hset o _ (by omega) (by omega) c0), hcell (o + 1) _ hne (by omega) d1, hcell (o + 2) _ hne (by omega) (hset (o + 2) _ (by omega) (by omega) c2), ⟨v4, hcell (o + 3) _ hne (by omega) d3, ?_⟩, hR3⟩
   obtain ⟨A, c, e, hc, hA⟩ := hv4
   refine ⟨A, c, by rw [Ts.length_ren]; exact e, by rw [Ts.length_ren]; exact hc, fun hp => ?_⟩
   rw [Ts.length_ren] at hp
   exact ⟨g, 0, hA hp, hR1⟩
  ·intro k' i u hT hin hu
   obtain ⟨cur', hk'⟩ := hT
   have hk'l := hk'.lt
   by_cases e : k' = b
   ·subst e
    have hcc : cur' = cur := by
     unfold Plot at hk' hcur
     rw [hk'] at hcur
     injection hcur with hcur
     injection hcur
    subst hcc
    rw [hk'.cell i] at hu
    have hnot : ¬ (o ≤ i ∧ i < o + 4 * (Ts.cons k n t ar r).length) := fun hh => hin ⟨_, List.mem_cons_self .., rfl, hh⟩
    simp only [Ts.length] at hnot
    refine hF k' i u ⟨_, hb5⟩ ?_ ((hb5.cell i).trans (hset i u (by omega) (by omega) hu))
    intro hin2
    rcases inS_push hin2 with ⟨e, h1, h2⟩ | hin2
    ·have := (hg (by omega)).1; omega
    ·rcases inS_push hin2 with ⟨_, h1, h2⟩ | ⟨l, hl, e, _⟩
     ·omega
     ·exact hne l hl e
   ·have h5 := hother k' cur' e hk'
    refine hF k' i u ⟨_, h5⟩ ?_ ((h5.cell i).trans ((hk'.cell i).symm.trans hu))
    intro hin2
    rcases inS_push hin2 with ⟨e2, h1, h2⟩ | hin2
    ·have := (hg (by omega)).1; omega
    ·rcases inS_push hin2 with ⟨e2, _, _⟩ | ⟨l, hl, hh⟩
     ·exact e e2.symm
     ·exact hin ⟨l, List.mem_cons_of_mem _ hl, hh⟩
def RnLoop {σ : Type} (N : Num σ) (w0 : World) (s0 : σ) (T : Ts) (out : Value) (pb : Nat) (g : Nat) (w : World) : Prop :=
 ∃ L s pv xs, RnRel N w0 s0 T out pb L s pv xs w ∧ g = nodesOf L
theorem Num.Ok.raw {σ : Type} {N : Num σ} (ok : N.Ok) {w w' : World} {s : σ} {v : Value} {l : Nat} {xs : List Value} (h : Raw w v l xs) (hi : N.inv s w) (hc : Chg N.own w w') : Raw w' v l xs := by
 obtain ⟨A, c, e, h1, h2, h3, h4⟩ := h
 refine ⟨A, c, e, h1, h2, h3, fun hl => ?_⟩
 obtain ⟨b, o, e2, h5⟩ := h4 hl
 refine ⟨b, o, e2, fun j u hu => ?_⟩
 have h6 := h5 j u hu
 rw [World.cell?_of_block (w := w) (w' := w') (a := ⟨b, o + j, none⟩) (hc.block b (lt_of_cell h6) fun ho => by rw [ok.cell_none hi ho] at h6; cases h6)]
 exact h6
structure RnMid {σ : Type} (N : Num σ) (w0 wr : World) (pb b : Nat) (pv : Value) (xs : List Value) (cur : Array Value) (s : σ) (wx : World) : Prop where
 path : IsPath wx w0.heap.size pb pv xs
 cur : Plot wx b 39 cur
 other : ∀ k' cur', k' ≠ b → Plot wr k' 39 cur' → Plot wx k' 39 cur'
 inv : N.inv s wx
 chg : Chg N.own w0 wx
 size : wr.heap.size ≤ wx.heap.size
set_option maxHeartbeats 400000 in
theorem rename_any {σ : Type} {N : Num σ} (ok : N.Ok) (T : Ts) (v : Value) (s : σ) (w : World) (hv : Sl w (fun _ => True) v T) (hi : N.inv s w) (hn : T.nodes ≤ 1073741824) :
  Calls Try.prog 68 #[v, .func (.func N.fid) #[] N.cap] w fun e w' => ∃ v', e = .returned v' ∧ Sl w' (fun k => w.heap.size ≤ k) v' (T.ren N s).1 ∧ N.inv (T.ren N s).2 w' ∧ Chg N.own w w' := by
 obtain ⟨xs0, hraw, hcs0⟩ := hv.raw
 have hle := T.length_le
 have hen := ok.enter
 have HLT : Hid (∀ k, N.lean k → k < w.heap.size) := fun k => ok.lt s w k hi
 go_enter Try.func68, Try.ntmps68
 go_wp2_with fail
 refine (clone_raw hraw (by omega)).mono ?_
 rintro e w1 ⟨v1, rfl, ho1, hb1⟩
 obtain ⟨A1, d1, rfl⟩ := own_form ho1
 obtain ⟨hd1, g, cur, hg⟩ := own_blk ho1
 have hB1 := hb1.size
 have hp0 : IsPath (w1.alloc (.cells #[.slice none 0 0] 125)) w.heap.size w1.heap.size (.slice none 0 0) [] := ⟨Plot.new _ _ _, World.ownsRow_nil _ _ _ _, by simp [Value.ownBlock]⟩
 go_wp2_with fail
 refine (add_lev (b := g) (o := 0) (L := []) hp0 rfl (by simp; omega) (by simp [nodesOf]) hd1 (fun h => (hg h).1)).mono ?_
 rintro e w2 ⟨rfl, pv2, xs2, hp2, hpv2, _, hc2⟩
 have hc02 : Chg N.own w w2 := by
  refine ((Chg.of_fresh hb1).alloc _).trans hc2 fun k hk h => ?_
  rcases h with h | h
  ·omega
  ·simp [Value.ownBlock] at h
 have h0 : RnLoop N w s T (.slice A1 T.length d1) w1.heap.size T.nodes w2 := by
  refine ⟨push T g 0 [], s, pv2, xs2, ⟨hp2, hB1, hpv2, ?_, ?_, ?_, hc02, ?_, ?_⟩, by rw [nodesOf_push]; simp [nodesOf]⟩
  ·intro l hl
   rcases mem_push hl with ⟨h, rfl⟩ | h
   ·obtain ⟨h1, h2, h3, h4⟩ := hg h
    refine ⟨h2, cur, xs0, (h3.alloc _).chg hc2 ?_, hcs0, fun j u hu => by rw [Nat.zero_add]; exact h4 j u hu⟩
    have := h3.lt
    intro h; rcases h with h | h
    ·omega
    ·simp [Value.ownBlock] at h
   ·cases h
  ·unfold push; split <;> simp
  ·refine ok.keep s w _ hi fun k hk => ?_
   have := HLT.out k hk
   rw [hc2.block k (by simp; omega) (by simp [Value.ownBlock]; omega), Below.heap_alloc _ _ _ (by omega), hb1.block k this]
  ·rw [nodesOf_push]; simp [nodesOf]
  ·intro w' sf hR _
   obtain ⟨h1, h2⟩ := renL_push hR
   refine ⟨⟨A1, d1, by rw [Ts.length_ren], by rw [Ts.length_ren]; exact hd1, fun h => ?_⟩, h2⟩
   rw [Ts.length_ren] at h
   exact ⟨g, 0, (hg h).1, h1⟩
 clear hg ho1 hp0 hp2 hpv2
 go_wp2_with fail
 go_loopg [] T.nodes (RnLoop N w s T (.slice A1 T.length d1) w1.heap.size)
 case atStart => exact h0
 case round =>
  clear h0
  obtain ⟨L, s', pv, xs, hrel, hgk⟩ := hrel
  have hpx := hrel.pvs.length
  have hpl := hrel.pvs.le
  have hsm := hrel.small
  obtain ⟨Ap, cp, hpv⟩ := own_form hrel.path.own
  subst hpv
  have cpb : wr.cell? ⟨w1.heap.size, 0, none⟩ = some (.slice Ap xs.length cp) := hrel.path.var.cell 0
  have HG := Lib.hid hgk
  clear hgk
  cases L with
  | nil =>
   have hx : xs = [] := hrel.pvs
   subst hx
   obtain ⟨hsl, hst⟩ := hrel.wand wr s' rfl (fun _ _ _ _ _ h => h)
   subst hst
   have hI := hrel.inv
   have hC := hrel.chg
   clear hrel hpx
   go_wp2_with fail
   go_ret
   exact ⟨_, rfl, hsl, hI, hC⟩
  | cons l Ls =>
   obtain ⟨b, o, T1⟩ := l
   cases T1 with
   | nil => obtain ⟨_, _, _, _, h, _⟩ := hrel.pvs; simp [Ts.length] at h
   | cons k n t ar r =>
   have hxl : 0 < xs.length := by rw [hpx]; simp
   obtain ⟨hbB, cur, zs, hcur, ⟨v, ys, rfl, hva, hcr⟩, hcells⟩ := hrel.lev _ (List.mem_cons_self ..)
   have c0 : cur[o]? = some (.int .i64 k) := hcells 0 _ rfl
   have c1 : cur[o + 1]? = some (.int .i64 n) := hcells 1 _ rfl
   have c2 : cur[o + 2]? = some (.string t) := hcells 2 _ rfl
   have c3 : cur[o + 3]? = some v := hcells 3 _ rfl
   have cys : ∀ (j : Nat) u, ys[j]? = some u → cur[o + 4 + j]? = some u := fun j u hu => by
    have := hcells (j + 4) u (by simpa using hu)
    rwa [show o + (j + 4) = o + 4 + j by omega] at this
   have CYS := Lib.hid cys
   have C0 := Lib.hid c0
   have C1 := Lib.hid c1
   have C2 := Lib.hid c2
   have C3 := Lib.hid c3
   have hn4 : nodesOf (⟨b, o, .cons k n t ar r⟩ :: Ls) ≤ 1073741824 := by omega
   clear cys hcells c0 c1 c2 c3
   go_wp2_with fail
   refine (next_lev hrel.path hrel.pvs hn4).mono ?_
   rintro e w3 ⟨rfl, pv3, xs3, hp3, hpv3, hop3, hc3⟩
   have hb3 : Plot w3 b 39 cur := hrel.path.keep hc3 hcur
   have hoth3 : ∀ k' cur', Plot wr k' 39 cur' → Plot w3 k' 39 cur' := fun k' cur' h => hrel.path.keep hc3 h
   have hpown : ∀ g, (Value.slice Ap xs.length cp).ownBlock = some g → w.heap.size ≤ g ∧ g < wr.heap.size := fun g hg => hrel.path.own.lt g hg
   have hchg3 : Chg N.own w w3 := hrel.chg.trans hc3 fun k hk h => by
    rcases h with h | h
    ·omega
    ·have := hpown _ h; omega
   have hlean : ∀ k, N.lean k → w3.heap[k]? = wr.heap[k]? := fun k hk => by
    have hk := HLT.out k hk
    refine hc3.block k (by have := hrel.chg.size; omega) fun h => ?_
    rcases h with h | h
    ·omega
    ·have := hpown _ h; omega
   have hI3 : N.inv s' w3 := ok.keep s' wr _ hrel.inv hlean
   have hz3 := hc3.size
   have a0 : w3.cell? ⟨b, o, none⟩ = some (.int .i64 k) := (hb3.cell o).trans C0.out
   have a1 : w3.cell? ⟨b, o + 1, none⟩ = some (.int .i64 n) := (hb3.cell (o + 1)).trans C1.out
   have HL := Lib.hid hlean
   have HO := Lib.hid hoth3
   have HP := Lib.hid hpown
   clear hlean hoth3 hpown
   go_upto_if 20 with fail
   go_cut [] (fun wx => RnMid N w wr w1.heap.size b pv3 xs3 (cur.setIfInBounds (o + 1) (.int .i64 (N.v1 k n s'))) (N.s1 k n s') wx)
   case first =>
    by_cases hk : k = 0
    ·subst hk
     go_wp2_with fail
     refine (ok.call s' n _ hI3).mono ?_
     rintro e w4 ⟨rfl, hI4, hc4⟩
     have hb4 : Plot w4 b 39 cur := hb3.chg hc4 fun ho => ok.bare _ _ _ _ _ _ hI3 ho hb3
     have a2 : w4.cell? ⟨b, o + 1, none⟩ = some (.int .i64 n) := (hb4.cell (o + 1)).trans C1.out
     have f2 : w4.frozen? ⟨b, o + 1, none⟩ = false := hb4.frozen _
     have hp4 : IsPath w4 w.heap.size w1.heap.size pv3 xs3 := hp3.chg hc4 (fun ho => by have := HLT.out _ (ok.sub _ ho); omega) fun g hg ho => by
      have := HLT.out _ (ok.sub _ ho)
      rw [hop3] at hg
      have := HP.out g hg
      omega
     go_wp2_with fail
     go_meet
     refine ⟨hp4.set hb4, hb4.set_ _ _, fun k' cur' hne h => ?_, ?_, ?_, by have := hc4.size; simp [World.setCell]; omega⟩
     ·have h3 := HO.out k' cur' h
      exact (h3.chg hc4 fun ho => ok.bare _ _ _ _ _ _ hI3 ho h3).far hne _
     ·refine ok.keep _ w4 _ hI4 fun k hk => ?_
      have := HLT.out k hk
      exact Below.heap_setCell _ _ _ _ (by simp; omega)
     ·exact (hchg3.trans hc4 fun _ _ h => h).setCell (fun h => by simp at h; omega) _
    ·have hk' : (k == 0) = false := by simp [hk]
     have e1 : N.v1 k n s' = n := by simp [Num.v1, hk]
     have e2 : N.s1 k n s' = s' := by simp [Num.s1, hk]
     have E1 := Lib.hid e1
     have E2 := Lib.hid e2
     clear e1 e2
     go_wp2_with fail
     go_meet
     rw [E1.out, E2.out, set_same C1.out]
     exact ⟨hp3, hb3, fun k' cur' _ h => HO.out k' cur' h, hI3, hchg3, hz3⟩
   case rest =>
    obtain ⟨hp5, hb5, ho5, hI5, hc5, hz5⟩ := hcut
    clear hp3 hc3 hb3 hchg3 hI3 a0 a1
    obtain ⟨xs4, hraw4, hcs4⟩ := hva.raw
    obtain ⟨Av, cv, rfl, hva⟩ := hva.form
    have har : ar.length ≤ 1073741824 := by
     have := ar.length_le
     simp only [nodesOf, List.map_cons, List.sum_cons, Ts.nodes] at hn4
     omega
    have hn5 : nodesOf (push r b (o + 4) Ls) ≤ 1073741824 := by
     rw [nodesOf_push]
     simp only [nodesOf, List.map_cons, List.sum_cons, Ts.nodes] at hn4 ⊢
     omega
    have a3 : wc.cell? ⟨b, o + 3, none⟩ = some (.slice Av ar.length cv) := by
     rw [hb5.cell, Array.getElem?_setIfInBounds_ne (by omega)]; exact C3.out
    go_wp2_with fail
    refine (clone_raw (ok.raw hraw4 hi hc5) har).mono ?_
    rintro e w6 ⟨v4, rfl, ho6, hb6⟩
    obtain ⟨A4, d4, rfl⟩ := own_form ho6
    obtain ⟨hd4, g4, cur4, hg4⟩ := own_blk ho6
    have hz6 := hb6.size
    have hbb6 := hb5.below hb6
    have a6 : w6.cell? ⟨b, o + 3, none⟩ = some (.slice Av ar.length cv) := by
     rw [hbb6.cell, Array.getElem?_setIfInBounds_ne (by omega)]; exact C3.out
    have f6 : w6.frozen? ⟨b, o + 3, none⟩ = false := hbb6.frozen _
    have hp6 : IsPath w6 w.heap.size w1.heap.size pv3 xs3 := hp5.chg (Chg.of_fresh (S := fun _ => False) hb6) (fun h => h) fun _ _ h => h
    have hp7 : IsPath (w6.setCell ⟨b, o + 3, none⟩ (.slice A4 ar.length d4)) w.heap.size w1.heap.size pv3 xs3 := hp6.set hbb6
    have hbb7 := hbb6.set_ (o + 3) (.slice A4 ar.length d4)
    have hwz := hrel.chg.size
    have HG4 := Lib.hid hg4
    clear hg4
    go_wp2_with fail
    refine (add_lev (b := g4) (o := 0) hp7 hpv3 (by simp [World.setCell]; omega) hn5 hd4 (fun h => (HG4.out h).1)).mono ?_
    rintro e w8 ⟨rfl, pv8, xs8, hp8, hpv8, hat8, hc8⟩
    have hpown3 : ∀ g, pv3.ownBlock = some g → w.heap.size ≤ g := fun g hg => by rw [hop3] at hg; exact (HP.out g hg).1
    have hstep := RnRel.step (g := g4) (xs4 := xs4) (v4 := .slice A4 ar.length d4) (curg := cur4) hrel hcur C0.out C1.out C2.out C3.out hcr CYS.out hp8 hpv8 hcs4
     (fun k' cur' hne h => hp7.keep hc8 (((ho5 k' cur' hne h).below hb6).far hne _)) (hp7.keep hc8 hbb7) ⟨A4, d4, rfl, hd4, fun h => (HG4.out h).1⟩
     (fun h => by
      obtain ⟨_, h2, h3, h4⟩ := HG4.out h
      have := h3.lt
      exact ⟨by omega, hp7.keep hc8 (h3.far (by simp; intro e; have := hb5.lt; omega) _), h4⟩)
     (ok.keep _ wc _ hI5 fun k hk => by
      have := HLT.out k hk
      rw [hc8.block k (by simp [World.setCell]; omega) (fun h => by
                                     rcases h with h | h
                                     ·omega
                                     ·have := hpown3 _ h; omega), Below.heap_setCell _ _ _ _ (by simp; omega), hb6.block k (by omega)])
     (((hc5.trans (Chg.of_fresh (S := fun _ => False) hb6) fun _ _ h => h.elim).setCell (fun h => by simp at h; omega) _).trans hc8 fun k hk h => by
       rcases h with h | h
       ·omega
       ·have := hpown3 _ h; omega)
    clear hat8
    go_wp2_with fail
    go_roundg (nodesOf (push ar g4 0 (push r b (o + 4) Ls)))
    case measure =>
     rw [HG.out, nodesOf_push, nodesOf_push]
     simp only [nodesOf, List.map_cons, List.sum_cons, Ts.nodes]
     omega
    case rel => exact ⟨_, _, _, _, hstep, rfl⟩
end Go.Proofs.Ythliapbflkfdiab
namespace Go.Proofs.Ythliapbflkfdiab
open Go.RowKit
theorem Ts.ren_congr {σ : Type} {N M : Num σ} (hv : ∀ s n, N.val s n = M.val s n) (hx : ∀ s n, N.nxt s n = M.nxt s n) (T : Ts) : ∀ s, T.ren N s = T.ren M s := by
 have h1 : ∀ k n s, N.v1 k n s = M.v1 k n s := fun k n s => by simp [Num.v1, hv]
 have h2 : ∀ k n s, N.s1 k n s = M.s1 k n s := fun k n s => by simp [Num.s1, hx]
 induction T with
 | nil => intro s; rfl
 | cons k n b ar r iha ihr => intro s; simp only [Ts.ren, h1, h2, iha, ihr]
def numTidy (vb mb : Nat) : Num (List Int) :=
 { fid := 69, cap := #[.pointer (some ⟨vb, 0, none⟩)], own := fun k => k = mb, lean := fun k => k = vb ∨ k = mb,
   inv := fun ks w => Plot w vb 99 #[.map (some mb)] ∧ NumIs w mb ks, val := numV, nxt := numS }
theorem numTidy_ok (vb mb : Nat) : (numTidy vb mb).Ok where
 keep := fun _ w w' h hk => ⟨(hk vb (.inl rfl)).trans h.1, MapIs.keep h.2 (hk mb (.inr rfl))⟩
 lt := fun _ w k h hk => by
  have e : k = vb ∨ k = mb := hk
  rcases e with rfl | rfl
  ·exact Plot.lt h.1
  ·exact MapIs.lt h.2
 sub := fun _ h => .inr h
 bare := fun ks w k c t f h ho e => by
  have e1 : k = mb := ho
  subst e1
  obtain ⟨es, clock, hb, _⟩ := h.2
  rw [hb] at e
  cases e
 enter := fun args w => by simp [numTidy, go_sem]
 call := fun ks n w h => by
  refine (tidy1_any n ks vb mb w h.1 h.2).mono ?_
  rintro e w' ⟨rfl, h1, h2⟩
  exact ⟨rfl, ⟨h.1.chg h2 fun e => Plot.not_map h.1 h.2 e, h1⟩, h2⟩
def Ts.tidyFrom (T : Ts) (ks : List Int) : Ts × List Int := T.ren (numTidy 0 0) ks
def Ts.tidy (T : Ts) : Ts := (T.tidyFrom []).1
theorem ren_tidy (vb mb : Nat) (T : Ts) (ks : List Int) : T.ren (numTidy vb mb) ks = T.tidyFrom ks := Ts.ren_congr (N := numTidy vb mb) (M := numTidy 0 0) (fun _ _ => rfl) (fun _ _ => rfl) T ks
def shiftN (k n m : Int) : Int := if k = 0 then low n + low m else n
def Ts.shift : Ts → Int → Ts
 | .nil, _ => .nil
 | .cons k n b ar r, m => .cons k (shiftN k n m) b (ar.shift m) (r.shift m)
theorem Ts.shift_cons (k n m : Int) (b : ByteArray) (ar r : Ts) : (Ts.cons k n b ar r).shift m = .cons k (shiftN k n m) b (ar.shift m) (r.shift m) := rfl
set_option maxHeartbeats 400000 in
theorem tidy_any (T : Ts) (v : Value) (w : World) (hv : Sl w (fun _ => True) v T) (hn : T.nodes ≤ 1073741824) :
  Calls Try.prog 38 #[v] w fun e w' => ∃ v', e = .returned v' ∧ Sl w' (fun k => w.heap.size ≤ k) v' T.tidy ∧ Below w.heap.size w w' := by
 have hi : (numTidy (w.heap.size + 1) w.heap.size).inv [] ((w.alloc (.map #[] 0)).alloc (.cells #[.map (some w.heap.size)] 99)) := by
  refine ⟨?_, ?_⟩
  ·have := Plot.new (w.alloc (.map #[] 0)) 99 #[.map (some w.heap.size)]
   simpa using this
  ·exact (MapIs.made w).keep (Below.heap_alloc _ _ _ (by simp))
 have hW : Below w.heap.size w ((w.alloc (.map #[] 0)).alloc (.cells #[.map (some w.heap.size)] 99)) := ((Below.refl _ _).alloc (Nat.le_refl _) _).alloc (by simp) _
 have hsl := hv.below hW
 have hmk := run_makeMap (P := Try.prog) 99
 go_enter Try.func38, Try.ntmps38
 go_wp2_with fail
 refine (rename_any (numTidy_ok (w.heap.size + 1) w.heap.size) T v [] _ hsl hi hn).mono ?_
 rintro e w' ⟨v', rfl, h1, _, h3⟩
 rw [ren_tidy] at h1
 go_wp2_with fail
 go_ret
 refine ⟨_, rfl, h1.imp (fun k hk _ => by simp at hk; omega), hW.trans (h3.below (by simp; omega) fun k hk _ => ?_)⟩
 have e : k = w.heap.size := hk
 omega
def tV (k n : Int) (ks : List Int) : Int := if k = 0 then numV ks n else n
def tS (k n : Int) (ks : List Int) : List Int := if k = 0 then numS ks n else ks
theorem Ts.tidyFrom_cons (k n : Int) (s : ByteArray) (ar r : Ts) (ks : List Int) : (Ts.cons k n s ar r).tidyFrom ks = (.cons k (tV k n ks) s (ar.tidyFrom (tS k n ks)).1 (r.tidyFrom (ar.tidyFrom (tS k n ks)).2).1, (r.tidyFrom (ar.tidyFrom (tS k n ks)).2).2) := rfl
end Go.Proofs.Ythliapbflkfdiab
namespace Go.Proofs.Ythliapbflkfdiab
open Go.RowKit
set_option linter.unusedVariables false
def Tm.shift (t : Tm) (m : Int) : Tm := ⟨t.k, shiftN t.k t.n m, t.s, t.ar.shift m⟩
abbrev Bnd := List (Int × Tm)
def bget (v : Int) : Bnd → Option Tm
 | [] => none
 | x :: r => if v = x.1 then some x.2 else bget v r
def lookF (B : Bnd) : Nat → Tm → Tm
 | 0, t => t
 | f + 1, t => if t.k = 0 then match bget t.n B with | none => t | some u => lookF B f u else t
def lookM (B : Bnd) (t : Tm) : Tm := lookF B B.length t
def Bok : Bnd → Prop
 | [] => True
 | x :: r => bget x.1 r = none ∧ (x.2.k = 0 → x.2.n ≠ x.1 ∧ bget x.2.n r = none) ∧ Bok r
def anyL (g : Tm → Nat → Bool × Nat) : Ts → Nat → Bool × Nat
 | .nil, w => (false, w)
 | .cons k n s a r, w => if (g ⟨k, n, s, a⟩ w).1 = true then (true, (g ⟨k, n, s, a⟩ w).2) else anyL g r (g ⟨k, n, s, a⟩ w).2
def occM (B : Bnd) (v : Int) : Nat → Tm → Nat → Bool × Nat
 | 0, _, w => (false, w + 1)
 | f + 1, t, w => if 400 < w + 1 then (false, w + 1) else if (lookM B t).k = 0 then (decide ((lookM B t).n = v), w + 1) else anyL (occM B v f) (lookM B t).ar (w + 1)
structure Us where
 ok : Bool
 B : Bnd
 w : Nat
def allL (g : Tm → Tm → Bnd → Nat → Us) : Ts → Ts → Bnd → Nat → Us
 | .cons k n s a r, .cons k' n' s' a' r', B, w => if (g ⟨k, n, s, a⟩ ⟨k', n', s', a'⟩ B w).ok = true then allL g r r' (g ⟨k, n, s, a⟩ ⟨k', n', s', a'⟩ B w).B (g ⟨k, n, s, a⟩ ⟨k', n', s', a'⟩ B w).w else g ⟨k, n, s, a⟩ ⟨k', n', s', a'⟩ B w
 | _, _, B, w => ⟨true, B, w⟩
def asgM (v : Int) (t : Tm) (B : Bnd) (w : Nat) : Us :=
 if (occM B v 401 t w).1 = true ∨ 400 < (occM B v 401 t w).2 then ⟨false, B, (occM B v 401 t w).2⟩ else ⟨true, (v, t) :: B, (occM B v 401 t w).2⟩
def alikeT (x y : Tm) : Bool := decide (x.k = y.k) && decide (x.n = y.n) && decide (x.s = y.s) && decide (x.ar.length = y.ar.length)
def uniM : Nat → Tm → Tm → Bnd → Nat → Us
 | 0, _, _, B, w => ⟨false, B, w + 1⟩
 | f + 1, a, b, B, w => if 400 < w + 1 then ⟨false, B, w + 1⟩ else
  if (lookM B a).k = 0 then
   if (lookM B b).k = 0 then ⟨true, if (lookM B a).n = (lookM B b).n then B else ((lookM B a).n, lookM B b) :: B, w + 1⟩
   else asgM (lookM B a).n (lookM B b) B (w + 1)
  else if (lookM B b).k = 0 then asgM (lookM B b).n (lookM B a) B (w + 1)
  else if alikeT (lookM B a) (lookM B b) = true then allL (uniM f) (lookM B a).ar (lookM B b).ar B (w + 1)
  else ⟨false, B, w + 1⟩
def mapL (g : Tm → Nat → Option (Tm × Nat)) : Ts → Nat → Option (Ts × Nat)
 | .nil, l => some (.nil, l)
 | .cons k n s a r, l => match g ⟨k, n, s, a⟩ l with
  | none => none
  | some (t, l') => match mapL g r l' with
   | none => none
   | some (T, l'') => some (.cons t.k t.n t.s t.ar T, l'')
def appM (B : Bnd) : Nat → Tm → Nat → Option (Tm × Nat)
 | 0, _, _ => none
 | f + 1, t, l => if l = 0 then none else match mapL (appM B f) (lookM B t).ar (l - 1) with
  | none => none
  | some (T, l') => some (⟨(lookM B t).k, (lookM B t).n, (lookM B t).s, T⟩, l')
abbrev Gl := Tm × Nat
structure Ch where
 g : Gl
 next : List Gl
 cls : List Cl
 bound : Nat
structure SS where
 B : Bnd
 fresh : Nat
 fuel : Nat
 goals : List Gl
 ch : List Ch
 ev : List Ts
def undoM (B : Bnd) (n : Nat) : Bnd := B.drop (B.length - n)
def bodyG : Ts → Int → Nat → List Gl → List Gl
 | .nil, _, _, rest => rest
 | .cons k n s a r, m, o, rest => (Tm.shift ⟨k, n, s, a⟩ m, o) :: bodyG r m o rest
def cntC : List Ch → Nat
 | [] => 0
 | c :: r => c.cls.length + cntC r
def Cl.head (c : Cl) : Tm := ⟨c.k, c.n, c.s, c.hd⟩
def popC (c : Ch) (more : List Cl) (cs : List Ch) : List Ch := match more with
 | [] => cs
 | _ :: _ => ⟨c.g, c.next, more, c.bound⟩ :: cs
def retryM : Nat → SS → Int × SS
 | 0, s => (2, s)
 | f + 1, s => match s.ch with
  | [] => (2, s)
  | c :: cs => match c.cls with
   | [] => (2, s)
   | cl :: more =>
    let r := uniM 401 (cl.head.shift s.fresh) c.g.1 (undoM s.B c.bound) 0
    let s' : SS := ⟨r.B, s.fresh + cl.vars.toNat, s.fuel, s.goals, popC c more cs, s.ev⟩
    if 400 < r.w then (4, s')
    else if r.ok = true then (0, ⟨s'.B, s'.fresh, s'.fuel, bodyG cl.bd s.fresh cs.length c.next, s'.ch, s'.ev⟩)
    else retryM f s'
def againM (s : SS) : Int × SS := retryM (cntC s.ch + 1) s
def SS.setB (s : SS) (B : Bnd) : SS := ⟨B, s.fresh, s.fuel, s.goals, s.ch, s.ev⟩
def equalM (a b : Tm) (s : SS) : Int × SS :=
 let r := uniM 401 a b s.B 0
 if 400 < r.w then (4, s.setB r.B) else if r.ok = true then (0, s.setB r.B) else againM (s.setB r.B)
def Ts.at_ : Ts → Nat → Tm
 | .nil, _ => ⟨0, 0, ⟨#[]⟩, .nil⟩
 | .cons k n s a _, 0 => ⟨k, n, s, a⟩
 | .cons _ _ _ _ r, i + 1 => r.at_ i
def lessM (T : Ts) (s : SS) : Int × SS :=
 let a := lookM s.B (T.at_ 0)
 let b := lookM s.B (T.at_ 1)
 if a.k ≠ 2 ∨ b.k ≠ 2 then (5, s) else if b.n ≤ a.n then againM s else (0, s)
def addM (T : Ts) (s : SS) : Int × SS :=
 let a := lookM s.B (T.at_ 0)
 let b := lookM s.B (T.at_ 1)
 if a.k ≠ 2 ∨ b.k ≠ 2 then (5, s) else if a.n + b.n < -1099511627776 ∨ 1099511627776 < a.n + b.n then (5, s)
 else equalM (T.at_ 2) ⟨2, a.n + b.n, ⟨#[]⟩, .nil⟩ s
def builtM (g : Gl) (s : SS) : Int × SS :=
 if g.1.s.toList = [33] then (0, ⟨s.B, s.fresh, s.fuel, s.goals, s.ch.drop (s.ch.length - g.2), s.ev⟩)
 else if g.1.s.toList = [116, 114, 117, 101] then (0, s)
 else if g.1.s.toList = [101, 113] then equalM (g.1.ar.at_ 0) (g.1.ar.at_ 1) s
 else if g.1.s.toList = [108, 101, 115, 115] then lessM g.1.ar s
 else if g.1.s.toList = [97, 100, 100] then addM g.1.ar s
 else againM s
def varsM (B : Bnd) : Nat → Nat → Nat → Option (Ts × Nat)
 | 0, _, l => some (.nil, l)
 | m + 1, v, l => match appM B 201 ⟨0, v, ⟨#[]⟩, .nil⟩ l with
  | none => none
  | some (t, l') => match varsM B m (v + 1) l' with
   | none => none
   | some (T, l'') => some (.cons t.k t.n t.s t.ar T, l'')
def answerM (vars : Nat) (s : SS) : Int × SS := match varsM s.B vars 0 200 with
 | none => (4, s)
 | some (T, _) =>
  let s' : SS := ⟨s.B, s.fresh, s.fuel, s.goals, s.ch, s.ev ++ [T.tidy]⟩
  if s'.ev.length = 12 then (6, s') else againM s'
def fitsC (g : Tm) (c : Cl) : Bool := decide (c.s = g.s) && decide (c.hd.length = g.ar.length)
def stepM (p : List Cl) (vars : Nat) (s : SS) : Int × SS := match s.goals with
 | [] => answerM vars s
 | g :: rest =>
  if s.fuel = 0 then (3, s)
  else if builtB g.1.s.toList g.1.ar.length = true then builtM g ⟨s.B, s.fresh, s.fuel - 1, rest, s.ch, s.ev⟩
  else match p.filter (fitsC g.1) with
   | [] => (5, ⟨s.B, s.fresh, s.fuel - 1, rest, s.ch, s.ev⟩)
   | c :: cs => againM ⟨s.B, s.fresh, s.fuel - 1, rest, ⟨g, rest, c :: cs, s.B.length⟩ :: s.ch, s.ev⟩
abbrev Ev := Int × Ts
def evsOf (l : List Ts) : List Ev := l.map fun T => (1, T)
def runM (p : List Cl) (vars : Nat) : Nat → SS → List Ev
 | 0, _ => []
 | n + 1, s => if (stepM p vars s).1 = 0 then runM p vars n (stepM p vars s).2 else evsOf (stepM p vars s).2.ev ++ [((stepM p vars s).1, .nil)]
def startM (q : Ts) (vars fuel : Nat) : SS := ⟨[], vars, fuel, bodyG q 0 0 [], [], []⟩
def allM (p : List Cl) (q : Ts) (vars fuel : Int) : List Ev × Int :=
 if pB p = false ∨ qB vars q = false then ([], 1)
 else if fuel < 0 ∨ 150 < fuel then ([], 2)
 else (runM p vars.toNat 4000 (startM q vars.toNat fuel.toNat), 0)
end Go.Proofs.Ythliapbflkfdiab
namespace Go.Proofs.Ythliapbflkfdiab
open Go.RowKit
set_option linter.unusedVariables false
structure XL where
 g : Int
 o : Nat
 nx : Int
structure XC where
 at_ : Nat
 cls : List Cl
 cells : Nat
 bound : Nat
structure XS where
 h : HH
 goals : Nat
 ln : List XL
 first : Int
 ch : List XC
 ev : List Ts
def lnk (L : List XL) (i : Nat) : XL := L.getD i ⟨0, 0, -1⟩
def befX (start : Nat) (o : Nat) : List Int → Int → List XL → List XL × Int
 | [], nx, L => (L, nx)
 | g :: r, nx, L => ((befX start o r nx L).1 ++ [⟨start + g, o, (befX start o r nx L).2⟩], ((befX start o r nx L).1.length : Nat))
def headU (h : HH) (b : Cl) (g : Int) : HH × Bool × Int := unifyH (loadH h (blockC b)).1 ((loadH h (blockC b)).2.1 + b.vars) g
def XS.took (s : XS) (a : Nat) (b : Cl) (more : List Cl) (cells bound : Nat) : XS :=
 ⟨(headU s.h b (lnk s.ln a).g).1, s.goals, (befX (loadH s.h (blockC b)).2.1 s.ch.length (goalsC b) (lnk s.ln a).nx s.ln).1, (befX (loadH s.h (blockC b)).2.1 s.ch.length (goalsC b) (lnk s.ln a).nx s.ln).2,
   match more with | [] => s.ch | _ :: _ => ⟨a, more, cells, bound⟩ :: s.ch, s.ev⟩
def attX (k : XS → Int × XS) (a cells bound : Nat) : List Cl → XS → Int × XS
 | [], s => k s
 | b :: more, s =>
  if (headU s.h b (lnk s.ln a).g).2.2 ≠ 0 then (4, s)
  else if (headU s.h b (lnk s.ln a).g).2.1 = false then attX k a cells bound more s
  else (0, s.took a b more cells bound)
def XS.back (s : XS) (c : XC) (cs : List XC) : XS := ⟨(cutH (undoH s.h (c.bound : Nat)).1 (c.cells : Nat)).1, s.goals, s.ln, s.first, cs, s.ev⟩
def retX : List XC → XS → Int × XS
 | [], s => (2, s)
 | c :: cs, s => attX (retX cs) c.at_ c.cells c.bound c.cls (s.back c cs)
def againX (s : XS) : Int × XS := retX s.ch s
def XS.setH (s : XS) (h : HH) : XS := ⟨h, s.goals, s.ln, s.first, s.ch, s.ev⟩
def equalX (a b : Int) (s : XS) : Int × XS :=
 if (unifyH s.h a b).2.2 ≠ 0 then (4, s.setH (unifyH s.h a b).1)
 else if (unifyH s.h a b).2.1 = false then againX (s.setH (unifyH s.h a b).1)
 else (0, s.setH (unifyH s.h a b).1)
def cellX (h : HH) (a : Int) : HC := (hat h.cs (hlook h.cs a)).getD ⟨0, 0, eS⟩
def lessX (a : Int) (s : XS) : Int × XS :=
 if (cellX s.h a).k ≠ 2 ∨ (cellX s.h (a + 1)).k ≠ 2 then (5, s) else if (cellX s.h (a + 1)).n ≤ (cellX s.h a).n then againX s else (0, s)
def addX (a : Int) (s : XS) : Int × XS :=
 if (cellX s.h a).k ≠ 2 ∨ (cellX s.h (a + 1)).k ≠ 2 then (5, s)
 else if (cellX s.h a).n + (cellX s.h (a + 1)).n < -1099511627776 ∨ 1099511627776 < (cellX s.h a).n + (cellX s.h (a + 1)).n then (5, s)
 else equalX (a + 2) (loadH s.h [⟨2, (cellX s.h a).n + (cellX s.h (a + 1)).n, eS⟩]).2.1 (s.setH (loadH s.h [⟨2, (cellX s.h a).n + (cellX s.h (a + 1)).n, eS⟩]).1)
def gcell (h : HH) (g : Int) : HC := (hat h.cs g).getD ⟨0, 0, eS⟩
def builtX (l : XL) (s : XS) : Int × XS :=
 if (gcell s.h l.g).s.toList = [33] then (0, ⟨s.h, s.goals, s.ln, s.first, s.ch.drop (s.ch.length - l.o), s.ev⟩)
 else if (gcell s.h l.g).s.toList = [116, 114, 117, 101] then (0, s)
 else if (gcell s.h l.g).s.toList = [101, 113] then equalX (l.g + 1) (l.g + 1 + 1) s
 else if (gcell s.h l.g).s.toList = [108, 101, 115, 115] then lessX (l.g + 1) s
 else if (gcell s.h l.g).s.toList = [97, 100, 100] then addX (l.g + 1) s
 else againX s
def varsX (h : HH) : Nat → Nat → Int → Option (Ts × Int)
 | 0, _, l => some (.nil, l)
 | m + 1, v, l => if (termH h (v : Nat) l).2.2 ≠ 0 then none else match varsX h m (v + 1) (l - ((termH h (v : Nat) l).2.1 : Nat)) with
  | none => none
  | some (T, l'') => some (.cons (termH h (v : Nat) l).1.k (termH h (v : Nat) l).1.n (termH h (v : Nat) l).1.s (termH h (v : Nat) l).1.ar T, l'')
def XS.tell (s : XS) (T : Ts) : XS := ⟨s.h, s.goals, s.ln, s.first, s.ch, s.ev ++ [T.tidy]⟩
def answerX (vars : Nat) (s : XS) : Int × XS := match varsX s.h vars 0 200 with
 | none => (4, s)
 | some (T, _) => if s.ev.length + 1 = 12 then (6, s.tell T) else againX (s.tell T)
def headX (c : Cl) : HC := if c.k = 3 then ⟨3, (c.hd.length : Nat), c.s⟩ else single c.k c.n c.s
def callX (p : List Cl) (a : Nat) (s : XS) : Int × XS := match p.filter (fun c => decide (headX c = gcell s.h (lnk s.ln a).g)) with
 | [] => (5, s)
 | b :: more => attX (retX s.ch) a s.h.cs.length s.h.tr.length (b :: more) s
def chainX (L : List XL) : Nat → Int → List Bool × List Nat → List Bool × List Nat
 | 0, _, p => p
 | f + 1, i, p => if i = -1 then p else if p.1[i.toNat]? = some true then p else chainX L f (lnk L i.toNat).nx (p.1.set i.toNat true, p.2 ++ [i.toNat])
def chainsX (L : List XL) : List XC → List Bool × List Nat → List Bool × List Nat
 | [], p => p
 | c :: r, p => chainsX L r (chainX L (L.length + 1) (c.at_ : Nat) p)
def liveX (s : XS) : List Nat := (chainsX s.ln s.ch.reverse (chainX s.ln (s.ln.length + 1) s.first (List.replicate s.ln.length false, []))).2
def setG (L : List XL) (i : Nat) (g : Int) : List XL := L.modify i fun l => ⟨g, l.o, l.nx⟩
def setGs : List Nat → List Int → List XL → List XL
 | i :: r, g :: q, L => setGs r q (setG L i g)
 | _, _, L => L
def setCs : List XC → List Int → List Int → List XC
 | c :: r, t :: T, k :: K => ⟨c.at_, c.cls, t.toNat, k.toNat⟩ :: setCs r T K
 | L, _, _ => L
def rootsX (vars : Nat) (s : XS) : List Int := ((List.range vars).map fun v => ((v : Nat) : Int)) ++ (liveX s).map fun i => (lnk s.ln i).g
noncomputable def collX (vars : Nat) (s : XS) : XS :=
 let r := collectH s.h (rootsX vars s) (s.ch.reverse.map fun c => ((c.cells : Nat) : Int)) (s.ch.reverse.map fun c => ((c.bound : Nat) : Int))
 ⟨r.1, s.goals, setGs (liveX s) (r.2.1.drop vars) s.ln, s.first, (setCs s.ch.reverse r.2.2.1 r.2.2.2.1).reverse, s.ev⟩
noncomputable def maybeX (vars every : Nat) (s : XS) : XS := if 0 < every ∧ s.goals % every = 0 then collX vars s else s
noncomputable def stepX (p : List Cl) (vars fuel every : Nat) (s : XS) : Int × XS :=
 if s.first = -1 then answerX vars s
 else if s.goals = fuel then (3, s)
 else
  let t := maybeX vars every s
  let u : XS := ⟨t.h, t.goals + 1, t.ln, (lnk t.ln t.first.toNat).nx, t.ch, t.ev⟩
  if builtB (gcell u.h (lnk u.ln t.first.toNat).g).s.toList (gcell u.h (lnk u.ln t.first.toNat).g).n.toNat = true then builtX (lnk u.ln t.first.toNat) u else callX p t.first.toNat u
noncomputable def runX (p : List Cl) (vars fuel every : Nat) : Nat → XS → List Ev
 | 0, _ => []
 | n + 1, s => if (stepX p vars fuel every s).1 = 0 then runX p vars fuel every n (stepX p vars fuel every s).2 else evsOf (stepX p vars fuel every s).2.ev ++ [((stepX p vars fuel every s).1, .nil)]
def startX (q : Ts) (vars : Int) : XS :=
 ⟨(loadH ⟨[], []⟩ (blockQ vars q)).1, 0, (befX (loadH ⟨[], []⟩ (blockQ vars q)).2.1 0 (goalsQ vars q) (-1) []).1, (befX (loadH ⟨[], []⟩ (blockQ vars q)).2.1 0 (goalsQ vars q) (-1) []).2, [], []⟩
end Go.Proofs.Ythliapbflkfdiab
namespace Go.Proofs.Ythliapbflkfdiab
open Go.RowKit
set_option linter.unusedVariables false
set_option linter.unusedSimpArgs false
theorem goodC_mono {n f f' : Nat} {c : HC} (hf : f ≤ f') (h : goodC n c f = true) : goodC n c f' = true := by
 rcases goodC_iff h with ⟨k, a, b, s⟩ | ⟨k, a, s⟩ | ⟨k, s⟩ | ⟨k, a, b, d, s⟩
 ·unfold goodC; rw [if_pos k]; simp [a, b, s]
 ·unfold goodC; rw [if_neg (by omega), if_pos k]; simp [a, s]
 ·unfold goodC; rw [if_neg (by omega), if_neg (by omega), if_pos k]; simp [s]
 ·unfold goodC; rw [if_neg (by omega), if_neg (by omega), if_neg (by omega), if_pos k]
  simp only [Bool.and_eq_true, decide_eq_true_eq, Bool.not_eq_true', decide_eq_false_iff_not]
  exact ⟨a, b, by omega, s⟩
theorem goodL_app {n : Nat} {Y : List HC} (hY : goodL n Y = true) : ∀ {X : List HC}, goodL n X = true → goodL n (X ++ Y) = true
 | [], _ => hY
 | c :: r, h => by
  simp only [goodL, Bool.and_eq_true, List.cons_append] at h ⊢
  exact ⟨goodC_mono (by simp) h.1, goodL_app hY h.2⟩
theorem name_some {s : ByteArray} (h : nameB s = true) : s ≠ eS := by
 intro e; subst e; exact absurd h (by decide)
theorem str_nilC {s : ByteArray} (h : s.toList = []) : s = eS := by
 apply str_eq.1; rw [h]; kernel_rfl
theorem node_iff {vars k n : Int} {s : ByteArray} {l : Nat} (h : nodeB vars k n s l = true) : (k = 0 ∧ 0 ≤ n ∧ n < vars ∧ s = eS ∧ l = 0) ∨ (k = 1 ∧ n = 0 ∧ s ≠ eS ∧ l = 0) ∨ (k = 2 ∧ s = eS ∧ l = 0) ∨ (k = 3 ∧ n = 0 ∧ s ≠ eS ∧ 1 ≤ l ∧ l ≤ 4) := by
 unfold nodeB at h
 split at h
 ·simp only [Bool.and_eq_true, decide_eq_true_eq] at h
  exact .inl ⟨‹_›, h.1.1.1, h.1.1.2, str_nilC h.1.2, h.2⟩
 split at h
 ·simp only [Bool.and_eq_true, decide_eq_true_eq] at h
  exact .inr (.inl ⟨‹_›, h.1.1, name_some h.1.2, h.2⟩)
 split at h
 ·simp only [Bool.and_eq_true, decide_eq_true_eq] at h
  exact .inr (.inr (.inl ⟨‹_›, str_nilC h.1.2, h.2⟩))
 split at h
 ·simp only [Bool.and_eq_true, decide_eq_true_eq] at h
  exact .inr (.inr (.inr ⟨‹_›, h.1.1.1.1, name_some h.1.1.1.2, h.1.2, h.2⟩))
 ·cases h
theorem good_cons {vars k n : Int} {s : ByteArray} {ar r : Ts} (h : (Ts.cons k n s ar r).good vars = true) : nodeB vars k n s ar.length = true ∧ ar.good vars = true ∧ r.good vars = true := by
 simp only [Ts.good, Bool.and_eq_true] at h
 exact ⟨h.1.1, h.1.2, h.2⟩
theorem Ts.good_ap (v : Int) (D R : Ts) : (D.app R).good v = (D.good v && R.good v) := by
 induction D with
 | nil => rfl
 | cons k n b ar r _ ih => simp only [Ts.app, Ts.good, ih, Bool.and_assoc]
theorem goodC_ref {n f : Nat} {i : Int} (h0 : 0 ≤ i) (h : i < n) : goodC n ⟨0, i, eS⟩ f = true := by unfold goodC; simp [h, h0]
theorem goodC_name {n f : Nat} {s : ByteArray} (h : s ≠ eS) : goodC n ⟨1, 0, s⟩ f = true := by unfold goodC; simp [h]
theorem goodC_num {n f : Nat} {i : Int} : goodC n ⟨2, i, eS⟩ f = true := by unfold goodC; simp
theorem goodC_frame {n f l : Nat} {s : ByteArray} (h : s ≠ eS) (h1 : 1 ≤ l) (h2 : l ≤ 4) (h3 : l ≤ f) : goodC n ⟨3, (l : Nat), s⟩ f = true := by
 unfold goodC; simp [h]; omega
theorem layA_good {vars : Int} {all : Nat} (hv : vars ≤ all) (T : Ts) : ∀ p, T.good vars = true → p + (layA T p).2.length ≤ all → goodL all (layA T p).1 = true ∧ goodL all (layA T p).2 = true := by
 induction T with
 | nil => intro p _ _; exact ⟨rfl, rfl⟩
 | cons k n s ar r iha ihr =>
  intro p hg hp
  obtain ⟨hn, ha, hr⟩ := good_cons hg
  rcases node_iff hn with ⟨rfl, h0, h1, h2, h3⟩ | ⟨rfl, h0, h1, h2⟩ | ⟨rfl, h0, h1⟩ | ⟨rfl, h0, h1, h2, h3⟩
  ·rw [layA_one _ _ _ _ _ (by decide)] at hp ⊢
   obtain ⟨i1, i2⟩ := ihr p hr hp
   refine ⟨?_, i2⟩
   simp only [goodL, Bool.and_eq_true]
   exact ⟨goodC_ref h0 (by omega), i1⟩
  ·rw [layA_one _ _ _ _ _ (by decide)] at hp ⊢
   obtain ⟨i1, i2⟩ := ihr p hr hp
   refine ⟨?_, i2⟩
   simp only [goodL, Bool.and_eq_true]
   exact ⟨goodC_name h1, i1⟩
  ·rw [layA_one _ _ _ _ _ (by decide)] at hp ⊢
   obtain ⟨i1, i2⟩ := ihr p hr hp
   refine ⟨?_, i2⟩
   simp only [goodL, Bool.and_eq_true]
   exact ⟨goodC_num, i1⟩
  ·rw [layA_comp] at hp ⊢
   have hls := layS_len s ar p
   simp only [List.length_append] at hp
   obtain ⟨a1, a2⟩ := iha (p + 1 + ar.length) ha (by omega)
   obtain ⟨i1, i2⟩ := ihr (p + (layS s ar p).length) hr (by omega)
   refine ⟨?_, goodL_app i2 ?_⟩
   ·simp only [goodL, Bool.and_eq_true]
    exact ⟨goodC_ref (by omega) (by omega), i1⟩
   ·unfold layS
    simp only [goodL, Bool.and_eq_true]
    exact ⟨goodC_frame h1 h2 h3 (by rw [List.length_append, layA_len]; omega), goodL_app a2 a1⟩
theorem lay1_good {vars k n : Int} {s : ByteArray} {ar : Ts} {all p : Nat} (hv : vars ≤ all) (h : gB vars k n s ar = true) (hp : p + (lay1 k n s ar p).length ≤ all) : goodL all (lay1 k n s ar p) = true := by
 simp only [gB, goalB, Bool.and_eq_true, Bool.or_eq_true, decide_eq_true_eq] at h
 obtain ⟨hn, ha, _⟩ := good_cons h.1.2
 rcases node_iff hn with ⟨rfl, _⟩ | ⟨rfl, h0, h1, h2⟩ | ⟨rfl, _⟩ | ⟨rfl, h0, h1, h2, h3⟩
 ·rcases h.1.1 with h | h <;> omega
 ·unfold lay1
  rw [if_neg (by decide)]
  simp only [goodL, Bool.and_eq_true, and_true]
  exact goodC_name h1
 ·rcases h.1.1 with h | h <;> omega
 ·unfold lay1 at hp ⊢
  rw [if_pos rfl] at hp ⊢
  have hls := layS_len s ar p
  obtain ⟨a1, a2⟩ := layA_good hv ar (p + 1 + ar.length) ha (by omega)
  unfold layS
  simp only [goodL, Bool.and_eq_true]
  exact ⟨goodC_frame h1 h2 h3 (by rw [List.length_append, layA_len]; omega), goodL_app a2 a1⟩
theorem layL_good {vars : Int} {all : Nat} (hv : vars ≤ all) (T : Ts) : ∀ p, T.goals vars = true → p + (layL T p).1.length ≤ all → goodL all (layL T p).1 = true := by
 induction T with
 | nil => intro p _ _; rfl
 | cons k n s ar r _ ihr =>
  intro p hg hp
  simp only [Ts.goals, Bool.and_eq_true] at hg
  simp only [layL, List.length_append] at hp ⊢
  exact goodL_app (ihr _ hg.2 (by omega)) (lay1_good hv hg.1 (by omega))
theorem varsF_good {all : Nat} : ∀ m i, i + m ≤ all → goodL all (varsF m i) = true
 | 0, i, _ => rfl
 | m + 1, i, h => by
  simp only [varsF, goodL, Bool.and_eq_true]
  exact ⟨goodC_ref (by omega) (by omega), varsF_good m (i + 1) (by omega)⟩
theorem cB_iff {c : Cl} (h : cB c = true) : 0 ≤ c.vars ∧ c.vars ≤ 8 ∧ c.bd.length ≤ 5 ∧ c.bd.goals c.vars = true ∧ gB c.vars c.k c.n c.s c.hd = true := by
 simp only [cB, qB, Bool.and_eq_true, decide_eq_true_eq] at h
 exact ⟨h.1.1.1.1.1, h.1.1.1.1.2, h.1.1.1.2, h.1.1.2, h.1.2⟩
theorem gB_nodes {vars k n : Int} {s : ByteArray} {ar : Ts} (h : gB vars k n s ar = true) : ar.nodes + 1 ≤ 24 := by
 simp only [gB, Bool.and_eq_true, decide_eq_true_eq] at h
 exact h.2
theorem blockC_len {c : Cl} (h : cB c = true) : (blockC c).length ≤ 300 := by
 obtain ⟨h0, h1, h2, h3, h4⟩ := cB_iff h
 have h5 := gB_nodes h4
 have h6 := Ts.goals_nodes _ _ h3
 have h7 := lay1_le c.k c.n c.s c.hd c.vars.toNat
 have h8 := layL_le c.bd (c.vars.toNat + (lay1 c.k c.n c.s c.hd c.vars.toNat).length)
 simp only [blockC, List.length_append, varsB_len]
 omega
theorem blockC_good {c : Cl} (h : cB c = true) : goodCs (blockC c) = true := by
 obtain ⟨h0, h1, h2, h3, h4⟩ := cB_iff h
 have hl := blockC_len h
 unfold goodCs
 simp only [Bool.and_eq_true, decide_eq_true_eq]
 refine ⟨by omega, ?_⟩
 have he : (blockC c).length = c.vars.toNat + ((lay1 c.k c.n c.s c.hd c.vars.toNat).length + (layL c.bd (c.vars.toNat + (lay1 c.k c.n c.s c.hd c.vars.toNat).length)).1.length) := by
  simp only [blockC, List.length_append, varsB_len]
 unfold blockC
 refine goodL_app (goodL_app (layL_good (vars := c.vars) (by unfold blockC at he; omega) _ _ h3 (by unfold blockC at he; omega)) (lay1_good (vars := c.vars) (by unfold blockC at he; omega) h4 (by unfold blockC at he; omega))) (varsF_good _ _ (by unfold blockC at he; omega))
end Go.Proofs.Ythliapbflkfdiab
namespace Go.Proofs.Ythliapbflkfdiab
def Ts.vars (P : Int → Prop) : Ts → Prop
 | .nil => True
 | .cons k n _ ar r => (k = 0 → P n) ∧ ar.vars P ∧ r.vars P
end Go.Proofs.Ythliapbflkfdiab
namespace Go.Proofs.Ythliapbflkfdiab
open Go.RowKit
set_option linter.unusedVariables false
set_option linter.unusedSimpArgs false
def Sits (L : List HC) (base : Nat) (q : Nat) (X : List HC) : Prop := ∀ i c, X[i]? = some c → hat L ((base + (q + i) : Nat) : Int) = some (moved base c)
theorem Sits.app {L : List HC} {base q : Nat} {X Y : List HC} (h : Sits L base q (X ++ Y)) : Sits L base q X ∧ Sits L base (q + X.length) Y := by
 refine ⟨fun i c hi => h i c ?_, fun i c hi => ?_⟩
 ·rw [List.getElem?_append_left]
  ·exact hi
  ·rcases Nat.lt_or_ge i X.length with hl | hl
   ·exact hl
   ·rw [List.getElem?_eq_none hl] at hi; cases hi
 ·have := h (X.length + i) c (by rw [List.getElem?_append_right (by omega)]; simpa using hi)
  rw [show q + X.length + i = q + (X.length + i) by omega]; exact this
theorem Sits.head {L : List HC} {base q : Nat} {c : HC} {X : List HC} (h : Sits L base q (c :: X)) : hat L ((base + q : Nat) : Int) = some (moved base c) ∧ Sits L base (q + 1) X := by
 refine ⟨h 0 c rfl, fun i d hi => ?_⟩
 rw [show q + 1 + i = q + (i + 1) by omega]
 exact h (i + 1) d (by simpa using hi)
def up (base : Nat) (n : Int) : Int := n + base
theorem nil_of_len {T : Ts} (h : T.length = 0) : T = .nil := Ts.nil_of_length h
theorem load_sits (h : HH) (B : List HC) : Sits (h.cs ++ B.map (moved h.cs.length)) h.cs.length 0 B := by
 intro i c hi
 refine hatS.2 ⟨by omega, ?_, ?_⟩
 ·have : i < B.length := by
   rcases Nat.lt_or_ge i B.length with hl | hl
   ·exact hl
   ·rw [List.getElem?_eq_none hl] at hi; cases hi
  simp; omega
 ·rw [show ((h.cs.length + (0 + i) : Nat) : Int).toNat = h.cs.length + i by omega, List.getElem?_append_right (by omega)]
  simp [hi]
theorem goodC_wide {n m f : Nat} {c : HC} (hn : n ≤ m) (h : goodC n c f = true) : goodC m c f = true := by
 rcases goodC_iff h with ⟨k, a, b, s⟩ | ⟨k, a, s⟩ | ⟨k, s⟩ | ⟨k, a, b, d, s⟩
 ·unfold goodC; rw [if_pos k]; simp [a, s]; omega
 ·unfold goodC; rw [if_neg (by omega), if_pos k]; simp [a, s]
 ·unfold goodC; rw [if_neg (by omega), if_neg (by omega), if_pos k]; simp [s]
 ·unfold goodC; rw [if_neg (by omega), if_neg (by omega), if_neg (by omega), if_pos k]; simp [a, b, d, s]
theorem goodL_wide {n m : Nat} (hn : n ≤ m) : ∀ {L : List HC}, goodL n L = true → goodL m L = true
 | [], _ => rfl
 | c :: r, h => by
  simp only [goodL, Bool.and_eq_true] at h ⊢
  exact ⟨goodC_wide hn h.1, goodL_wide hn h.2⟩
theorem goodC_moved {n m f base : Nat} {c : HC} (hn : base + n ≤ m) (h : goodC n c f = true) : goodC m (moved base c) f = true := by
 unfold moved
 split
 ·rename_i h0
  rcases goodC_iff h with ⟨k, a, b, s⟩ | ⟨k, a, s⟩ | ⟨k, s⟩ | ⟨k, a, b, d, s⟩
  ·unfold goodC; dsimp only; rw [if_pos h0]; simp [s]; omega
  ·omega
  ·omega
  ·omega
 ·rename_i h0
  rcases goodC_iff h with ⟨k, a, b, s⟩ | ⟨k, a, s⟩ | ⟨k, s⟩ | ⟨k, a, b, d, s⟩
  ·omega
  ·unfold goodC; rw [if_neg (by omega), if_pos k]; simp [a, s]
  ·unfold goodC; rw [if_neg (by omega), if_neg (by omega), if_pos k]; simp [s]
  ·unfold goodC; rw [if_neg (by omega), if_neg (by omega), if_neg (by omega), if_pos k]; simp [a, b, d, s]
theorem goodL_moved {n m base : Nat} (hn : base + n ≤ m) : ∀ {L : List HC}, goodL n L = true → goodL m (L.map (moved base)) = true
 | [], _ => rfl
 | c :: r, h => by
  simp only [goodL, Bool.and_eq_true, List.map_cons, List.length_map] at h ⊢
  exact ⟨goodC_moved hn h.1, goodL_moved hn h.2⟩
theorem load_goodH {h : HH} {K : List HC} (hg : goodH h = true) (hk : goodCs K = true) (hl : h.cs.length + K.length ≤ 65536) : goodH ⟨h.cs ++ K.map (moved h.cs.length), h.tr⟩ = true := by
 simp only [goodH, goodCs, goodTr, Bool.and_eq_true, decide_eq_true_eq, List.length_append, List.length_map] at hg hk ⊢
 obtain ⟨⟨h1, h2⟩, h3, h4⟩ := hg
 refine ⟨⟨hl, goodL_app (goodL_moved (by omega) hk.2) (goodL_wide (by omega) h2)⟩, h3, ?_⟩
 rw [List.all_eq_true] at h4 ⊢
 intro a ha
 have := h4 a ha
 unfold goodTr1 at this ⊢
 cases hq : hat h.cs a with
 | none => rw [hq] at this; cases this
 | some x =>
  rw [hq] at this
  obtain ⟨q0, q1, q2⟩ := hatS.1 hq
  have : hat (h.cs ++ K.map (moved h.cs.length)) a = some x := hatS.2 ⟨q0, by simp; omega, by rw [List.getElem?_append_left (by omega)]; exact q2⟩
  rw [this]; assumption
theorem load_eq {h : HH} {K : List HC} (hg : goodH h = true) (hk : goodCs K = true) (hl : h.cs.length + K.length ≤ 65536) : loadH h K = (⟨h.cs ++ K.map (moved h.cs.length), h.tr⟩, h.cs.length, 0) := by
 unfold loadH; rw [hg, hk, if_neg (by decide), if_neg (by omega)]
end Go.Proofs.Ythliapbflkfdiab
namespace Go.Proofs.Ythliapbflkfdiab
set_option linter.unusedVariables false
theorem bget_app (v : Int) (Y : Bnd) : ∀ X : Bnd, bget v (X ++ Y) = (bget v X).orElse fun _ => bget v Y
 | [] => by simp [bget]
 | x :: r => by
  simp only [List.cons_append, bget]
  by_cases e : v = x.1
  ·rw [if_pos e, if_pos e]; rfl
  ·rw [if_neg e, if_neg e]; exact bget_app v Y r
theorem Bok.drop {B : Bnd} (h : Bok B) : ∀ m, Bok (B.drop m) := by
 induction B with
 | nil => intro m; simpa using h
 | cons x r ih =>
  intro m
  cases m with
  | zero => exact h
  | succ m => exact ih h.2.2 m
theorem bget_pos {v : Int} {u : Tm} : ∀ {B : Bnd}, bget v B = some u → ∃ p, p < B.length ∧ B.drop p = (v, u) :: B.drop (p + 1)
 | [], h => by cases h
 | x :: r, h => by
  simp only [bget] at h
  by_cases e : v = x.1
  ·rw [if_pos e] at h
   cases h
   exact ⟨0, by simp, by simp [e]⟩
  ·rw [if_neg e] at h
   obtain ⟨p, h1, h2⟩ := bget_pos h
   exact ⟨p + 1, by simp; omega, by simpa using h2⟩
def Clear (B : Bnd) (m : Nat) (t : Tm) : Prop := t.k = 0 → bget t.n (B.drop m) = none
theorem Clear.step {B : Bnd} {m : Nat} {t u : Tm} (hB : Bok B) (h : Clear B m t) (hk : t.k = 0) (hg : bget t.n B = some u) : ∃ p, p < m ∧ Clear B p u := by
 obtain ⟨p, hp, hd⟩ := bget_pos hg
 refine ⟨p, ?_, fun hu => ?_⟩
 ·rcases Nat.lt_or_ge p m with hl | hl
  ·exact hl
  ·exfalso
   have h0 := h hk
   have e : B.drop m = (B.drop m).take (p - m) ++ B.drop p := by
    conv => lhs; rw [← List.take_append_drop (p - m) (B.drop m)]
    rw [List.drop_drop, show m + (p - m) = p by omega]
   rw [e, bget_app, hd] at h0
   have h1 : bget t.n ((t.n, u) :: B.drop (p + 1)) = some u := by simp [bget]
   rw [h1] at h0
   cases hx : bget t.n ((B.drop m).take (p - m)) <;> rw [hx] at h0 <;> cases h0
 ·have hb := hB.drop p
  rw [hd] at hb ⊢
  obtain ⟨h1, h2, h3⟩ := hb
  obtain ⟨h4, h5⟩ := h2 hu
  simp only [bget]
  rw [if_neg h4]; exact h5
theorem Clear.start (B : Bnd) (t : Tm) : Clear B B.length t := fun _ => by simp [bget]
theorem lookF_nonvar {B : Bnd} {t : Tm} (h : t.k ≠ 0) : ∀ f, lookF B f t = t
 | 0 => rfl
 | f + 1 => by simp [lookF, h]
theorem lookF_free {B : Bnd} {t : Tm} (h : bget t.n B = none) : ∀ f, lookF B f t = t
 | 0 => rfl
 | f + 1 => by simp [lookF, h]
theorem lookF_step {B : Bnd} {t u : Tm} (hk : t.k = 0) (h : bget t.n B = some u) (f : Nat) : lookF B (f + 1) t = lookF B f u := by simp [lookF, hk, h]
theorem lookF_enough {B : Bnd} (hB : Bok B) : ∀ (p : Nat) (t : Tm), Clear B p t → ∀ f, p ≤ f → lookF B f t = lookF B p t := by
 intro p
 induction p using Nat.strongRecOn with
 | _ p ih =>
  intro t hc f hf
  by_cases hk : t.k = 0
  ·cases hg : bget t.n B with
   | none => rw [lookF_free hg, lookF_free hg]
   | some u =>
    obtain ⟨q, hq, hcq⟩ := hc.step hB hk hg
    obtain ⟨f, rfl⟩ : ∃ f', f = f' + 1 := ⟨f - 1, by omega⟩
    obtain ⟨p, rfl⟩ : ∃ p', p = p' + 1 := ⟨p - 1, by omega⟩
    rw [lookF_step hk hg, lookF_step hk hg, ih q hq u hcq f (by omega), ih q hq u hcq p (by omega)]
  ·rw [lookF_nonvar hk, lookF_nonvar hk]
theorem look_nonvar {B : Bnd} {t : Tm} (h : t.k ≠ 0) : lookM B t = t := lookF_nonvar h _
theorem look_free {B : Bnd} {t : Tm} (h : bget t.n B = none) : lookM B t = t := lookF_free h _
theorem look_bound {B : Bnd} {t u : Tm} (hB : Bok B) (hk : t.k = 0) (h : bget t.n B = some u) : lookM B t = lookM B u := by
 obtain ⟨p, hp, hc⟩ := (Clear.start B t).step hB hk h
 unfold lookM
 have : B.length = (B.length - 1) + 1 := by omega
 conv => lhs; rw [this, lookF_step hk h]
 exact (lookF_enough hB p u hc _ (by omega)).trans (lookF_enough hB p u hc _ (by omega)).symm
theorem lookF_end {B : Bnd} (hB : Bok B) : ∀ (p : Nat) (t : Tm), Clear B p t → (lookF B p t).k = 0 → bget (lookF B p t).n B = none := by
 intro p
 induction p using Nat.strongRecOn with
 | _ p ih =>
  intro t hc
  by_cases hk : t.k = 0
  ·cases hg : bget t.n B with
   | none => rw [lookF_free hg]; exact fun _ => hg
   | some u =>
    obtain ⟨q, hq, hcq⟩ := hc.step hB hk hg
    obtain ⟨p, rfl⟩ : ∃ p', p = p' + 1 := ⟨p - 1, by omega⟩
    rw [lookF_step hk hg, lookF_enough hB q u hcq p (by omega)]
    exact ih q hq u hcq
  ·rw [lookF_nonvar hk]; exact fun h => absurd h hk
theorem look_end {B : Bnd} (hB : Bok B) (t : Tm) (h : (lookM B t).k = 0) : bget (lookM B t).n B = none := lookF_end hB _ t (Clear.start B t) h
theorem look_look {B : Bnd} (hB : Bok B) (t : Tm) : lookM B (lookM B t) = lookM B t := by
 by_cases h : (lookM B t).k = 0
 ·exact look_free (look_end hB t h)
 ·exact look_nonvar h
theorem lookF_mem {B : Bnd} : ∀ (f : Nat) (t : Tm), lookF B f t = t ∨ ∃ x ∈ B, lookF B f t = x.2
 | 0, t => .inl rfl
 | f + 1, t => by
  by_cases hk : t.k = 0
  ·cases hg : bget t.n B with
   | none => exact .inl (lookF_free hg _)
   | some u =>
    rw [lookF_step hk hg]
    have hm : ∃ x ∈ B, u = x.2 := by
     obtain ⟨p, _, hd⟩ := bget_pos hg
     exact ⟨(t.n, u), List.mem_of_mem_drop (i := p) (by rw [hd]; exact .head _), rfl⟩
    rcases lookF_mem f u with h | h
    ·rw [h]; exact .inr hm
    ·exact .inr h
  ·exact .inl (lookF_nonvar hk _)
theorem look_mem {B : Bnd} (t : Tm) : lookM B t = t ∨ ∃ x ∈ B, lookM B t = x.2 := lookF_mem _ t
end Go.Proofs.Ythliapbflkfdiab
namespace Go.Proofs.Ythliapbflkfdiab
set_option linter.unusedVariables false
def SmB (B : Bnd) : Prop := ∀ x ∈ B, x.2.ar.nodes ≤ 24
theorem look_small {B : Bnd} (hB : SmB B) {t : Tm} (ht : t.ar.nodes ≤ 24) : (lookM B t).ar.nodes ≤ 24 := by
 rcases look_mem (B := B) t with h | ⟨x, hx, h⟩
 ·rw [h]; exact ht
 ·rw [h]; exact hB x hx
theorem anyL_le {g : Tm → Nat → Bool × Nat} {K : Nat} : ∀ (T : Ts) (w : Nat), (∀ t : Tm, t.ar.nodes < T.nodes → ∀ w, (g t w).2 ≤ max (w + 1) K) → (anyL g T w).2 ≤ max w K + T.length
 | .nil, w, _ => by simp [anyL, Ts.length]; omega
 | .cons k n s a r, w, h => by
  have h1 := h ⟨k, n, s, a⟩ (by simp only [Ts.nodes]; omega) w
  have h2 := anyL_le r (g ⟨k, n, s, a⟩ w).2 fun t ht => h t (by simp only [Ts.nodes]; omega)
  simp only [anyL, Ts.length]
  split
  ·simp only; omega
  ·omega
theorem occ_le {B : Bnd} (hB : SmB B) (v : Int) : ∀ (f : Nat) (t : Tm), t.ar.nodes ≤ 24 → ∀ w, (occM B v f t w).2 ≤ max (w + 1) (401 + 24 * f)
 | 0, t, ht, w => by simp only [occM]; omega
 | f + 1, t, ht, w => by
  simp only [occM]
  split
  ·simp only; omega
  ·split
   ·simp only; omega
   ·have hs := look_small hB ht
    have hl := (lookM B t).ar.length_le
    have := anyL_le (g := occM B v f) (K := 401 + 24 * f) (lookM B t).ar (w + 1) fun u hu => occ_le hB v f u (by omega)
    omega
theorem occ_gt {B : Bnd} {v : Int} : ∀ (f : Nat) (t : Tm) (w : Nat), w + 1 ≤ (occM B v f t w).2
 | 0, t, w => Nat.le_refl _
 | f + 1, t, w => by
  have key : ∀ (T : Ts) (w : Nat), w ≤ (anyL (occM B v f) T w).2 := by
   intro T
   induction T with
   | nil => intro w; exact Nat.le_refl _
   | cons k n s a r _ ih =>
    intro w
    have h1 := occ_gt (B := B) (v := v) f ⟨k, n, s, a⟩ w
    have h2 := ih (occM B v f ⟨k, n, s, a⟩ w).2
    simp only [anyL]
    split
    ·simp only; omega
    ·omega
  simp only [occM]
  split
  ·exact Nat.le_refl _
  ·split
   ·exact Nat.le_refl _
   ·exact key _ _
structure UP (B : Bnd) (w : Nat) (r : Us) : Prop where
 bok : Bok r.B
 sm : SmB r.B
 ok : r.ok = true → r.w ≤ 400
 len : r.B.length + w ≤ B.length + r.w
 ext : ∃ N, r.B = N ++ B
theorem SmB.cons {B : Bnd} (h : SmB B) {x : Int × Tm} (hx : x.2.ar.nodes ≤ 24) : SmB (x :: B) := fun y hy => by
 rcases List.mem_cons.1 hy with rfl | hy
 ·exact hx
 ·exact h y hy
theorem sasg_up {B : Bnd} {w : Nat} {v : Int} {t : Tm} (hB : Bok B) (hS : SmB B) (hv : bget v B = none) (hk : t.k ≠ 0) (ht : t.ar.nodes ≤ 24) : UP B w (asgM v t B w) := by
 have h1 := occ_gt (B := B) (v := v) 401 t w
 unfold asgM
 split
 ·exact ⟨hB, hS, fun h => (by cases h), by simp only; omega, [], rfl⟩
 ·rename_i h
  exact ⟨⟨hv, fun h => absurd h hk, hB⟩, hS.cons ht, fun _ => by simp only; omega, by simp; omega, [(v, t)], rfl⟩
theorem sall_up {g : Tm → Tm → Bnd → Nat → Us} : ∀ (T U : Ts) (B : Bnd) (w : Nat), (∀ a b : Tm, a.ar.nodes < T.nodes → b.ar.nodes < U.nodes → ∀ B w, Bok B → SmB B → w ≤ 400 → UP B w (g a b B w)) → Bok B → SmB B → w ≤ 400 → UP B w (allL g T U B w)
 | .nil, U, B, w, h, hB, hS, hw => ⟨hB, hS, fun _ => hw, by simp [allL], [], rfl⟩
 | .cons k n s a r, .nil, B, w, h, hB, hS, hw => ⟨hB, hS, fun _ => hw, by simp [allL], [], rfl⟩
 | .cons k n s a r, .cons k' n' s' a' r', B, w, h, hB, hS, hw => by
  have h1 := h ⟨k, n, s, a⟩ ⟨k', n', s', a'⟩ (by simp only [Ts.nodes]; omega) (by simp only [Ts.nodes]; omega) B w hB hS hw
  simp only [allL]
  split
  ·rename_i hok
   have h2 := sall_up r r' _ _ (fun a b ha hb => h a b (by simp only [Ts.nodes]; omega) (by simp only [Ts.nodes]; omega)) h1.bok h1.sm (h1.ok hok)
   obtain ⟨N1, e1⟩ := h1.ext
   obtain ⟨N2, e2⟩ := h2.ext
   refine ⟨h2.bok, h2.sm, h2.ok, ?_, N2 ++ N1, by rw [e2, e1, List.append_assoc]⟩
   have := h1.len
   have := h2.len
   omega
  ·exact h1
theorem suni_up : ∀ (f : Nat) (a b : Tm) (B : Bnd) (w : Nat), a.ar.nodes ≤ 24 → b.ar.nodes ≤ 24 → Bok B → SmB B → w ≤ 400 → UP B w (uniM f a b B w)
 | 0, a, b, B, w, ha, hb, hB, hS, hw => ⟨hB, hS, fun h => (by cases h), by simp only [uniM]; omega, [], rfl⟩
 | f + 1, a, b, B, w, ha, hb, hB, hS, hw => by
  have ea := look_small hS ha
  have eb := look_small hS hb
  have na := look_end hB a
  have nb := look_end hB b
  have up1 : ∀ r : Us, UP B (w + 1) r → UP B w r := fun r h => ⟨h.bok, h.sm, h.ok, by have := h.len; omega, h.ext⟩
  simp only [uniM]
  split
  ·exact ⟨hB, hS, fun h => (by cases h), by simp only; omega, [], rfl⟩
  split
  ·rename_i ha0
   split
   ·rename_i hb0
    by_cases e : (lookM B a).n = (lookM B b).n
    ·rw [if_pos e]
     exact ⟨hB, hS, fun _ => by simp only; omega, by simp only; omega, [], rfl⟩
    ·rw [if_neg e]
     exact ⟨⟨na ha0, fun h => ⟨fun h2 => e h2.symm, nb h⟩, hB⟩, hS.cons eb, fun _ => by simp only; omega, by simp; omega, [_], rfl⟩
   ·rename_i hb0
    exact up1 _ (sasg_up hB hS (na ha0) hb0 eb)
  split
  ·rename_i ha0 hb0
   exact up1 _ (sasg_up hB hS (nb hb0) ha0 ea)
  split
  ·exact up1 _ (sall_up _ _ _ _ (fun x y hx hy B w hB hS hw => suni_up f x y B w (by omega) (by omega) hB hS hw) hB hS (by omega))
  ·exact ⟨hB, hS, fun h => (by cases h), by simp only; omega, [], rfl⟩
end Go.Proofs.Ythliapbflkfdiab
namespace Go.Proofs.Ythliapbflkfdiab
open Go.RowKit
set_option linter.unusedVariables false
set_option linter.unusedSimpArgs false
def Ts.tms : Ts → List Tm
 | .nil => []
 | .cons k n s a r => ⟨k, n, s, a⟩ :: r.tms
theorem Ts.tms_len (T : Ts) : T.tms.length = T.length := by
 induction T with
 | nil => rfl
 | cons k n s a r _ ih => simp only [Ts.tms, List.length_cons, ih, Ts.length]
def tvw (t : Tm) : Vw Tm := if t.k = 0 then .var t.n else .node t.k t.n t.s t.ar.tms
def tview (B : Bnd) (t : Tm) : Vw Tm := tvw (lookM B t)
def sysT (j : Bnd → Tm → Tm → Bnd) : Sy where
 X := Tm
 S := Bnd
 ok := Bok
 dom := fun _ _ => True
 view := tview
 bind := fun B v t => (v, lookM B t) :: B
 join := j
theorem tview_var {B : Bnd} {t : Tm} {v : Int} : tview B t = .var v ↔ (lookM B t).k = 0 ∧ (lookM B t).n = v := by
 unfold tview tvw
 split
 ·rename_i h; simp [h]
 ·rename_i h; simp [h]
theorem tview_node {B : Bnd} {t : Tm} {k n : Int} {s : ByteArray} {ar : List Tm} (h : tview B t = .node k n s ar) : (lookM B t).k = k ∧ k ≠ 0 ∧ (lookM B t).n = n ∧ (lookM B t).s = s ∧ (lookM B t).ar.tms = ar := by
 unfold tview tvw at h
 split at h
 ·cases h
 ·rename_i h0; cases h; exact ⟨rfl, h0, rfl, rfl, rfl⟩
theorem look_cons {B : Bnd} {v : Int} {t : Tm} (hB : Bok ((v, t) :: B)) (x : Tm) : lookM ((v, t) :: B) x = if (lookM B x).k = 0 ∧ (lookM B x).n = v then t else lookM B x := by
 obtain ⟨hv, ht, hB'⟩ := hB
 have hBo : Bok ((v, t) :: B) := ⟨hv, ht, hB'⟩
 have htt : lookM ((v, t) :: B) t = t := by
  by_cases hk : t.k = 0
  ·refine look_free ?_
   obtain ⟨h1, h2⟩ := ht hk
   simp only [bget]
   rw [if_neg h1]; exact h2
  ·exact look_nonvar hk
 have key : ∀ (p : Nat) (x : Tm), Clear B p x → lookM ((v, t) :: B) x = if (lookM B x).k = 0 ∧ (lookM B x).n = v then t else lookM B x := by
  intro p
  induction p using Nat.strongRecOn with
  | _ p ih =>
   intro x hx
   by_cases hk : x.k = 0
   ·cases hg : bget x.n B with
    | none =>
     rw [look_free hg]
     by_cases hn : x.n = v
     ·rw [if_pos ⟨hk, hn⟩, look_bound hBo hk (u := t) (by simp only [bget]; rw [if_pos hn]), htt]
     ·rw [if_neg fun h => hn h.2, look_free]
      simp only [bget]; rw [if_neg hn]; exact hg
    | some u =>
     obtain ⟨q, hq, hu⟩ := hx.step hB' hk hg
     have hn : x.n ≠ v := fun e => by rw [e] at hg; rw [show bget v B = none from hv] at hg; cases hg
     rw [look_bound hB' hk hg, look_bound hBo hk (u := u) (by simp only [bget]; rw [if_neg hn]; exact hg)]
     exact ih q hq u hu
   ·rw [look_nonvar hk, look_nonvar hk, if_neg fun h => hk h.1]
 exact key _ x (Clear.start B x)
theorem tview_cons {B : Bnd} {v : Int} {t : Tm} (hB : Bok ((v, t) :: B)) (x : Tm) : tview ((v, t) :: B) x = (tview B x).sub v (tvw t) := by
 have := look_cons hB x
 unfold tview
 rw [this]
 by_cases h : (lookM B x).k = 0
 ·by_cases h2 : (lookM B x).n = v
  ·rw [if_pos ⟨h, h2⟩]
   unfold Vw.sub
   rw [show tvw (lookM B x) = .var (lookM B x).n by unfold tvw; rw [if_pos h]]
   simp [h2]
  ·rw [if_neg fun e => h2 e.2]
   rw [show tvw (lookM B x) = .var (lookM B x).n by unfold tvw; rw [if_pos h]]
   unfold Vw.sub; simp [h2]
 ·rw [if_neg fun e => h e.1]
  rw [show tvw (lookM B x) = .node (lookM B x).k (lookM B x).n (lookM B x).s (lookM B x).ar.tms by unfold tvw; rw [if_neg h]]
  rfl
def JoinOk (j : Bnd → Tm → Tm → Bnd) : Prop := ∀ B a b u v, Bok B → tview B a = .var u → tview B b = .var v → u ≠ v → ∃ p q t, j B a b = (p, t) :: B ∧ t.k = 0 ∧ t.n = q ∧ ((p = u ∧ q = v) ∨ (p = v ∧ q = u))
theorem free_of {B : Bnd} (hB : Bok B) {x : Tm} {v : Int} (h : tview B x = .var v) : bget v B = none := by
 obtain ⟨h1, h2⟩ := tview_var.1 h
 rw [← h2]; exact look_end hB x h1
theorem sysT_law {j : Bnd → Tm → Tm → Bnd} (hj : JoinOk j) : (sysT j).Law where
 bind_ok := by
  intro B x v t k n s ar hB _ _ hx ht
  obtain ⟨h1, h2, _⟩ := tview_node ht
  exact ⟨free_of hB hx, fun e => absurd e (by show (lookM B t).k ≠ 0; rw [h1]; exact h2), hB⟩
 bind_dom := fun _ => trivial
 bind_view := by
  intro B x v t k n s ar y hB _ _ hx ht _
  obtain ⟨h1, h2, _⟩ := tview_node ht
  have hb : Bok ((v, lookM B t) :: B) := ⟨free_of hB hx, fun e => absurd e (by show (lookM B t).k ≠ 0; rw [h1]; exact h2), hB⟩
  exact tview_cons hb y
 join_ok := by
  intro B a b u v hB _ _ ha hb hne
  obtain ⟨p, q, t, e, hk, hn, hpq⟩ := hj B a b u v hB ha hb hne
  show Bok (j B a b)
  rw [e]
  have fu := free_of hB ha
  have fv := free_of hB hb
  rcases hpq with ⟨rfl, rfl⟩ | ⟨rfl, rfl⟩
  ·exact ⟨fu, fun _ => ⟨by rw [hn]; exact fun e => hne e.symm, by rw [hn]; exact fv⟩, hB⟩
  ·exact ⟨fv, fun _ => ⟨by rw [hn]; exact hne, by rw [hn]; exact fu⟩, hB⟩
 join_dom := fun _ => trivial
 join_view := by
  intro B a b u v hB _ _ ha hb hne
  obtain ⟨p, q, t, e, hk, hn, hpq⟩ := hj B a b u v hB ha hb hne
  have fu := free_of hB ha
  have fv := free_of hB hb
  have et : tvw t = .var q := by unfold tvw; rw [if_pos hk, hn]
  rcases hpq with ⟨rfl, rfl⟩ | ⟨rfl, rfl⟩
  ·refine .inl fun y _ => ?_
   show tview (j B a b) y = _
   have hb2 : Bok ((p, t) :: B) := ⟨fu, fun _ => ⟨by rw [hn]; exact fun e => hne e.symm, by rw [hn]; exact fv⟩, hB⟩
   rw [e]
   have := tview_cons hb2 y
   rw [et] at this; exact this
  ·refine .inr fun y _ => ?_
   show tview (j B a b) y = _
   have hb2 : Bok ((p, t) :: B) := ⟨fv, fun _ => ⟨by rw [hn]; exact hne, by rw [hn]; exact fu⟩, hB⟩
   rw [e]
   have := tview_cons hb2 y
   rw [et] at this; exact this
def joinS (B : Bnd) (a b : Tm) : Bnd := ((lookM B a).n, lookM B b) :: B
theorem joinS_ok : JoinOk joinS := fun B a b u v hB ha hb hne => by
 obtain ⟨a1, a2⟩ := tview_var.1 ha
 obtain ⟨b1, b2⟩ := tview_var.1 hb
 exact ⟨u, v, lookM B b, by unfold joinS; rw [a2], b1, b2, .inl ⟨rfl, rfl⟩⟩
abbrev sysS : Sy := sysT joinS
theorem any_tms {g : Tm → Nat → Bool × Nat} : ∀ (T : Ts) (w : Nat), anyL g T w = anyG g T.tms w
 | .nil, w => rfl
 | .cons k n s a r, w => by simp only [anyL, Ts.tms, anyG]; rw [any_tms r]
theorem occ_eq (B : Bnd) (v : Int) : ∀ (f : Nat) (t : Tm) (w : Nat), occM B v f t w = occG sysS B v f t w
 | 0, t, w => rfl
 | f + 1, t, w => by
  simp only [occM, occG]
  split
  ·rfl
  ·rw [show sysS.view B t = tvw (lookM B t) from rfl]
   unfold tvw
   by_cases hk : (lookM B t).k = 0
   ·rw [if_pos hk, if_pos hk]
   ·rw [if_neg hk, if_neg hk, any_tms]
    have : occM B v f = occG sysS B v f := by funext t w; exact occ_eq B v f t w
    rw [this]; rfl
theorem occ_look {j : Bnd → Tm → Tm → Bnd} {B : Bnd} (hB : Bok B) (v : Int) (f : Nat) (t : Tm) (w : Nat) : occG (sysT j) B v f (lookM B t) w = occG (sysT j) B v f t w := by
 cases f with
 | zero => rfl
 | succ f =>
  simp only [occG]
  rw [show (sysT j).view B (lookM B t) = (sysT j).view B t by show tvw (lookM B (lookM B t)) = _; rw [look_look hB]; rfl]
def Us.ug (u : Us) : Ug Bnd := ⟨u.ok, u.B, u.w⟩
theorem all_tms {g : Tm → Tm → Bnd → Nat → Us} {g' : Tm → Tm → Bnd → Nat → Ug Bnd} (P : Bnd → Prop) (hP : ∀ a b B w, P B → P (g a b B w).B) (hg : ∀ a b B w, P B → (g a b B w).ug = g' a b B w) : ∀ (T U : Ts) (B : Bnd) (w : Nat), P B → (allL g T U B w).ug = allG g' T.tms U.tms B w
 | .nil, U, B, w, _ => by cases U <;> rfl
 | .cons k n s a r, .nil, B, w, _ => rfl
 | .cons k n s a r, .cons k' n' s' a' r', B, w, h => by
  simp only [allL, Ts.tms, allG]
  rw [← hg _ _ _ _ h]
  by_cases hok : (g ⟨k, n, s, a⟩ ⟨k', n', s', a'⟩ B w).ok = true
  ·rw [if_pos hok, if_pos (show (g ⟨k, n, s, a⟩ ⟨k', n', s', a'⟩ B w).ug.ok = true from hok)]
   exact all_tms P hP hg r r' _ _ (hP _ _ _ _ h)
  ·rw [if_neg hok, if_neg (show ¬ (g ⟨k, n, s, a⟩ ⟨k', n', s', a'⟩ B w).ug.ok = true from hok)]
theorem asg_bok {B : Bnd} (hB : Bok B) {v : Int} {t : Tm} (hv : bget v B = none) (ht : t.k ≠ 0) (w : Nat) : Bok (asgM v t B w).B := by
 unfold asgM
 split
 ·exact hB
 ·exact ⟨hv, fun e => absurd e ht, hB⟩
theorem allL_bok {g : Tm → Tm → Bnd → Nat → Us} (hg : ∀ a b B w, Bok B → Bok (g a b B w).B) : ∀ (T U : Ts) (B : Bnd) (w : Nat), Bok B → Bok (allL g T U B w).B
 | .nil, U, B, w, h => by cases U <;> exact h
 | .cons _ _ _ _ _, .nil, B, w, h => h
 | .cons k n s a r, .cons k' n' s' a' r', B, w, h => by
  simp only [allL]
  split
  ·exact allL_bok hg r r' _ _ (hg _ _ _ _ h)
  ·exact hg _ _ _ _ h
theorem uni_bok : ∀ (f : Nat) (a b : Tm) (B : Bnd) (w : Nat), Bok B → Bok (uniM f a b B w).B
 | 0, a, b, B, w, h => h
 | f + 1, a, b, B, w, h => by
  simp only [uniM]
  split
  ·exact h
  split
  ·rename_i ha
   split
   ·rename_i hb
    show Bok (if _ then _ else _)
    split
    ·exact h
    ·rename_i hne
     exact ⟨look_end h a ha, fun _ => ⟨fun e => hne e.symm, look_end h b hb⟩, h⟩
   ·rename_i hb
    exact asg_bok h (look_end h a ha) hb _
  ·rename_i ha
   split
   ·rename_i hb
    exact asg_bok h (look_end h b hb) ha _
   ·split
    ·exact allL_bok (fun a b B w h => uni_bok f a b B w h) _ _ _ _ h
    ·exact h
theorem uni_eq : ∀ (f : Nat) (a b : Tm) (B : Bnd) (w : Nat), Bok B → (uniM f a b B w).ug = uniG sysS f a b B w
 | 0, a, b, B, w, h => rfl
 | f + 1, a, b, B, w, h => by
  simp only [uniM, uniG]
  by_cases hw : 400 < w + 1
  ·rw [if_pos hw, if_pos hw]; rfl
  rw [if_neg hw, if_neg hw]
  have va : sysS.view B a = tvw (lookM B a) := rfl
  have vb : sysS.view B b = tvw (lookM B b) := rfl
  rw [va, vb]
  have hasg : ∀ (v : Int) (t : Tm), (asgM v (lookM B t) B (w + 1)).ug = asgG sysS v t B (w + 1) := fun v t => by
   unfold asgM asgG
   rw [occ_eq, occ_look (j := joinS) h]
   split <;> rfl
  by_cases ha : (lookM B a).k = 0
  ·rw [if_pos ha, show tvw (lookM B a) = .var (lookM B a).n by unfold tvw; rw [if_pos ha]]
   by_cases hb : (lookM B b).k = 0
   ·rw [if_pos hb, show tvw (lookM B b) = .var (lookM B b).n by unfold tvw; rw [if_pos hb]]
    rfl
   ·rw [if_neg hb, show tvw (lookM B b) = .node (lookM B b).k (lookM B b).n (lookM B b).s (lookM B b).ar.tms by unfold tvw; rw [if_neg hb]]
    exact hasg _ _
  ·rw [if_neg ha, show tvw (lookM B a) = .node (lookM B a).k (lookM B a).n (lookM B a).s (lookM B a).ar.tms by unfold tvw; rw [if_neg ha]]
   by_cases hb : (lookM B b).k = 0
   ·rw [if_pos hb, show tvw (lookM B b) = .var (lookM B b).n by unfold tvw; rw [if_pos hb]]
    exact hasg _ _
   ·rw [if_neg hb, show tvw (lookM B b) = .node (lookM B b).k (lookM B b).n (lookM B b).s (lookM B b).ar.tms by unfold tvw; rw [if_neg hb]]
    show (if _ then _ else _ : Us).ug = if _ then _ else _
    have hc : alikeT (lookM B a) (lookM B b) = true ↔ (lookM B a).k = (lookM B b).k ∧ (lookM B a).n = (lookM B b).n ∧ (lookM B a).s = (lookM B b).s ∧ (lookM B a).ar.tms.length = (lookM B b).ar.tms.length := by
     simp only [alikeT, Bool.and_eq_true, decide_eq_true_eq, Ts.tms_len, and_assoc]
    by_cases hal : alikeT (lookM B a) (lookM B b) = true
    ·rw [if_pos hal]
     refine Eq.trans ?_ (if_pos (hc.1 hal)).symm
     exact all_tms Bok (fun a b B w h => uni_bok f a b B w h) (fun a b B w h => uni_eq f a b B w h) _ _ _ _ h
    ·rw [if_neg hal]
     exact (if_neg fun e => hal (hc.2 e)).symm
end Go.Proofs.Ythliapbflkfdiab
namespace Go.Proofs.Ythliapbflkfdiab
theorem pos_lt {n : Int} : ∀ {ks : List Int} {j : Nat}, pos n ks = some j → j < ks.length
 | [], _, h => by cases h
 | k :: r, j, h => by
  rw [pos] at h
  by_cases e : n = k
  ·rw [if_pos e] at h; cases h; simp
  ·rw [if_neg e] at h
   cases hp : pos n r with
   | none => rw [hp] at h; cases h
   | some i =>
    rw [hp] at h
    cases h
    have := pos_lt hp
    simp; omega
end Go.Proofs.Ythliapbflkfdiab
namespace Go.Proofs.Ythliapbflkfdiab
set_option linter.unusedVariables false
def Ts.Mem (x : Tm) : Ts → Prop
 | .nil => False
 | .cons k n s a r => x = ⟨k, n, s, a⟩ ∨ r.Mem x
def Down (Q : Tm → Prop) : Prop := ∀ t : Tm, Q t → ∀ x, t.ar.Mem x → Q x
theorem look_Q {Q : Tm → Prop} {B : Bnd} (hB : ∀ x ∈ B, Q x.2) {t : Tm} (ht : Q t) : Q (lookM B t) := by
 rcases look_mem (B := B) t with h | ⟨x, hx, h⟩
 ·rw [h]; exact ht
 ·rw [h]; exact hB x hx
theorem asg_Q {Q : Tm → Prop} {B : Bnd} {v : Int} {t : Tm} {w : Nat} (hB : ∀ x ∈ B, Q x.2) (ht : Q t) : ∀ x ∈ (asgM v t B w).B, Q x.2 := by
 unfold asgM
 split
 ·exact hB
 ·intro x hx
  rcases List.mem_cons.1 hx with rfl | hx
  ·exact ht
  ·exact hB x hx
theorem all_Q {Q : Tm → Prop} {g : Tm → Tm → Bnd → Nat → Us} (hg : ∀ a b B w, (∀ x ∈ B, Q x.2) → Q a → Q b → ∀ x ∈ (g a b B w).B, Q x.2) : ∀ (T U : Ts) (B : Bnd) (w : Nat), (∀ x, T.Mem x → Q x) → (∀ x, U.Mem x → Q x) → (∀ x ∈ B, Q x.2) → ∀ x ∈ (allL g T U B w).B, Q x.2
 | .nil, U, B, w, _, _, hB => hB
 | .cons k n s a r, .nil, B, w, _, _, hB => hB
 | .cons k n s a r, .cons k' n' s' a' r', B, w, hT, hU, hB => by
  have h1 := hg ⟨k, n, s, a⟩ ⟨k', n', s', a'⟩ B w hB (hT _ (.inl rfl)) (hU _ (.inl rfl))
  simp only [allL]
  split
  ·exact all_Q hg r r' _ _ (fun x hx => hT x (.inr hx)) (fun x hx => hU x (.inr hx)) h1
  ·exact h1
theorem uni_Q {Q : Tm → Prop} (hQ : Down Q) : ∀ (f : Nat) (a b : Tm) (B : Bnd) (w : Nat), (∀ x ∈ B, Q x.2) → Q a → Q b → ∀ x ∈ (uniM f a b B w).B, Q x.2
 | 0, a, b, B, w, hB, ha, hb => hB
 | f + 1, a, b, B, w, hB, ha, hb => by
  have ea := look_Q hB ha
  have eb := look_Q hB hb
  simp only [uniM]
  split
  ·exact hB
  split
  ·split
   ·by_cases e : (lookM B a).n = (lookM B b).n
    ·rw [if_pos e]; exact hB
    ·rw [if_neg e]
     intro x hx
     rcases List.mem_cons.1 hx with rfl | hx
     ·exact eb
     ·exact hB x hx
   ·exact asg_Q hB eb
  split
  ·exact asg_Q hB ea
  split
  ·exact all_Q (fun a b B w => uni_Q hQ f a b B w) _ _ _ _ (hQ _ ea) (hQ _ eb) hB
  ·exact hB
theorem all_w {g : Tm → Tm → Bnd → Nat → Us} : ∀ (T U : Ts) (B : Bnd) (w : Nat), (∀ a b : Tm, a.ar.nodes < T.nodes → b.ar.nodes < U.nodes → ∀ B w, Bok B → SmB B → w ≤ 400 → UP B w (g a b B w) ∧ (g a b B w).w ≤ 10025) → Bok B → SmB B → w ≤ 400 → (allL g T U B w).w ≤ 10025
 | .nil, U, B, w, h, hB, hS, hw => by simp [allL]; omega
 | .cons k n s a r, .nil, B, w, h, hB, hS, hw => by simp [allL]; omega
 | .cons k n s a r, .cons k' n' s' a' r', B, w, h, hB, hS, hw => by
  obtain ⟨h1, h2⟩ := h ⟨k, n, s, a⟩ ⟨k', n', s', a'⟩ (by simp only [Ts.nodes]; omega) (by simp only [Ts.nodes]; omega) B w hB hS hw
  simp only [allL]
  split
  ·rename_i hok
   exact all_w r r' _ _ (fun a b ha hb => h a b (by simp only [Ts.nodes]; omega) (by simp only [Ts.nodes]; omega)) h1.bok h1.sm (h1.ok hok)
  ·exact h2
theorem uni_w : ∀ (f : Nat) (a b : Tm) (B : Bnd) (w : Nat), a.ar.nodes ≤ 24 → b.ar.nodes ≤ 24 → Bok B → SmB B → w ≤ 400 → (uniM f a b B w).w ≤ 10025
 | 0, a, b, B, w, ha, hb, hB, hS, hw => by simp only [uniM]; omega
 | f + 1, a, b, B, w, ha, hb, hB, hS, hw => by
  have ea := look_small hS ha
  have eb := look_small hS hb
  have hasg : ∀ (v : Int) (t : Tm), t.ar.nodes ≤ 24 → (asgM v t B (w + 1)).w ≤ max (w + 2) 10025 := fun v t ht => by
   have h1 := occ_le hS v 401 t ht (w + 1)
   unfold asgM
   split
   ·simp only; omega
   ·simp only; omega
  simp only [uniM]
  split
  ·simp only; omega
  split
  ·split
   ·simp only; omega
   ·have := hasg (lookM B a).n (lookM B b) eb; omega
  split
  ·have := hasg (lookM B b).n (lookM B a) ea; omega
  split
  ·exact all_w _ _ _ _ (fun x y hx hy B w hB hS hw => ⟨suni_up f x y B w (by omega) (by omega) hB hS hw, uni_w f x y B w (by omega) (by omega) hB hS hw⟩) hB hS (by omega)
  ·simp only; omega
def tgd (t : Tm) : Prop := (Ts.cons t.k t.n t.s t.ar .nil).good 549755813888 = true ∧ t.ar.nodes + 1 ≤ 24
theorem Ts.mem_nodes {x : Tm} : ∀ {T : Ts}, T.Mem x → x.ar.nodes + 1 ≤ T.nodes
 | .cons k n s a r, h => by
  simp only [Ts.nodes]
  rcases h with rfl | h
  ·simp only; omega
  ·have := Ts.mem_nodes h; omega
theorem Ts.mem_good {v : Int} {x : Tm} : ∀ {T : Ts}, T.Mem x → T.good v = true → (Ts.cons x.k x.n x.s x.ar .nil).good v = true
 | .cons k n s a r, h, hg => by
  simp only [Ts.good, Bool.and_eq_true] at hg ⊢
  rcases h with rfl | h
  ·exact ⟨hg.1, trivial⟩
  ·have := Ts.mem_good h hg.2
   simp only [Ts.good, Bool.and_eq_true] at this
   exact this
theorem tgd_down : Down tgd := fun t h x hx => by
 obtain ⟨h1, h2⟩ := h
 have h3 := Ts.mem_nodes hx
 refine ⟨?_, by omega⟩
 simp only [Ts.good, Bool.and_eq_true] at h1
 exact Ts.mem_good hx h1.1.2
theorem tgd.small {t : Tm} (h : tgd t) : t.ar.nodes ≤ 24 := by have := h.2; omega
def olderOk : List Gl → Nat → Prop
 | [], _ => True
 | g :: r, n => g.2 ≤ n ∧ olderOk r g.2
theorem olderOk.mono : ∀ {l : List Gl} {n m : Nat}, olderOk l n → n ≤ m → olderOk l m
 | [], _, _, _, _ => trivial
 | g :: r, n, m, h, hm => ⟨Nat.le_trans h.1 hm, h.2⟩
def chsOk : List Ch → Nat → Prop
 | [], _ => True
 | c :: cs, n => c.bound ≤ n ∧ olderOk (c.g :: c.next) cs.length ∧ (∀ g ∈ c.g :: c.next, tgd g.1) ∧ c.cls ≠ [] ∧ (∀ cl ∈ c.cls, cB cl = true) ∧ chsOk cs c.bound
theorem chsOk.mono : ∀ {l : List Ch} {n m : Nat}, chsOk l n → n ≤ m → chsOk l m
 | [], _, _, _, _ => trivial
 | c :: cs, n, m, h, hm => ⟨Nat.le_trans h.1 hm, h.2⟩
theorem chsOk.drop : ∀ {l : List Ch} {n : Nat}, chsOk l n → ∀ k, chsOk (l.drop k) n
 | [], _, _, _ => by simp [chsOk]
 | c :: cs, n, h, 0 => h
 | c :: cs, n, h, k + 1 => by
  have := chsOk.drop h.2.2.2.2.2 k
  exact this.mono h.1
theorem cnt_drop : ∀ (l : List Ch) (k : Nat), cntC (l.drop k) ≤ cntC l
 | [], k => by simp
 | c :: cs, 0 => Nat.le_refl _
 | c :: cs, k + 1 => by have := cnt_drop cs k; simp only [List.drop_succ_cons, cntC]; omega
theorem chsOk.len : ∀ {l : List Ch} {n : Nat}, chsOk l n → l.length ≤ cntC l
 | [], _, _ => Nat.le_refl _
 | c :: cs, n, h => by
  have h1 := chsOk.len h.2.2.2.2.2
  have h2 : 0 < c.cls.length := List.length_pos_iff.2 h.2.2.2.1
  simp only [List.length_cons, cntC]; omega
def mu (s : SS) : Nat := 25 * s.fuel + cntC s.ch
structure InvC (s : SS) : Prop where
 bok : Bok s.B
 gb : ∀ x ∈ s.B, tgd x.2
 ch : chsOk s.ch s.B.length
 fr : s.fresh + 8 * mu s ≤ 40000
 bl : s.B.length + 10100 * mu s ≤ 1000000000
structure Inv (s : SS) : Prop where
 c : InvC s
 gg : ∀ g ∈ s.goals, tgd g.1
 og : olderOk s.goals s.ch.length
theorem InvC.sm {s : SS} (h : InvC s) : SmB s.B := fun x hx => (h.gb x hx).small
theorem low_of {n : Int} (h0 : 0 ≤ n) (h1 : n < 1099511627776) : low n = n := by unfold low; omega
theorem node_shift {v k n m : Int} {s : ByteArray} {l : Nat} (h : nodeB v k n s l = true) (hv : v ≤ 8) (h0 : 0 ≤ m) (h1 : m ≤ 40000) : nodeB 549755813888 k (shiftN k n m) s l = true := by
 unfold nodeB at h ⊢
 unfold shiftN
 by_cases e : k = 0
 ·rw [if_pos e] at h ⊢
  rw [if_pos e]
  simp only [Bool.and_eq_true, decide_eq_true_eq] at h ⊢
  rw [low_of (n := n) (by omega) (by omega), low_of (n := m) (by omega) (by omega)]
  exact ⟨⟨⟨by omega, by omega⟩, h.1.2⟩, h.2⟩
 ·rw [if_neg e] at h ⊢
  rw [if_neg e]
  exact h
theorem Ts.shift_nil (m : Int) : Ts.nil.shift m = .nil := rfl
theorem Ts.shift_len (m : Int) (T : Ts) : (T.shift m).length = T.length := by
 induction T with
 | nil => rfl
 | cons k n s a r _ ih => rw [Ts.shift_cons]; simp only [Ts.length, ih]
theorem Ts.shift_nodes (m : Int) (T : Ts) : (T.shift m).nodes = T.nodes := by
 induction T with
 | nil => rfl
 | cons k n s a r iha ihr => rw [Ts.shift_cons]; simp only [Ts.nodes, iha, ihr]
theorem Ts.shift_good {v m : Int} (hv : v ≤ 8) (h0 : 0 ≤ m) (h1 : m ≤ 40000) (T : Ts) : T.good v = true → (T.shift m).good 549755813888 = true := by
 induction T with
 | nil => intro _; rfl
 | cons k n s a r iha ihr =>
  intro h
  rw [Ts.shift_cons]
  simp only [Ts.good, Bool.and_eq_true] at h ⊢
  exact ⟨⟨by rw [Ts.shift_len]; exact node_shift h.1.1 hv h0 h1, iha h.1.2⟩, ihr h.2⟩
theorem tgd_shift {v k n m : Int} {s : ByteArray} {T : Ts} (h : gB v k n s T = true) (hv : v ≤ 8) (h0 : 0 ≤ m) (h1 : m ≤ 40000) : tgd (Tm.shift ⟨k, n, s, T⟩ m) := by
 simp only [gB, Bool.and_eq_true, decide_eq_true_eq] at h
 refine ⟨?_, by show (T.shift m).nodes + 1 ≤ 24; rw [Ts.shift_nodes]; exact h.2⟩
 have := Ts.shift_good hv h0 h1 (.cons k n s T .nil) h.1.2
 rwa [Ts.shift_cons, Ts.shift_nil] at this
theorem body_gd {v m : Int} {o : Nat} {rest : List Gl} (hv : v ≤ 8) (h0 : 0 ≤ m) (h1 : m ≤ 40000) (hr : ∀ g ∈ rest, tgd g.1) : ∀ T : Ts, T.goals v = true → ∀ g ∈ bodyG T m o rest, tgd g.1
 | .nil, _ => hr
 | .cons k n s a r, h => by
  simp only [Ts.goals, Bool.and_eq_true] at h
  intro g hg
  rcases List.mem_cons.1 hg with rfl | hg
  ·exact tgd_shift h.1 hv h0 h1
  ·exact body_gd hv h0 h1 hr r h.2 g hg
theorem body_older {m : Int} {o : Nat} {rest : List Gl} (hr : olderOk rest o) : ∀ T : Ts, olderOk (bodyG T m o rest) o
 | .nil => hr
 | .cons k n s a r => ⟨Nat.le_refl _, body_older hr r⟩
theorem cB_parts {c : Cl} (h : cB c = true) : 0 ≤ c.vars ∧ c.vars ≤ 8 ∧ c.bd.length ≤ 5 ∧ c.bd.goals c.vars = true ∧ gB c.vars c.k c.n c.s c.hd = true := by
 simp only [cB, qB, Bool.and_eq_true, decide_eq_true_eq] at h
 exact ⟨h.1.1.1.1.1, h.1.1.1.1.2, h.1.1.1.2, h.1.1.2, h.1.2⟩
theorem undo_len (B : Bnd) {n : Nat} (h : n ≤ B.length) : (undoM B n).length = n := by unfold undoM; simp; omega
theorem cl_tgd {cl : Cl} (h : cB cl = true) {m : Nat} (hm : m ≤ 40000) : tgd (cl.head.shift m) := by
 obtain ⟨h0, h1, _, _, h2⟩ := cB_parts h
 exact tgd_shift h2 h1 (by omega) (by omega)
theorem undo_Q {Q : Tm → Prop} {B : Bnd} (h : ∀ x ∈ B, Q x.2) (n : Nat) : ∀ x ∈ undoM B n, Q x.2 := fun x hx => h x (List.mem_of_mem_drop hx)
theorem pop_len (c : Ch) (more : List Cl) (cs : List Ch) : cs.length ≤ (popC c more cs).length := by
 cases more with
 | nil => exact Nat.le_refl _
 | cons x r => simp [popC]
theorem pop_cnt (c : Ch) (more : List Cl) (cs : List Ch) : cntC (popC c more cs) = more.length + cntC cs := by
 cases more with
 | nil => simp [popC]
 | cons x r => simp [popC, cntC]
theorem pop_inv {s : SS} {c : Ch} {cs : List Ch} {cl : Cl} {more : List Cl} (hI : InvC s) (h1 : s.ch = c :: cs) (h2 : c.cls = cl :: more) (g' : List Gl) :
  InvC ⟨(uniM 401 (cl.head.shift s.fresh) c.g.1 (undoM s.B c.bound) 0).B, s.fresh + cl.vars.toNat, s.fuel, g', popC c more cs, s.ev⟩ := by
 have hch := hI.ch
 rw [h1] at hch
 obtain ⟨a1, a2, a3, a4, a5, a6⟩ := hch
 have hfr := hI.fr
 have hbl := hI.bl
 have hmu : mu s = 25 * s.fuel + (more.length + 1 + cntC cs) := by unfold mu; rw [h1]; simp only [cntC, h2, List.length_cons]
 have hcl : cB cl = true := a5 cl (by rw [h2]; exact .head _)
 obtain ⟨v0, v1, _, _, _⟩ := cB_parts hcl
 have hmu' : mu ⟨(uniM 401 (cl.head.shift s.fresh) c.g.1 (undoM s.B c.bound) 0).B, s.fresh + cl.vars.toNat, s.fuel, g', popC c more cs, s.ev⟩ = 25 * s.fuel + (more.length + cntC cs) := by unfold mu; simp only [pop_cnt]
 have t1 := cl_tgd hcl (m := s.fresh) (by omega)
 have t2 := a3 c.g (.head _)
 have hu := undo_len s.B a1
 have bu : Bok (undoM s.B c.bound) := hI.bok.drop _
 have su : SmB (undoM s.B c.bound) := undo_Q (Q := fun t => t.ar.nodes ≤ 24) hI.sm _
 have hup := suni_up 401 (cl.head.shift s.fresh) c.g.1 (undoM s.B c.bound) 0 t1.small t2.small bu su (by omega)
 have hw := uni_w 401 (cl.head.shift s.fresh) c.g.1 (undoM s.B c.bound) 0 t1.small t2.small bu su (by omega)
 have hgb := uni_Q tgd_down 401 (cl.head.shift s.fresh) c.g.1 (undoM s.B c.bound) 0 (undo_Q hI.gb _) t1 t2
 obtain ⟨N, hN⟩ := hup.ext
 have hlen := hup.len
 have hle : c.bound ≤ (uniM 401 (cl.head.shift s.fresh) c.g.1 (undoM s.B c.bound) 0).B.length := by rw [hN]; simp; omega
 refine ⟨hup.bok, hgb, ?_, by rw [hmu']; simp only; omega, by rw [hmu']; simp only; omega⟩
 show chsOk (popC c more cs) _
 cases more with
 | nil => exact a6.mono hle
 | cons x r => exact ⟨hle, a2, a3, by simp, fun y hy => a5 y (by rw [h2]; exact .tail _ hy), a6⟩
theorem retry_ok : ∀ (n : Nat) (s : SS), InvC s → ((retryM n s).1 = 0 → Inv (retryM n s).2 ∧ mu (retryM n s).2 < mu s) ∧ (retryM n s).2.ev = s.ev ∧ ((retryM n s).1 = 0 ∨ (retryM n s).1 = 2 ∨ (retryM n s).1 = 4) ∧ (retryM n s).2.fuel = s.fuel
 | 0, s, hI => ⟨fun h => (by cases h), rfl, .inr (.inl rfl), rfl⟩
 | n + 1, s, hI => by
  unfold retryM
  cases h1 : s.ch with
  | nil => exact ⟨fun h => (by cases h), rfl, .inr (.inl rfl), rfl⟩
  | cons c cs =>
   simp only
   cases h2 : c.cls with
   | nil => exact ⟨fun h => (by cases h), rfl, .inr (.inl rfl), rfl⟩
   | cons cl more =>
    simp only
    have hmu : mu s = 25 * s.fuel + (more.length + 1 + cntC cs) := by unfold mu; rw [h1]; simp only [cntC, h2, List.length_cons]
    split
    ·exact ⟨fun h => (by cases h), rfl, .inr (.inr rfl), rfl⟩
    split
    ·refine ⟨fun _ => ⟨⟨pop_inv hI h1 h2 _, ?_, ?_⟩, ?_⟩, rfl, .inl rfl, rfl⟩
     ·have hch := hI.ch
      rw [h1] at hch
      obtain ⟨a1, a2, a3, a4, a5, a6⟩ := hch
      obtain ⟨v0, v1, _, v3, _⟩ := cB_parts (a5 cl (by rw [h2]; exact .head _))
      have := hI.fr
      exact body_gd v1 (by omega) (by omega) (fun g hg => a3 g (.tail _ hg)) _ v3
     ·have hch := hI.ch
      rw [h1] at hch
      obtain ⟨a1, a2, a3, a4, a5, a6⟩ := hch
      exact (body_older (a2.2.mono a2.1) _).mono (pop_len c more cs)
     ·rw [hmu]; unfold mu; simp only [pop_cnt]; omega
    ·obtain ⟨i1, i2, i3, i4⟩ := retry_ok n _ (pop_inv hI h1 h2 s.goals)
     refine ⟨fun h => ⟨(i1 h).1, Nat.lt_trans (i1 h).2 ?_⟩, i2, i3, i4⟩
     rw [hmu]; unfold mu; simp only [pop_cnt]; omega
theorem retryM_cons {n : Nat} {s : SS} {c : Ch} {cs : List Ch} {cl : Cl} {more : List Cl} (h1 : s.ch = c :: cs) (h2 : c.cls = cl :: more) : retryM (n + 1) s =
  if 400 < (uniM 401 (cl.head.shift s.fresh) c.g.1 (undoM s.B c.bound) 0).w then (4, ⟨(uniM 401 (cl.head.shift s.fresh) c.g.1 (undoM s.B c.bound) 0).B, s.fresh + cl.vars.toNat, s.fuel, s.goals, popC c more cs, s.ev⟩)
  else if (uniM 401 (cl.head.shift s.fresh) c.g.1 (undoM s.B c.bound) 0).ok = true then (0, ⟨(uniM 401 (cl.head.shift s.fresh) c.g.1 (undoM s.B c.bound) 0).B, s.fresh + cl.vars.toNat, s.fuel, bodyG cl.bd s.fresh cs.length c.next, popC c more cs, s.ev⟩)
  else retryM n ⟨(uniM 401 (cl.head.shift s.fresh) c.g.1 (undoM s.B c.bound) 0).B, s.fresh + cl.vars.toNat, s.fuel, s.goals, popC c more cs, s.ev⟩ := by
 conv => lhs; unfold retryM
 rw [h1]
 simp only
 rw [h2]
end Go.Proofs.Ythliapbflkfdiab
