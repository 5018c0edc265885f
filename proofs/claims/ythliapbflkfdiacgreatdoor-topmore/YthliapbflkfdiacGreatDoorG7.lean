/- Steps of the proof. -/
import Derived.Test.YthliapbflkfdiacGreatDoorG6
import Derived.Deep.DeepCutAuto
namespace Go.Proofs.YthliapbflkfdiacGreatDoor
open Go.RowKit
def low (n : Int) : Int := n % 1099511627776
def pos (n : Int) : List Int → Option Nat
 | [] => none
 | k :: r => if n = k then some 0 else (pos n r).map (· + 1)
def Qqr (ks : List Int) (n : Int) : Int := ((pos n ks).getD ks.length : Nat)
def Qqs (ks : List Int) (n : Int) : List Int := if (pos n ks).isSome then ks else ks ++ [n]
def Qca (i : Nat) : List Int → List (Int × Value)
 | [] => []
 | k :: r => (k, .int .i64 i) :: Qca (i + 1) r
theorem QdU : ∀ (ks : List Int) (i : Nat), (Qca i ks).length = ks.length
 | [], _ => rfl
 | _ :: r, i => by simp [Qca, QdU r (i + 1)]
theorem Qdg (n : Int) : ∀ (ks : List Int) (i : Nat), Qpm n (Qca i ks) = (pos n ks).map fun j => Value.int .i64 ((i + j : Nat) : Int)
 | [], _ => rfl
 | k :: r, i => by
  simp only [Qca, Qpm, pos]
  by_cases e : n = k
  ·simp [e]
  ·simp only [e, if_false, Qdg n r (i + 1), Option.map_map]
   congr 1
   funext j
   simp only [Function.comp]
   congr 2
   omega
theorem Qfx (n : Int) : ∀ (ks : List Int) (i : Nat), Qca i (ks ++ [n]) = Qca i ks ++ [(n, .int .i64 ((i + ks.length : Nat) : Int))]
 | [], i => rfl
 | k :: r, i => by
  simp only [List.cons_append, Qca, Qfx n r (i + 1), List.length_cons]
  congr 5
  omega
def Qpo (w : World) (mb : Nat) (ks : List Int) : Prop := Qcc w mb (Qca 0 ks)
theorem Qan.not_map {w : World} {g mb : Nat} {t : TypeId} {cs : Array Value} {Qcq : List (Int × Value)} (h : Qan w g t cs) (hm : Qcc w mb Qcq) : g ≠ mb := by
 rintro rfl
 obtain ⟨es, clock, hb, _⟩ := hm
 unfold Qan at h
 rw [hb] at h
 cases h
theorem QsL : (Tryz.prog.info? 3).map (fun i => (i.zero, i.size, i.bytes)) = some (some (.int .i64 0), 1, 8) := by kernel_rfl
theorem QrZ (w : World) : (zeroValue 3).run Tryz.prog w = .ok (.int .i64 0) w := by
 obtain ⟨i0, hi0, hz0, _⟩ := info_parts QsL
 simp [zeroValue, typeInfo, hi0, hz0]
set_option maxHeartbeats 400000 in
theorem QpS (n : Int) (ks : List Int) (vb mb : Nat) (w : World) (hv : Qan w vb 199 #[.map (some mb)]) (hm : Qpo w mb ks) :
  Calls Tryz.prog 145 #[.int .i64 n, .pointer (some ⟨vb, 0, none⟩)] w fun e w' => e = .returned (.int .i64 (Qqr ks n)) ∧ Qpo w' mb (Qqs ks n) ∧ Chg (fun k => k = mb) w w' := by
 have c0 : w.cell? ⟨vb, 0, none⟩ = some (.map (some mb)) := hv.cell 0
 have Qr := Qcc.lookup (P := Tryz.prog) hm Tryz.underlying199 Tryz.underlying3 (QrZ w) n true
 rw [Qdg] at Qr
 have hlen := Qcc.len (P := Tryz.prog) hm Tryz.underlying199
 rw [QdU] at hlen
 obtain ⟨w1, hup, hm1, hc1, hs1⟩ := Qcc.update (P := Tryz.prog) hm Tryz.underlying199 Tryz.underlying3 n (.int .i64 ks.length)
 cases hp : pos n ks with
 | none =>
  rw [hp] at Qr
  simp only [Option.map_none, Option.getD_none, Option.isSome_none, if_true] at Qr
  have h1 : Qqr ks n = ks.length := by simp [Qqr, hp]
  have h2 : Qpo w1 mb (Qqs ks n) := by
   unfold Qpo Qqs
   rw [hp]
   simp only [Option.isSome_none, Bool.false_eq_true, if_false]
   rw [Qfx]
   rw [Qic (by rw [Qdg, hp]; rfl)] at hm1
   simpa using hm1
  have H1 := Lib.hid h1
  clear h1 hp
  go_enter Tryz.func145, Tryz.ntmps145
  go_wp2_with fail
  go_ret
  exact ⟨by rw [H1.out]; rfl, h2, hc1⟩
 | some j =>
  rw [hp] at Qr
  simp only [Option.map_some, Option.getD_some, Option.isSome_some, if_true] at Qr
  have h1 : Qqr ks n = j := by simp [Qqr, hp]
  have h2 : Qpo w mb (Qqs ks n) := by
   unfold Qqs
   rw [hp]
   exact hm
  have H1 := Lib.hid h1
  clear h1 hp
  go_enter Tryz.func145, Tryz.ntmps145
  go_wp2_with fail
  go_ret
  exact ⟨by rw [H1.out]; rfl, h2, Chg.refl _ _⟩
set_option maxRecDepth 100000
structure Num (σ : Type) where
 fid : FuncId
 cap : Array Value
 own : Nat → Prop
 lean : Nat → Prop
 inv : σ → World → Prop
 val : σ → Int → Int
 nxt : σ → Int → σ
structure Num.Ok {σ : Type} (N : Num σ) : Prop where
 keep : ∀ s w w', N.inv s w → (∀ k, N.lean k → w'.heap[k]? = w.heap[k]?) → N.inv s w'
 lt : ∀ s w k, N.inv s w → N.lean k → k < w.heap.size
 sub : ∀ k, N.own k → N.lean k
 bare : ∀ s w k c t f, N.inv s w → N.own k → w.heap[k]? ≠ some (.cells c t f)
 enter : ∀ (args : Array Value) (w : World), (callFunc N.fid args).run Tryz.prog w = .ok (.enter N.fid args) w
 call : ∀ s n w, N.inv s w → Calls Tryz.prog N.fid (#[.int .i64 n] ++ N.cap) w fun e w' => e = .returned (.int .i64 (N.val s n)) ∧ N.inv (N.nxt s n) w' ∧ Chg N.own w w'
def Num.v1 {σ : Type} (N : Num σ) (k n : Int) (s : σ) : Int := if k = 0 then N.val s n else n
def Num.s1 {σ : Type} (N : Num σ) (k n : Int) (s : σ) : σ := if k = 0 then N.nxt s n else s
def Ts.ren {σ : Type} (N : Num σ) : Ts → σ → Ts × σ
 | .nil, s => (.nil, s)
 | .cons k n b ar r, s => (.cons k (N.v1 k n s) b (ar.ren N (N.s1 k n s)).1 (r.ren N (ar.ren N (N.s1 k n s)).2).1, (r.ren N (ar.ren N (N.s1 k n s)).2).2)
theorem Ts.length_ren {σ : Type} (N : Num σ) (T : Ts) : ∀ s : σ, (T.ren N s).1.length = T.length := by
 induction T with
 | nil => intro s; rfl
 | cons k n b ar r _ ih => intro s; simp only [Ts.ren, Ts.length, ih]
section
variable {σ : Type} {N : Num σ}
theorem Num.Ok.cell_none (ok : N.Ok) {w : World} {s : σ} {k o : Nat} (hi : N.inv s w) (ho : N.own k) : w.cell? ⟨k, o, none⟩ = none := by
 have := fun c t f => ok.bare s w k c t f hi ho
 unfold World.cell?
 split
 ·rename_i h; exact absurd h (this _ _ _)
 ·rfl
end
def InS (L : List Lev) (k i : Nat) : Prop := ∃ l ∈ L, l.b = k ∧ l.o ≤ i ∧ i < l.o + 4 * l.T.length
def T24 (w : World) (k : Nat) : Prop := ∃ cur, Qan w k 63 cur
def Qu7 {σ : Type} (N : Num σ) (B : Nat) (w' : World) : List Lev → σ → σ → Prop
 | [], s, sf => sf = s
 | l :: r, s, sf => Seg w' (fun k => B ≤ k) (l.T.ren N s).1 l.b l.o ∧ Qu7 N B w' r (l.T.ren N s).2 sf
def Fr (L : List Lev) (w w' : World) : Prop := ∀ k i v, T24 w k → ¬ InS L k i → w.cell? ⟨k, i, none⟩ = some v → w'.cell? ⟨k, i, none⟩ = some v
def Qvi (w0 w : World) (B : Nat) (l : Lev) : Prop :=
 B ≤ l.b ∧ ∃ cur xs, Qan w l.b 63 cur ∧ Cs w0 (fun _ => True) l.T xs ∧ ∀ j u, xs[j]? = some u → cur[l.o + j]? = some u
structure QrM {σ : Type} (N : Num σ) (w0 : World) (s0 : σ) (T : Ts) (out : Value) (pb : Nat) (L : List Lev) (s : σ) (pv : Value) (xs : List Value) (w : World) : Prop where
 path : Qaj w w0.heap.size pb pv xs
 pbl : w0.heap.size ≤ pb
 pvs : PV L xs
 lev : ∀ l ∈ L, Qvi w0 w w0.heap.size l
 dis : (L.map Lev.b).Nodup
 inv : N.inv s w
 chg : Chg N.own w0 w
 small : QJ L ≤ T.nodes
 wand : ∀ w' sf, Qu7 N w0.heap.size w' L s sf → Fr L w w' → Sl w' (fun k => w0.heap.size ≤ k) out (T.ren N s0).1 ∧ sf = (T.ren N s0).2
theorem Qfm {T : Ts} {b o : Nat} {L : List Lev} {l : Lev} (h : l ∈ push T b o L) : (0 < T.length ∧ l = ⟨b, o, T⟩) ∨ l ∈ L := by
 unfold push at h
 split at h
 ·exact .inr h
 ·rcases List.mem_cons.1 h with h | h
  ·exact .inl ⟨by omega, h⟩
  ·exact .inr h
theorem Qeh {T : Ts} {b o k i : Nat} {L : List Lev} (h : InS (push T b o L) k i) : (b = k ∧ o ≤ i ∧ i < o + 4 * T.length) ∨ InS L k i := by
 obtain ⟨l, hl, h⟩ := h
 rcases Qfm hl with ⟨_, rfl⟩ | hl
 ·exact .inl h
 ·exact .inr ⟨l, hl, h⟩
theorem Qhz {σ : Type} {N : Num σ} {B : Nat} {w' : World} {T : Ts} {b o : Nat} {L : List Lev} {s sf : σ} (h : Qu7 N B w' (push T b o L) s sf) : Seg w' (fun k => B ≤ k) (T.ren N s).1 b o ∧ Qu7 N B w' L (T.ren N s).2 sf := by
 unfold push at h
 split at h
 ·rename_i h0
  rw [Ts.nil_of_length h0]
  exact ⟨trivial, h⟩
 ·exact h
theorem QrM.step {σ : Type} {N : Num σ} {w0 wr w5 : World} {s0 s : σ} {T : Ts} {out : Value} {pb b o g : Nat} {k n : Int} {t : ByteArray} {ar r : Ts} {L : List Lev} {pv pv5 v v4 : Value} {xs xs5 ys xs4 : List Value} {cur curg : Array Value}
  (h : QrM N w0 s0 T out pb (⟨b, o, .cons k n t ar r⟩ :: L) s pv xs wr)
  (hcur : Qan wr b 63 cur) (c0 : cur[o]? = some (.int .i64 k)) (c1 : cur[o + 1]? = some (.int .i64 n)) (c2 : cur[o + 2]? = some (.string t)) (c3 : cur[o + 3]? = some v) (hys : Cs w0 (fun _ => True) r ys) (cys : ∀ (j : Nat) u, ys[j]? = some u → cur[o + 4 + j]? = some u)
  (hpath : Qaj w5 w0.heap.size pb pv5 xs5) (hpv : PV (push ar g 0 (push r b (o + 4) L)) xs5) (hxs4 : Cs w0 (fun _ => True) ar xs4)
  (hother : ∀ k' cur', k' ≠ b → Qan wr k' 63 cur' → Qan w5 k' 63 cur')
  (hb5 : Qan w5 b 63 ((cur.setIfInBounds (o + 1) (.int .i64 (N.v1 k n s))).setIfInBounds (o + 3) v4))
  (hv4 : ∃ A c, v4 = .slice A ar.length c ∧ ar.length ≤ c ∧ (0 < ar.length → A = some ⟨g, 0, none⟩))
  (hg : 0 < ar.length → wr.heap.size ≤ g ∧ Qan w5 g 63 curg ∧ ∀ (j : Nat) u, xs4[j]? = some u → curg[j]? = some u)
  (hI : N.inv (N.s1 k n s) w5) (hC : Chg N.own w0 w5) :
  QrM N w0 s0 T out pb (push ar g 0 (push r b (o + 4) L)) (N.s1 k n s) pv5 xs5 w5 := by
 have hd := h.dis
 simp only [List.map_cons, List.nodup_cons] at hd
 have hne : ∀ l ∈ L, l.b ≠ b := fun l hl e => hd.1 (by rw [← e]; exact List.mem_map_of_mem hl)
 have hbl := hcur.lt
 have hlev : ∀ l ∈ L, l.b < wr.heap.size := fun l hl => by
  obtain ⟨_, _, _, h1, _⟩ := h.lev l (List.mem_cons_of_mem _ hl)
  exact h1.lt
 have hB : w0.heap.size ≤ b := (h.lev _ (List.mem_cons_self ..)).1
 have hBr := h.chg.size
 have hsz : ((cur.setIfInBounds (o + 1) (.int .i64 (N.v1 k n s))).setIfInBounds (o + 3) v4).size = cur.size := by simp
 have hlt : ∀ {i : Nat} {u : Value}, cur[i]? = some u → i < cur.size := fun hu => (Array.getElem?_eq_some_iff.1 hu).1
 have Qj7 : ∀ i u, i ≠ o + 1 → i ≠ o + 3 → cur[i]? = some u → ((cur.setIfInBounds (o + 1) (.int .i64 (N.v1 k n s))).setIfInBounds (o + 3) v4)[i]? = some u := fun i u h1 h3 hu => by
  rw [Array.getElem?_setIfInBounds_ne Ya, Array.getElem?_setIfInBounds_ne Ya]; exact hu
 have d1 : ((cur.setIfInBounds (o + 1) (.int .i64 (N.v1 k n s))).setIfInBounds (o + 3) v4)[o + 1]? = some (.int .i64 (N.v1 k n s)) := by
  rw [Array.getElem?_setIfInBounds_ne Ya, Array.getElem?_setIfInBounds_self_of_lt (hlt c1)]
 have d3 : ((cur.setIfInBounds (o + 1) (.int .i64 (N.v1 k n s))).setIfInBounds (o + 3) v4)[o + 3]? = some v4 := by
  rw [Array.getElem?_setIfInBounds_self_of_lt (by simpa using hlt c3)]
 refine ⟨hpath, h.pbl, hpv, ?_, ?_, hI, hC, ?_, ?_⟩
 ·intro l hl
  rcases Qfm hl with ⟨hp, rfl⟩ | hl
  ·obtain ⟨h1, h2, h3⟩ := hg hp
   exact ⟨by show _ ≤ g; omega, curg, xs4, h2, hxs4, fun j u hu => by rw [Nat.zero_add]; exact h3 j u hu⟩
  ·rcases Qfm hl with ⟨hp, rfl⟩ | hl
   ·exact ⟨hB, _, ys, hb5, hys, fun j u hu => Qj7 _ _ (by show o + 4 + j ≠ _; omega) (by show o + 4 + j ≠ _; omega) (cys j u hu)⟩
   ·obtain ⟨h1, cur', zs, h2, h3, h4⟩ := h.lev l (List.mem_cons_of_mem _ hl)
    exact ⟨h1, cur', zs, hother _ _ (hne l hl) h2, h3, h4⟩
 ·have h1 : ((push r b (o + 4) L).map Lev.b).Nodup ∧ ∀ l ∈ push r b (o + 4) L, l.b < wr.heap.size := by
   constructor
   ·unfold push
    split
    ·exact hd.2
    ·simpa using hd
   ·intro l hl
    rcases Qfm hl with ⟨_, rfl⟩ | hl
    ·exact hbl
    ·exact hlev l hl
  unfold push
  split
  ·exact h1.1
  ·rename_i h0
   refine List.nodup_cons.2 ⟨fun hm => ?_, h1.1⟩
   obtain ⟨l, hl, e⟩ := List.mem_map.1 hm
   have h2 := h1.2 l hl
   have h3 := (hg Ya).1
   have e' : l.b = g := e
   omega
 ·have := h.small
  rw [QU, QU]
  simp only [QJ, List.map_cons, List.sum_cons, Ts.nodes] at this ⊢
  omega
 ·intro w' sf hR hF
  refine h.wand w' sf ?_ ?_
  ·obtain ⟨hR1, hR2⟩ := Qhz hR
   obtain ⟨hR3, hR4⟩ := Qhz hR2
   have hcell : ∀ i u, (∀ l ∈ L, l.b ≠ b) → i < o + 4 → ((cur.setIfInBounds (o + 1) (.int .i64 (N.v1 k n s))).setIfInBounds (o + 3) v4)[i]? = some u → w'.cell? ⟨b, i, none⟩ = some u := by
    intro i u hL hi hu
    refine hF b i u ⟨_, hb5⟩ ?_ ((hb5.cell i).trans hu)
    intro hin
    rcases Qeh hin with ⟨e, h1, h2⟩ | hin
    ·have := (hg Ya).1; omega
    ·rcases Qeh hin with ⟨_, h1, _⟩ | ⟨l, hl, e, _⟩
     ·omega
     ·exact hL l hl e
   refine ⟨?_, hR4⟩
   refine QaT.2 ⟨hB, hcell o _ hne Ya (Qj7 o _ Ya Ya c0), hcell (o + 1) _ hne Ya d1, hcell (o + 2) _ hne Ya (Qj7 (o + 2) _ Ya Ya c2), ⟨v4, hcell (o + 3) _ hne Ya d3, ?_⟩, hR3⟩
   obtain ⟨A, c, e, hc, hA⟩ := hv4
   refine ⟨A, c, by rw [Ts.length_ren]; exact e, by rw [Ts.length_ren]; exact hc, fun hp => ?_⟩
   rw [Ts.length_ren] at hp
   exact ⟨g, 0, hA hp, hR1⟩
  ·intro k' i u hT hin hu
   obtain ⟨cur', hk'⟩ := hT
   have hk'l := hk'.lt
   by_cases e : k' = b
   ·subst e
    have hcc : cur' = cur := by
     unfold Qan at hk' hcur
     rw [hk'] at hcur
     injection hcur with hcur
     injection hcur
    subst hcc
    rw [hk'.cell i] at hu
    have hnot : ¬ (o ≤ i ∧ i < o + 4 * (Ts.cons k n t ar r).length) := fun hh => hin ⟨_, List.mem_cons_self .., rfl, hh⟩
    simp only [Ts.length] at hnot
    refine hF k' i u ⟨_, hb5⟩ ?_ ((hb5.cell i).trans (Qj7 i u Ya Ya hu))
    intro hin2
    rcases Qeh hin2 with ⟨e, h1, h2⟩ | hin2
    ·have := (hg Ya).1; omega
    ·rcases Qeh hin2 with ⟨_, h1, h2⟩ | ⟨l, hl, e, _⟩
     ·omega
     ·exact hne l hl e
   ·have h5 := hother k' cur' e hk'
    refine hF k' i u ⟨_, h5⟩ ?_ ((h5.cell i).trans ((hk'.cell i).symm.trans hu))
    intro hin2
    rcases Qeh hin2 with ⟨e2, h1, h2⟩ | hin2
    ·have := (hg Ya).1; omega
    ·rcases Qeh hin2 with ⟨e2, _, _⟩ | ⟨l, hl, hh⟩
     ·exact e e2.symm
     ·exact hin ⟨l, List.mem_cons_of_mem _ hl, hh⟩
def QtJ {σ : Type} (N : Num σ) (w0 : World) (s0 : σ) (T : Ts) (out : Value) (pb : Nat) (g : Nat) (w : World) : Prop :=
 ∃ L s pv xs, QrM N w0 s0 T out pb L s pv xs w ∧ g = QJ L
theorem Num.Ok.raw {σ : Type} {N : Num σ} (ok : N.Ok) {w w' : World} {s : σ} {v : Value} {l : Nat} {xs : List Value} (h : Raw w v l xs) (hi : N.inv s w) (hc : Chg N.own w w') : Raw w' v l xs := by
 obtain ⟨A, c, e, h1, h2, h3, h4⟩ := h
 refine ⟨A, c, e, h1, h2, h3, fun hl => ?_⟩
 obtain ⟨b, o, e2, h5⟩ := h4 hl
 refine ⟨b, o, e2, fun j u hu => ?_⟩
 have h6 := h5 j u hu
 rw [World.cell?_of_block (w := w) (w' := w') (a := ⟨b, o + j, none⟩) (hc.block b (Qbe h6) fun ho => by rw [ok.cell_none hi ho] at h6; cases h6)]
 exact h6
structure Qvh {σ : Type} (N : Num σ) (w0 wr : World) (pb b : Nat) (pv : Value) (xs : List Value) (cur : Array Value) (s : σ) (wx : World) : Prop where
 path : Qaj wx w0.heap.size pb pv xs
 cur : Qan wx b 63 cur
 other : ∀ k' cur', k' ≠ b → Qan wr k' 63 cur' → Qan wx k' 63 cur'
 inv : N.inv s wx
 chg : Chg N.own w0 wx
 size : wr.heap.size ≤ wx.heap.size
set_option maxHeartbeats 400000 in
theorem QoK {σ : Type} {N : Num σ} (ok : N.Ok) (T : Ts) (v : Value) (s : σ) (w : World) (hv : Sl w (fun _ => True) v T) (hi : N.inv s w) (hn : T.nodes ≤ 1073741824) :
  Calls Tryz.prog 144 #[v, .func (.func N.fid) #[] N.cap] w fun e w' => ∃ v', e = .returned v' ∧ Sl w' (fun k => w.heap.size ≤ k) v' (T.ren N s).1 ∧ N.inv (T.ren N s).2 w' ∧ Chg N.own w w' := by
 obtain ⟨xs0, hraw, hcs0⟩ := hv.raw
 have hle := T.length_le
 have hen := ok.enter
 have HLT : Hid (∀ k, N.lean k → k < w.heap.size) := fun k => ok.lt s w k hi
 go_enter Tryz.func144, Tryz.ntmps144
 go_wp2_with fail
 refine (QlO hraw Ya).mono ?_
 rintro e w1 ⟨v1, rfl, ho1, hb1⟩
 obtain ⟨A1, d1, rfl⟩ := QgN ho1
 obtain ⟨hd1, g, cur, hg⟩ := Qqh ho1
 have hB1 := hb1.size
 have hp0 : Qaj (w1.alloc (.cells #[.slice none 0 0] 182)) w.heap.size w1.heap.size (.slice none 0 0) [] := ⟨Qan.new _ _ _, World.ownsRow_nil _ _ _ _, by simp [Value.ownBlock]⟩
 go_wp2_with fail
 refine (Qm4 (b := g) (o := 0) (L := []) hp0 rfl Yh (by simp [QJ]) hd1 (fun h => (hg h).1)).mono ?_
 rintro e w2 ⟨rfl, pv2, xs2, hp2, hpv2, _, hc2⟩
 have hc02 : Chg N.own w w2 := by
  refine ((Chg.of_fresh hb1).alloc _).trans hc2 fun k hk h => ?_
  rcases h with h | h
  ·omega
  ·simp [Value.ownBlock] at h
 have h0 : QtJ N w s T (.slice A1 T.length d1) w1.heap.size T.nodes w2 := by
  refine ⟨push T g 0 [], s, pv2, xs2, ⟨hp2, hB1, hpv2, ?_, ?_, ?_, hc02, ?_, ?_⟩, by rw [QU]; simp [QJ]⟩
  ·intro l hl
   rcases Qfm hl with ⟨h, rfl⟩ | h
   ·obtain ⟨h1, h2, h3, h4⟩ := hg h
    refine ⟨h2, cur, xs0, (h3.alloc _).chg hc2 ?_, hcs0, fun j u hu => by rw [Nat.zero_add]; exact h4 j u hu⟩
    have := h3.lt
    intro h; rcases h with h | h
    ·omega
    ·simp [Value.ownBlock] at h
   ·cases h
  ·unfold push; split <;> simp
  ·refine ok.keep s w _ hi fun k hk => ?_
   have := HLT.out k hk
   rw [hc2.block k Yh (by simp [Value.ownBlock]; omega), Below.heap_alloc _ _ _ Ya, hb1.block k this]
  ·rw [QU]; simp [QJ]
  ·intro w' sf hR _
   obtain ⟨h1, h2⟩ := Qhz hR
   refine ⟨⟨A1, d1, by rw [Ts.length_ren], by rw [Ts.length_ren]; exact hd1, fun h => ?_⟩, h2⟩
   rw [Ts.length_ren] at h
   exact ⟨g, 0, (hg h).1, h1⟩
 clear hg ho1 hp0 hp2 hpv2
 go_wp2_with fail
 go_loopg [] T.nodes (QtJ N w s T (.slice A1 T.length d1) w1.heap.size)
 case atStart => exact h0
 case round =>
  clear h0
  obtain ⟨L, s', pv, xs, hrel, hgk⟩ := hrel
  have hpx := hrel.pvs.length
  have hpl := hrel.pvs.le
  have hsm := hrel.small
  obtain ⟨Ap, cp, hpv⟩ := QgN hrel.path.own
  subst hpv
  have cpb : wr.cell? ⟨w1.heap.size, 0, none⟩ = some (.slice Ap xs.length cp) := hrel.path.var.cell 0
  have HG := Lib.hid hgk
  clear hgk
  cases L with
  | nil =>
   have hx : xs = [] := hrel.pvs
   subst hx
   obtain ⟨hsl, hst⟩ := hrel.wand wr s' rfl (fun _ _ _ _ _ h => h)
   subst hst
   have hI := hrel.inv
   have hC := hrel.chg
   clear hrel hpx
   go_wp2_with fail
   go_ret
   exact ⟨_, rfl, hsl, hI, hC⟩
  | cons l Ls =>
   obtain ⟨b, o, T1⟩ := l
   cases T1 with
   | nil => obtain ⟨_, _, _, _, h, _⟩ := hrel.pvs; simp [Ts.length] at h
   | cons k n t ar r =>
   have hxl : 0 < xs.length := by rw [hpx]; simp
   obtain ⟨hbB, cur, zs, hcur, ⟨v, ys, rfl, hva, hcr⟩, hcells⟩ := hrel.lev _ (List.mem_cons_self ..)
   have c0 : cur[o]? = some (.int .i64 k) := hcells 0 _ rfl
   have c1 : cur[o + 1]? = some (.int .i64 n) := hcells 1 _ rfl
   have c2 : cur[o + 2]? = some (.string t) := hcells 2 _ rfl
   have c3 : cur[o + 3]? = some v := hcells 3 _ rfl
   have cys : ∀ (j : Nat) u, ys[j]? = some u → cur[o + 4 + j]? = some u := fun j u hu => by
    have := hcells (j + 4) u (by simpa using hu)
    rwa [show o + (j + 4) = o + 4 + j by omega] at this
   have CYS := Lib.hid cys
   have C0 := Lib.hid c0
   have C1 := Lib.hid c1
   have C2 := Lib.hid c2
   have C3 := Lib.hid c3
   have hn4 : QJ (⟨b, o, .cons k n t ar r⟩ :: Ls) ≤ 1073741824 := by omega
   clear cys hcells c0 c1 c2 c3
   go_wp2_with fail
   refine (QnG hrel.path hrel.pvs hn4).mono ?_
   rintro e w3 ⟨rfl, pv3, xs3, hp3, hpv3, hop3, hc3⟩
   have hb3 : Qan w3 b 63 cur := hrel.path.keep hc3 hcur
   have hoth3 : ∀ k' cur', Qan wr k' 63 cur' → Qan w3 k' 63 cur' := fun k' cur' h => hrel.path.keep hc3 h
   have hpown : ∀ g, (Value.slice Ap xs.length cp).ownBlock = some g → w.heap.size ≤ g ∧ g < wr.heap.size := fun g hg => hrel.path.own.lt g hg
   have hchg3 : Chg N.own w w3 := hrel.chg.trans hc3 fun k hk h => by
    rcases h with h | h
    ·omega
    ·have := hpown _ h; omega
   have hlean : ∀ k, N.lean k → w3.heap[k]? = wr.heap[k]? := fun k hk => by
    have hk := HLT.out k hk
    refine hc3.block k (by have := hrel.chg.size; omega) fun h => ?_
    rcases h with h | h
    ·omega
    ·have := hpown _ h; omega
   have hI3 : N.inv s' w3 := ok.keep s' wr _ hrel.inv hlean
   have hz3 := hc3.size
   have a0 : w3.cell? ⟨b, o, none⟩ = some (.int .i64 k) := (hb3.cell o).trans C0.out
   have a1 : w3.cell? ⟨b, o + 1, none⟩ = some (.int .i64 n) := (hb3.cell (o + 1)).trans C1.out
   have HL := Lib.hid hlean
   have HO := Lib.hid hoth3
   have HP := Lib.hid hpown
   clear hlean hoth3 hpown
   go_upto_if 20 with fail
   go_cut [] (fun wx => Qvh N w wr w1.heap.size b pv3 xs3 (cur.setIfInBounds (o + 1) (.int .i64 (N.v1 k n s'))) (N.s1 k n s') wx)
   case first =>
    by_cases hk : k = 0
    ·subst hk
     go_wp2_with fail
     refine (ok.call s' n _ hI3).mono ?_
     rintro e w4 ⟨rfl, hI4, hc4⟩
     have hb4 : Qan w4 b 63 cur := hb3.chg hc4 fun ho => ok.bare _ _ _ _ _ _ hI3 ho hb3
     have a2 : w4.cell? ⟨b, o + 1, none⟩ = some (.int .i64 n) := (hb4.cell (o + 1)).trans C1.out
     have f2 : w4.frozen? ⟨b, o + 1, none⟩ = false := hb4.frozen _
     have hp4 : Qaj w4 w.heap.size w1.heap.size pv3 xs3 := hp3.chg hc4 (fun ho => by have := HLT.out _ (ok.sub _ ho); omega) fun g hg ho => by
      have := HLT.out _ (ok.sub _ ho)
      rw [hop3] at hg
      have := HP.out g hg
      omega
     go_wp2_with fail
     go_meet
     refine ⟨hp4.set hb4, hb4.set_ _ _, fun k' cur' hne h => ?_, ?_, ?_, by have := hc4.size; simp [World.setCell]; omega⟩
     ·have h3 := HO.out k' cur' h
      exact (h3.chg hc4 fun ho => ok.bare _ _ _ _ _ _ hI3 ho h3).far hne _
     ·refine ok.keep _ w4 _ hI4 fun k hk => ?_
      have := HLT.out k hk
      exact Below.heap_setCell _ _ _ _ Yh
     ·exact (hchg3.trans hc4 fun _ _ h => h).setCell (fun h => by simp at h; omega) _
    ·have hk' : (k == 0) = false := by simp [hk]
     have e1 : N.v1 k n s' = n := by simp [Num.v1, hk]
     have e2 : N.s1 k n s' = s' := by simp [Num.s1, hk]
     have E1 := Lib.hid e1
     have E2 := Lib.hid e2
     clear e1 e2
     go_wp2_with fail
     go_meet
     rw [E1.out, E2.out, Qsf C1.out]
     exact ⟨hp3, hb3, fun k' cur' _ h => HO.out k' cur' h, hI3, hchg3, hz3⟩
   case rest =>
    obtain ⟨hp5, hb5, ho5, hI5, hc5, hz5⟩ := hcut
    clear hp3 hc3 hb3 hchg3 hI3 a0 a1
    obtain ⟨xs4, hraw4, hcs4⟩ := hva.raw
    obtain ⟨Av, cv, rfl, hva⟩ := hva.form
    have har : ar.length ≤ 1073741824 := by
     have := ar.length_le
     simp only [QJ, List.map_cons, List.sum_cons, Ts.nodes] at hn4
     omega
    have hn5 : QJ (push r b (o + 4) Ls) ≤ 1073741824 := by
     rw [QU]
     simp only [QJ, List.map_cons, List.sum_cons, Ts.nodes] at hn4 ⊢
     omega
    have a3 : wc.cell? ⟨b, o + 3, none⟩ = some (.slice Av ar.length cv) := by
     rw [hb5.cell, Array.getElem?_setIfInBounds_ne Ya]; exact C3.out
    go_wp2_with fail
    refine (QlO (ok.raw hraw4 hi hc5) har).mono ?_
    rintro e w6 ⟨v4, rfl, ho6, hb6⟩
    obtain ⟨A4, d4, rfl⟩ := QgN ho6
    obtain ⟨hd4, g4, cur4, hg4⟩ := Qqh ho6
    have hz6 := hb6.size
    have hbb6 := hb5.below hb6
    have a6 : w6.cell? ⟨b, o + 3, none⟩ = some (.slice Av ar.length cv) := by
     rw [hbb6.cell, Array.getElem?_setIfInBounds_ne Ya]; exact C3.out
    have f6 : w6.frozen? ⟨b, o + 3, none⟩ = false := hbb6.frozen _
    have hp6 : Qaj w6 w.heap.size w1.heap.size pv3 xs3 := hp5.chg (Chg.of_fresh (S := fun _ => False) hb6) (fun h => h) fun _ _ h => h
    have hp7 : Qaj (w6.setCell ⟨b, o + 3, none⟩ (.slice A4 ar.length d4)) w.heap.size w1.heap.size pv3 xs3 := hp6.set hbb6
    have hbb7 := hbb6.set_ (o + 3) (.slice A4 ar.length d4)
    have hwz := hrel.chg.size
    have HG4 := Lib.hid hg4
    clear hg4
    go_wp2_with fail
    refine (Qm4 (b := g4) (o := 0) hp7 hpv3 (by simp [World.setCell]; omega) hn5 hd4 (fun h => (HG4.out h).1)).mono ?_
    rintro e w8 ⟨rfl, pv8, xs8, hp8, hpv8, hat8, hc8⟩
    have hpown3 : ∀ g, pv3.ownBlock = some g → w.heap.size ≤ g := fun g hg => by rw [hop3] at hg; exact (HP.out g hg).1
    have hstep := QrM.step (g := g4) (xs4 := xs4) (v4 := .slice A4 ar.length d4) (curg := cur4) hrel hcur C0.out C1.out C2.out C3.out hcr CYS.out hp8 hpv8 hcs4
     (fun k' cur' hne h => hp7.keep hc8 (((ho5 k' cur' hne h).below hb6).far hne _)) (hp7.keep hc8 hbb7) ⟨A4, d4, rfl, hd4, fun h => (HG4.out h).1⟩
     (fun h => by
      obtain ⟨_, h2, h3, h4⟩ := HG4.out h
      have := h3.lt
      exact ⟨by omega, hp7.keep hc8 (h3.far (by simp; intro e; have := hb5.lt; omega) _), h4⟩)
     (ok.keep _ wc _ hI5 fun k hk => by
      have := HLT.out k hk
      rw [hc8.block k (by simp [World.setCell]; omega) (fun h => by
                                     rcases h with h | h
                                     ·omega
                                     ·have := hpown3 _ h; omega), Below.heap_setCell _ _ _ _ Yh, hb6.block k Ya])
     (((hc5.trans (Chg.of_fresh (S := fun _ => False) hb6) fun _ _ h => h.elim).setCell (fun h => by simp at h; omega) _).trans hc8 fun k hk h => by
       rcases h with h | h
       ·omega
       ·have := hpown3 _ h; omega)
    clear hat8
    go_wp2_with fail
    go_roundg (QJ (push ar g4 0 (push r b (o + 4) Ls)))
    case measure =>
     rw [HG.out, QU, QU]
     simp only [QJ, List.map_cons, List.sum_cons, Ts.nodes]
     omega
    case rel => exact ⟨_, _, _, _, hstep, rfl⟩
theorem Ts.ren_congr {σ : Type} {N M : Num σ} (hv : ∀ s n, N.val s n = M.val s n) (hx : ∀ s n, N.nxt s n = M.nxt s n) (T : Ts) : ∀ s, T.ren N s = T.ren M s := by
 have h1 : ∀ k n s, N.v1 k n s = M.v1 k n s := fun k n s => by simp [Num.v1, hv]
 have h2 : ∀ k n s, N.s1 k n s = M.s1 k n s := fun k n s => by simp [Num.s1, hx]
 induction T with
 | nil => intro s; rfl
 | cons k n b ar r iha ihr => intro s; simp only [Ts.ren, h1, h2, iha, ihr]
def Qss (vb : Nat) (m : Int) : Num Unit :=
 { fid := 177, cap := #[.pointer (some ⟨vb, 0, none⟩)], own := fun _ => False, lean := fun k => k = vb, inv := fun _ w => Qan w vb 3 #[.int .i64 m], val := fun _ n => low n + m, nxt := fun _ _ => () }
def QeN (vb mb : Nat) : Num (List Int) :=
 { fid := 145, cap := #[.pointer (some ⟨vb, 0, none⟩)], own := fun k => k = mb, lean := fun k => k = vb ∨ k = mb,
   inv := fun ks w => Qan w vb 199 #[.map (some mb)] ∧ Qpo w mb ks, val := Qqr, nxt := Qqs }
theorem QoN (vb mb : Nat) : (QeN vb mb).Ok where
 keep := fun _ w w' h hk => ⟨(hk vb (.inl rfl)).trans h.1, Qcc.keep h.2 (hk mb (.inr rfl))⟩
 lt := fun _ w k h hk => by
  have e : k = vb ∨ k = mb := hk
  rcases e with rfl | rfl
  ·exact Qan.lt h.1
  ·exact Qcc.lt h.2
 sub := fun _ h => .inr h
 bare := fun ks w k c t f h ho e => by
  have e1 : k = mb := ho
  subst e1
  obtain ⟨es, clock, hb, _⟩ := h.2
  rw [hb] at e
  cases e
 enter := fun args w => by simp [QeN, go_sem]
 call := fun ks n w h => by
  refine (QpS n ks vb mb w h.1 h.2).mono ?_
  rintro e w' ⟨rfl, h1, h2⟩
  exact ⟨rfl, ⟨h.1.chg h2 fun e => Qan.not_map h.1 h.2 e, h1⟩, h2⟩
def Ts.tidyFrom (T : Ts) (ks : List Int) : Ts × List Int := T.ren (QeN 0 0) ks
def Ts.tidy (T : Ts) : Ts := (T.tidyFrom []).1
theorem Qsm (vb mb : Nat) (T : Ts) (ks : List Int) : T.ren (QeN vb mb) ks = T.tidyFrom ks := Ts.ren_congr (N := QeN vb mb) (M := QeN 0 0) (fun _ _ => rfl) (fun _ _ => rfl) T ks
def Ts.shift (T : Ts) (m : Int) : Ts := (T.ren (Qss 0 (low m)) ()).1
def Qe8 (k n m : Int) : Int := if k = 0 then low n + low m else n
theorem Ts.shift_cons (k n m : Int) (b : ByteArray) (ar r : Ts) : (Ts.cons k n b ar r).shift m = .cons k (Qe8 k n m) b (ar.shift m) (r.shift m) := rfl
set_option maxHeartbeats 400000 in
theorem Qr8 (T : Ts) (v : Value) (w : World) (hv : Sl w (fun _ => True) v T) (hn : T.nodes ≤ 1073741824) :
  Calls Tryz.prog 92 #[v] w fun e w' => ∃ v', e = .returned v' ∧ Sl w' (fun k => w.heap.size ≤ k) v' T.tidy ∧ Below w.heap.size w w' := by
 have hi : (QeN (w.heap.size + 1) w.heap.size).inv [] ((w.alloc (.map #[] 0)).alloc (.cells #[.map (some w.heap.size)] 199)) := by
  refine ⟨?_, ?_⟩
  ·have := Qan.new (w.alloc (.map #[] 0)) 199 #[.map (some w.heap.size)]
   simpa using this
  ·exact (Qcc.made w).keep (Below.heap_alloc _ _ _ Yd)
 have hW : Below w.heap.size w ((w.alloc (.map #[] 0)).alloc (.cells #[.map (some w.heap.size)] 199)) := ((Below.refl _ _).alloc (Nat.le_refl _) _).alloc Yd _
 have hsl := hv.below hW
 have hmk := Qmo (P := Tryz.prog) 199
 go_enter Tryz.func92, Tryz.ntmps92
 go_wp2_with fail
 refine (QoK (QoN (w.heap.size + 1) w.heap.size) T v [] _ hsl hi hn).mono ?_
 rintro e w' ⟨v', rfl, h1, _, h3⟩
 rw [Qsm] at h1
 go_wp2_with fail
 go_ret
 refine ⟨_, rfl, h1.imp (fun k hk _ => by simp at hk; omega), hW.trans (h3.below Yh fun k hk _ => ?_)⟩
 have e : k = w.heap.size := hk
 omega
def tV (k n : Int) (ks : List Int) : Int := if k = 0 then Qqr ks n else n
def tS (k n : Int) (ks : List Int) : List Int := if k = 0 then Qqs ks n else ks
theorem Ts.tidyFrom_cons (k n : Int) (s : ByteArray) (ar r : Ts) (ks : List Int) : (Ts.cons k n s ar r).tidyFrom ks = (.cons k (tV k n ks) s (ar.tidyFrom (tS k n ks)).1 (r.tidyFrom (ar.tidyFrom (tS k n ks)).2).1, (r.tidyFrom (ar.tidyFrom (tS k n ks)).2).2) := rfl
set_option linter.unusedVariables false
set_option linter.unusedSimpArgs false
structure Tm where
 k : Int
 n : Int
 s : ByteArray
 ar : Ts
section
variable {P : Program} {n : Nat} {e : Env} {w : World} {ty : TypeId} {pos : String} {after : Array Edge} {x y : Operand} {dst : Option Nat} {t : TypeId}
theorem QoE {t2 : TypeId} {a c : ByteArray} (hx : ev n e x = .string a) (hy : ev n e y = .string c) (h : a = c) : (execOp (ev n e) ⟨dst, .binOp .eql t x y t2, ty, pos, after, none⟩).run P w = .ok (.value (.bool true)) w := by
 have : (execOp (ev n e) ⟨dst, .binOp .eql t x y t2, ty, pos, after, none⟩).run P w = .ok (.value (.bool (a.toList == c.toList))) w := by simp only [execOp, hx, hy]; rfl
 rw [this, h]; simp
theorem QoF {t2 : TypeId} {a c : ByteArray} (hx : ev n e x = .string a) (hy : ev n e y = .string c) (h : a ≠ c) : (execOp (ev n e) ⟨dst, .binOp .eql t x y t2, ty, pos, after, none⟩).run P w = .ok (.value (.bool false)) w := by
 have : (execOp (ev n e) ⟨dst, .binOp .eql t x y t2, ty, pos, after, none⟩).run P w = .ok (.value (.bool (a.toList == c.toList))) w := by simp only [execOp, hx, hy]; rfl
 have h2 : (a.toList == c.toList) = false := by
  rw [beq_eq_false_iff_ne]; exact fun e => h (QiN.1 e)
 rw [this, h2]
theorem QiW {t2 : TypeId} {a c : ByteArray} (hx : ev n e x = .string a) (hy : ev n e y = .string c) (h : a = c) : (execOp (ev n e) ⟨dst, .binOp .neq t x y t2, ty, pos, after, none⟩).run P w = .ok (.value (.bool false)) w := by
 have : (execOp (ev n e) ⟨dst, .binOp .neq t x y t2, ty, pos, after, none⟩).run P w = .ok (.value (.bool (!(a.toList == c.toList)))) w := by simp only [execOp, hx, hy]; rfl
 rw [this, h]; simp
theorem QiV {t2 : TypeId} {a c : ByteArray} (hx : ev n e x = .string a) (hy : ev n e y = .string c) (h : a ≠ c) : (execOp (ev n e) ⟨dst, .binOp .neq t x y t2, ty, pos, after, none⟩).run P w = .ok (.value (.bool true)) w := by
 have : (execOp (ev n e) ⟨dst, .binOp .neq t x y t2, ty, pos, after, none⟩).run P w = .ok (.value (.bool (!(a.toList == c.toList)))) w := by simp only [execOp, hx, hy]; rfl
 have h2 : (a.toList == c.toList) = false := by
  rw [beq_eq_false_iff_ne]; exact fun e => h (QiN.1 e)
 rw [this, h2]; rfl
end
inductive TA where
 | nil
 | cons (k n : Int) (s : ByteArray) (A : Option Addr) (c : Nat) (ar r : TA)
def TA.ts : TA → Ts
 | .nil => .nil
 | .cons k n s _ _ ar r => .cons k n s ar.ts r.ts
def TA.len : TA → Nat
 | .nil => 0
 | .cons _ _ _ _ _ _ r => r.len + 1
def TA.app : TA → TA → TA
 | .nil, y => y
 | .cons k n s A c ar r, y => .cons k n s A c ar (r.app y)
theorem TA.len_ts (T : TA) : T.ts.length = T.len := by
 induction T with
 | nil => rfl
 | cons k n s A c ar r _ ih => simp only [TA.ts, Ts.length, TA.len, ih]
theorem TA.app_ts (T U : TA) : (T.app U).ts = T.ts.app U.ts := by
 induction T with
 | nil => rfl
 | cons k n s A c ar r _ ih => simp only [TA.app, TA.ts, Ts.app, ih]
theorem TA.len_app (T U : TA) : (T.app U).len = T.len + U.len := by
 induction T with
 | nil => simp [TA.app, TA.len]
 | cons k n s A c ar r _ ih => simp only [TA.app, TA.len, ih]; omega
theorem TA.app_nil (T : TA) : T.app .nil = T := by
 induction T with
 | nil => rfl
 | cons k n s A c ar r _ ih => simp only [TA.app, ih]
theorem TA.app_assoc (a b c : TA) : (a.app b).app c = a.app (b.app c) := by
 induction a with
 | nil => rfl
 | cons k n s A c ar r _ ih => simp only [TA.app, ih]
structure LT where
 k : Int
 n : Int
 s : ByteArray
 A : Option Addr
 c : Nat
 ar : TA
def LT.tm (t : LT) : Tm := ⟨t.k, t.n, t.s, t.ar.ts⟩
abbrev tcs (t : LT) : List Value := [.int .i64 t.k, .int .i64 t.n, .string t.s, .slice t.A t.ar.len t.c]
abbrev tv (t : LT) : Value := .agg #[.int .i64 t.k, .int .i64 t.n, .string t.s, .slice t.A t.ar.len t.c]
def Qpn (w : World) : TA → Nat → Nat → Prop
 | .nil, _, _ => True
 | .cons k n s A c ar r, b, o => w.cell? ⟨b, o, none⟩ = some (.int .i64 k) ∧ w.cell? ⟨b, o + 1, none⟩ = some (.int .i64 n) ∧ w.cell? ⟨b, o + 2, none⟩ = some (.string s) ∧
   w.cell? ⟨b, o + 3, none⟩ = some (.slice A ar.len c) ∧ (ar.len ≤ c ∧ (0 < ar.len → ∃ b' o', A = some ⟨b', o', none⟩ ∧ Qpn w ar b' o')) ∧ Qpn w r b (o + 4)
def ArA (A : Option Addr) (c : Nat) (T : TA) (w : World) : Prop := T.len ≤ c ∧ (0 < T.len → ∃ b o, A = some ⟨b, o, none⟩ ∧ Qpn w T b o)
def LRd (t : LT) (w : World) : Prop := ArA t.A t.c t.ar w
theorem Qhn {w : World} {k n : Int} {s : ByteArray} {A : Option Addr} {c : Nat} {ar r : TA} {b o : Nat} : Qpn w (.cons k n s A c ar r) b o ↔ w.cell? ⟨b, o, none⟩ = some (.int .i64 k) ∧ w.cell? ⟨b, o + 1, none⟩ = some (.int .i64 n) ∧ w.cell? ⟨b, o + 2, none⟩ = some (.string s) ∧
   w.cell? ⟨b, o + 3, none⟩ = some (.slice A ar.len c) ∧ ArA A c ar w ∧ Qpn w r b (o + 4) := Iff.rfl
theorem Qpn.skip {w : World} {R : TA} {b : Nat} : ∀ {D : TA} {o : Nat}, Qpn w (D.app R) b o → Qpn w R b (o + D.len * 4) := by
 intro D
 induction D with
 | nil => intro o h; simpa [TA.len, TA.app] using h
 | cons k n s A c ar r _ ih =>
  intro o h
  have := ih (Qhn.1 h).2.2.2.2.2
  rw [show (TA.cons k n s A c ar r).len = r.len + 1 from rfl, show o + (r.len + 1) * 4 = o + 4 + r.len * 4 by omega]
  exact this
theorem ArA.at_ {w : World} {A : Option Addr} {c : Nat} {D r : TA} {k n : Int} {s : ByteArray} {A' : Option Addr} {c' : Nat} {ar : TA} (h : ArA A c (D.app (.cons k n s A' c' ar r)) w) :
  ∃ b o, A = some ⟨b, o, none⟩ ∧ w.cell? ⟨b, o + D.len * 4, none⟩ = some (.int .i64 k) ∧ w.cell? ⟨b, o + D.len * 4 + 1, none⟩ = some (.int .i64 n) ∧ w.cell? ⟨b, o + D.len * 4 + 2, none⟩ = some (.string s) ∧
   w.cell? ⟨b, o + D.len * 4 + 3, none⟩ = some (.slice A' ar.len c') ∧ LRd ⟨k, n, s, A', c', ar⟩ w := by
 obtain ⟨_, hs⟩ := h
 obtain ⟨b, o, rfl, hseg⟩ := hs (by rw [TA.len_app]; simp only [TA.len]; omega)
 obtain ⟨h0, h1, h2, h3, h4, _⟩ := Qhn.1 hseg.skip
 exact ⟨b, o, rfl, h0, h1, h2, h3, h4⟩
theorem ArA.some_ {w : World} {A : Option Addr} {c : Nat} {T : TA} (h : ArA A c T w) (hl : 0 < T.len) : ∃ b o, A = some ⟨b, o, none⟩ := by
 obtain ⟨b, o, e, _⟩ := h.2 hl
 exact ⟨b, o, e⟩
theorem ArA.cells {w : World} {b o : Nat} {c : Nat} {D r : TA} {k n : Int} {s : ByteArray} {A' : Option Addr} {c' : Nat} {ar : TA} (h : ArA (some ⟨b, o, none⟩) c (D.app (.cons k n s A' c' ar r)) w) :
  w.cell? ⟨b, o + D.len * 4, none⟩ = some (.int .i64 k) ∧ w.cell? ⟨b, o + D.len * 4 + 1, none⟩ = some (.int .i64 n) ∧ w.cell? ⟨b, o + D.len * 4 + 2, none⟩ = some (.string s) ∧ w.cell? ⟨b, o + D.len * 4 + 3, none⟩ = some (.slice A' ar.len c') := by
 obtain ⟨b', o', e, h0, h1, h2, h3, _⟩ := h.at_
 simp only [Option.some.injEq, Addr.mk.injEq, and_true] at e
 obtain ⟨rfl, rfl⟩ := e
 exact ⟨h0, h1, h2, h3⟩
theorem ArA.sub {w : World} {A : Option Addr} {c : Nat} {D r : TA} {k n : Int} {s : ByteArray} {A' : Option Addr} {c' : Nat} {ar : TA} (h : ArA A c (D.app (.cons k n s A' c' ar r)) w) : LRd ⟨k, n, s, A', c', ar⟩ w := by
 obtain ⟨_, _, _, _, _, _, _, h⟩ := h.at_; exact h
theorem Qpn.seg {w : World} {T : TA} : ∀ {b o : Nat}, Qpn w T b o → Seg w (fun _ => True) T.ts b o := by
 induction T with
 | nil => intros; trivial
 | cons k n s A c ar r iha ihr =>
  rintro b o ⟨h0, h1, h2, h3, ⟨h4, h5⟩, h6⟩
  refine ⟨trivial, h0, h1, h2, ⟨A, c, by rw [TA.len_ts]; exact h3, by rw [TA.len_ts]; exact h4, fun hl => ?_⟩, ihr h6⟩
  rw [TA.len_ts] at hl
  obtain ⟨b', o', e, hs⟩ := h5 hl
  exact ⟨b', o', e, iha hs⟩
theorem ArA.sl {w : World} {A : Option Addr} {c : Nat} {T : TA} (h : ArA A c T w) : Sl w (fun _ => True) (.slice A T.len c) T.ts :=
 ⟨A, c, by rw [TA.len_ts], by rw [TA.len_ts]; exact h.1, fun hl => by
  rw [TA.len_ts] at hl
  obtain ⟨b, o, e, hs⟩ := h.2 hl
  exact ⟨b, o, e, hs.seg⟩⟩
theorem Seg.locate {w : World} {p : Nat → Prop} {T : Ts} : ∀ {b o : Nat}, Seg w p T b o → ∃ L : TA, L.ts = T ∧ ∀ w' : World, (∀ k, p k → k < w.heap.size → w'.heap[k]? = w.heap[k]?) → Qpn w' L b o := by
 induction T with
 | nil => intro b o _; exact ⟨.nil, rfl, fun _ _ => trivial⟩
 | cons k n s ar r iha ihr =>
  rintro b o ⟨h1, h2, h3, h4, ⟨A, c, h5, h6, h7⟩, h8⟩
  obtain ⟨R, hR, hR'⟩ := ihr h8
  have key : ∃ L : TA, L.ts = ar ∧ ∀ w' : World, (∀ k, p k → k < w.heap.size → w'.heap[k]? = w.heap[k]?) → L.len ≤ c ∧ (0 < L.len → ∃ b' o', A = some ⟨b', o', none⟩ ∧ Qpn w' L b' o') := by
   by_cases hl : 0 < ar.length
   ·obtain ⟨b', o', e, h9⟩ := h7 hl
    obtain ⟨L, hL, hL'⟩ := iha h9
    exact ⟨L, hL, fun w' hw => ⟨by rw [← TA.len_ts, hL]; exact h6, fun _ => ⟨b', o', e, hL' w' hw⟩⟩⟩
   ·refine ⟨.nil, (Ts.nil_of_length Ya).symm, fun w' hw => ⟨by simp [TA.len], fun h => by simp [TA.len] at h⟩⟩
  obtain ⟨L, hL, hL'⟩ := key
  have e1 : L.len = ar.length := by rw [← TA.len_ts, hL]
  refine ⟨.cons k n s A c L R, by simp only [TA.ts, hL, hR], fun w' hw => ?_⟩
  have e := hw b h1 (Qbe h2)
  refine ⟨?_, ?_, ?_, ?_, hL' w' hw, hR' w' hw⟩
  ·rw [World.cell?_of_block (w := w) (w' := w') (a := ⟨b, o, none⟩) e]; exact h2
  ·rw [World.cell?_of_block (w := w) (w' := w') (a := ⟨b, o + 1, none⟩) e]; exact h3
  ·rw [World.cell?_of_block (w := w) (w' := w') (a := ⟨b, o + 2, none⟩) e]; exact h4
  ·rw [World.cell?_of_block (w := w) (w' := w') (a := ⟨b, o + 3, none⟩) e, e1]; exact h5
theorem Sl.locate {w : World} {p : Nat → Prop} {T : Ts} {v : Value} (h : Sl w p v T) : ∃ (A : Option Addr) (c : Nat) (L : TA), v = .slice A L.len c ∧ L.ts = T ∧ ∀ w' : World, (∀ k, p k → k < w.heap.size → w'.heap[k]? = w.heap[k]?) → ArA A c L w' := by
 obtain ⟨A, c, rfl, h6, h7⟩ := h
 by_cases hl : 0 < T.length
 ·obtain ⟨b', o', e, h9⟩ := h7 hl
  obtain ⟨L, hL, hL'⟩ := h9.locate
  have e1 : L.len = T.length := by rw [← TA.len_ts, hL]
  exact ⟨A, c, L, by rw [e1], hL, fun w' hw => ⟨by rw [e1]; exact h6, fun _ => ⟨b', o', e, hL' w' hw⟩⟩⟩
 ·have e0 : T.length = 0 := by omega
  exact ⟨A, c, .nil, by rw [e0]; rfl, (Ts.nil_of_length e0).symm, fun w' hw => ⟨by simp [TA.len], fun h => by simp [TA.len] at h⟩⟩
section
variable {M : List Nat} {w0 w w' : World} {H : List (Nat × Obj)} {F : List (World → Prop)} {v : Value} {T : Ts}
theorem St.located (hS : St M w0 H F w) (hb : Below w.heap.size w w') (h : Sl w' (fun b => w.heap.size ≤ b) v T) : ∃ (A : Option Addr) (c : Nat) (L : TA), v = .slice A L.len c ∧ L.ts = T ∧ St M w0 H (ArA A c L :: F) w' := by
 obtain ⟨A, c, L, h1, h2, h3⟩ := h.locate
 refine ⟨A, c, L, h1, h2, (hS.grow hb).learn fun w2 hx => h3 w2 fun k hk hl => hx.block k hl fun hm => ?_⟩
 have := hS.keys_lt hm
 omega
end
section
variable {M : List Nat} {w0 w w' : World} {H : List (Nat × Obj)} {F : List (World → Prop)} {b : Nat} {o : Obj}
theorem St.freeze (hS : St M w0 ((b, o) :: H) F w) : St M w0 H ((fun w => w.heap[b]? = some o) :: F) w := by
 have hb := hS.own (b, o) (.head _)
 have hlt := QcL hb
 have hap := (List.pairwise_cons.1 hS.apart).1
 refine hS.drop.learn fun w2 hx => ?_
 rw [hx.block b hlt fun hm => ?_]
 ·exact hb
 ·obtain ⟨q, hq, e⟩ := List.mem_map.1 hm
  exact hap q hq e.symm
theorem St.freezeL : ∀ {O : List (Nat × Obj)} {F : List (World → Prop)}, St M w0 (O ++ H) F w → ∃ F', (∀ φ ∈ F, φ ∈ F') ∧ (∀ p ∈ O, Und F' fun w => w.heap[p.1]? = some p.2) ∧ St M w0 H F' w
 | [], F, hS => ⟨F, fun _ h => h, fun p hp => (by cases hp), hS⟩
 | p :: O, F, hS => by
  obtain ⟨F', h1, h2, h3⟩ := St.freezeL (O := O) (F := (fun w => w.heap[p.1]? = some p.2) :: F) (St.freeze (H := O ++ H) hS)
  refine ⟨F', fun φ h => h1 φ (.tail _ h), fun q hq => ?_, h3⟩
  rcases List.mem_cons.1 hq with rfl | hq
  ·exact Und.head.mono (F := (fun w => w.heap[q.1]? = some q.2) :: F) h1
  ·exact h2 q hq
end
section
variable {M : List Nat} {w0 w w' : World} {H : List (Nat × Obj)} {F : List (World → Prop)} {g : Nat} {o : Obj}
end
theorem QgL : ∀ (X ys vs Z : List Value) (o : Nat), X.length = o → ys.length = vs.length → QrW (X ++ (ys ++ Z)) o vs (X ++ (vs ++ Z))
 | [], ys, vs, Z, o, h, hl => by
  obtain rfl : o = 0 := by simpa using h.symm
  induction ys generalizing vs with
  | nil =>
   obtain rfl : vs = [] := List.eq_nil_of_length_eq_zero (by simpa using hl.symm)
   exact .z
  | cons y ys ih =>
   cases vs with
   | nil => simp at hl
   | cons v vs => exact .t (ih vs (by simpa using hl))
 | x :: X, ys, vs, Z, o, h, hl => by
  obtain ⟨o, rfl⟩ : ∃ o', o = o' + 1 := ⟨o - 1, by simp at h; omega⟩
  exact .s (QgL X ys vs Z o (by simpa using h) hl)
def Qmk : TA → List Value
 | .nil => []
 | .cons k n s A c ar r => [.int .i64 k, .int .i64 n, .string s, .slice A ar.len c] ++ Qmk r
theorem Qnm (T : TA) : (Qmk T).length = T.len * 4 := by
 induction T with
 | nil => rfl
 | cons k n s A c ar r _ ih => simp [Qmk, TA.len, ih]; omega
theorem Qnn (T U : TA) : Qmk (T.app U) = Qmk T ++ Qmk U := by
 induction T with
 | nil => rfl
 | cons k n s A c ar r _ ih => simp [Qmk, TA.app, ih]
def QrY : TA → World → Prop
 | .nil, _ => True
 | .cons k n s A c ar r, w => ArA A c ar w ∧ QrY r w
theorem QrY.app {w : World} {U : TA} (hU : QrY U w) : ∀ {T : TA}, QrY T w → QrY (T.app U) w := by
 intro T
 induction T with
 | nil => intro _; exact hU
 | cons k n s A c ar r _ ih => intro h; exact ⟨h.1, ih h.2⟩
theorem QpY {w : World} {b : Nat} : ∀ {T : TA} {o : Nat}, QrY T w → (∀ j u, (Qmk T)[j]? = some u → w.cell? ⟨b, o + j, none⟩ = some u) → Qpn w T b o := by
 intro T
 induction T with
 | nil => intros; trivial
 | cons k n s A c ar r _ ih =>
  intro o hr h
  refine Qhn.2 ⟨h 0 _ rfl, h 1 _ rfl, h 2 _ rfl, h 3 _ rfl, hr.1, ih hr.2 fun j u hu => ?_⟩
  rw [show o + 4 + j = o + (j + 4) by omega]
  exact h (j + 4) u (by simpa [Qmk] using hu)
theorem Qf8 {P : Program} {n : Nat} {e : Env} {w : World} {M : List Nat} {w0 : World} {H : List (Nat × Obj)} {F : List (World → Prop)} {b : Nat} {t : TypeId} {f : FuncId} {R : Ending → World → Prop} {k : List Item} {fn : Func} {a u x sz : Nat} {o : Nat} {cs vs : List Value} {ct : TypeId} {v2 v3 : Value} (hS : St M w0 H F w) (hf : P.funcs[f]? = some fn) (hr : fn.results = #[.cell a t, .tmp u, .tmp x]) (hv : ev n e (.tmp a) = .pointer (some ⟨b, o, none⟩))
  (h2 : ev n e (.tmp u) = v2) (h3 : ev n e (.tmp x) = v3) (hA : QeW P t = some true) (hs : QaD P t = some sz) (hb : At H b (.cells cs.toArray ct)) (hc : Cut cs o sz vs) (hR : R (.returned (.tuple #[.agg vs.toArray, v2, v3])) w) : Qau P f R (.code .ret :: k) (act n e) w := by
 unfold Qau
 intro fr cs' hb' hk
 refine ⟨.returned (.tuple #[.agg vs.toArray, v2, v3]), w, { fr.at (act n e) (.code .ret :: k) with mode := .returning }, hR, Steps.one step_ret, hb', rfl, rfl, hk, fn, ?_, ?_⟩
 ·show P.funcs[fr.fn]? = some fn
  rw [hb']; exact hf
 ·show (results fn (arr n e)).run P w = _
  have h1 := Qci (w := w) hA
  have h4 := Qac (w := w) hs
  have h5 := run_loadCells_list (P := P) (w := w) ⟨b, o, none⟩ vs (fun j v hj => by
   rw [Qaa, Qu (hS.at_ hb)]
   have hjk : j < sz := by
    rcases Nat.lt_or_ge j sz with h | h
    ·exact h
    ·rw [List.getElem?_eq_none (by rw [hc.length]; exact h)] at hj; cases hj
   rw [hc.get j hjk]; exact hj)
  rw [hc.length] at h5
  have hv' : (arr n e).getD a undef = .pointer (some ⟨b, o, none⟩) := by rw [QaA]; exact hv
  have hu' : (arr n e).getD u undef = v2 := by rw [QaA]; exact h2
  have hx' : (arr n e).getD x undef = v3 := by rw [QaA]; exact h3
  simp only [Array.getD_eq_getD_getElem?] at hv' hu' hx'
  simp only [results, hr]
  simp [hv', hu', hx', asAddr, loadVar, h1, h4, h5]
def Tm.shift (t : Tm) (m : Int) : Tm := ⟨t.k, Qe8 t.k t.n m, t.s, t.ar.shift m⟩
abbrev Bnd := List (Int × Tm)
def Qdn (v : Int) : Bnd → Option Tm
 | [] => none
 | x :: r => if v = x.1 then some x.2 else Qdn v r
def QeO (B : Bnd) : Nat → Tm → Tm
 | 0, t => t
 | f + 1, t => if t.k = 0 then match Qdn t.n B with | none => t | some u => QeO B f u else t
def Qe (B : Bnd) (t : Tm) : Tm := QeO B B.length t
def Bok : Bnd → Prop
 | [] => True
 | x :: r => Qdn x.1 r = none ∧ (x.2.k = 0 → x.2.n ≠ x.1 ∧ Qdn x.2.n r = none) ∧ Bok r
def Qs3 (g : Tm → Nat → Bool × Nat) : Ts → Nat → Bool × Nat
 | .nil, w => (false, w)
 | .cons k n s a r, w => if (g ⟨k, n, s, a⟩ w).1 = true then (true, (g ⟨k, n, s, a⟩ w).2) else Qs3 g r (g ⟨k, n, s, a⟩ w).2
def Ql8 (B : Bnd) (v : Int) : Nat → Tm → Nat → Bool × Nat
 | 0, _, w => (false, w + 1)
 | f + 1, t, w => if 400 < w + 1 then (false, w + 1) else if (Qe B t).k = 0 then (decide ((Qe B t).n = v), w + 1) else Qs3 (Ql8 B v f) (Qe B t).ar (w + 1)
structure Us where
 ok : Bool
 B : Bnd
 w : Nat
def Qma (g : Tm → Tm → Bnd → Nat → Us) : Ts → Ts → Bnd → Nat → Us
 | .cons k n s a r, .cons k' n' s' a' r', B, w => if (g ⟨k, n, s, a⟩ ⟨k', n', s', a'⟩ B w).ok = true then Qma g r r' (g ⟨k, n, s, a⟩ ⟨k', n', s', a'⟩ B w).B (g ⟨k, n, s, a⟩ ⟨k', n', s', a'⟩ B w).w else g ⟨k, n, s, a⟩ ⟨k', n', s', a'⟩ B w
 | _, _, B, w => ⟨true, B, w⟩
def Qps (v : Int) (t : Tm) (B : Bnd) (w : Nat) : Us :=
 if (Ql8 B v 401 t w).1 = true ∨ 400 < (Ql8 B v 401 t w).2 then ⟨false, B, (Ql8 B v 401 t w).2⟩ else ⟨true, (v, t) :: B, (Ql8 B v 401 t w).2⟩
def Qoi (x y : Tm) : Bool := decide (x.k = y.k) && decide (x.n = y.n) && decide (x.s = y.s) && decide (x.ar.length = y.ar.length)
def Qb4 : Nat → Tm → Tm → Bnd → Nat → Us
 | 0, _, _, B, w => ⟨false, B, w + 1⟩
 | f + 1, a, b, B, w => if 400 < w + 1 then ⟨false, B, w + 1⟩ else
  if (Qe B a).k = 0 then
   if (Qe B b).k = 0 then ⟨true, if (Qe B a).n = (Qe B b).n then B else ((Qe B a).n, Qe B b) :: B, w + 1⟩
   else Qps (Qe B a).n (Qe B b) B (w + 1)
  else if (Qe B b).k = 0 then Qps (Qe B b).n (Qe B a) B (w + 1)
  else if Qoi (Qe B a) (Qe B b) = true then Qma (Qb4 f) (Qe B a).ar (Qe B b).ar B (w + 1)
  else ⟨false, B, w + 1⟩
def Qij (g : Tm → Nat → Option (Tm × Nat)) : Ts → Nat → Option (Ts × Nat)
 | .nil, l => some (.nil, l)
 | .cons k n s a r, l => match g ⟨k, n, s, a⟩ l with
  | none => none
  | some (t, l') => match Qij g r l' with
   | none => none
   | some (T, l'') => some (.cons t.k t.n t.s t.ar T, l'')
def Qjz (B : Bnd) : Nat → Tm → Nat → Option (Tm × Nat)
 | 0, _, _ => none
 | f + 1, t, l => if l = 0 then none else match Qij (Qjz B f) (Qe B t).ar (l - 1) with
  | none => none
  | some (T, l') => some (⟨(Qe B t).k, (Qe B t).n, (Qe B t).s, T⟩, l')
abbrev Gl := Tm × Nat
structure Ch where
 g : Gl
 next : List Gl
 cls : List Cl
 bound : Nat
structure SS where
 B : Bnd
 fresh : Nat
 fuel : Nat
 goals : List Gl
 ch : List Ch
 ev : List Ts
def Qal (B : Bnd) (n : Nat) : Bnd := B.drop (B.length - n)
def Qkn : Ts → Int → Nat → List Gl → List Gl
 | .nil, _, _, rest => rest
 | .cons k n s a r, m, o, rest => (Tm.shift ⟨k, n, s, a⟩ m, o) :: Qkn r m o rest
def QeB : List Ch → Nat
 | [] => 0
 | c :: r => c.cls.length + QeB r
def Cl.head (c : Cl) : Tm := ⟨c.k, c.n, c.s, c.hd⟩
def QkA (c : Ch) (more : List Cl) (cs : List Ch) : List Ch := match more with
 | [] => cs
 | _ :: _ => ⟨c.g, c.next, more, c.bound⟩ :: cs
def Qad : Nat → SS → Int × SS
 | 0, s => (2, s)
 | f + 1, s => match s.ch with
  | [] => (2, s)
  | c :: cs => match c.cls with
   | [] => (2, s)
   | cl :: more =>
    let r := Qb4 401 (cl.head.shift s.fresh) c.g.1 (Qal s.B c.bound) 0
    let s' : SS := ⟨r.B, s.fresh + cl.vars.toNat, s.fuel, s.goals, QkA c more cs, s.ev⟩
    if 400 < r.w then (4, s')
    else if r.ok = true then (0, ⟨s'.B, s'.fresh, s'.fuel, Qkn cl.bd s.fresh cs.length c.next, s'.ch, s'.ev⟩)
    else Qad f s'
def QaO (s : SS) : Int × SS := Qad (QeB s.ch + 1) s
def SS.setB (s : SS) (B : Bnd) : SS := ⟨B, s.fresh, s.fuel, s.goals, s.ch, s.ev⟩
def Qa4 (a b : Tm) (s : SS) : Int × SS :=
 let r := Qb4 401 a b s.B 0
 if 400 < r.w then (4, s.setB r.B) else if r.ok = true then (0, s.setB r.B) else QaO (s.setB r.B)
def Ts.at_ : Ts → Nat → Tm
 | .nil, _ => ⟨0, 0, ⟨#[]⟩, .nil⟩
 | .cons k n s a _, 0 => ⟨k, n, s, a⟩
 | .cons _ _ _ _ r, i + 1 => r.at_ i
def Qiz (T : Ts) (s : SS) : Int × SS :=
 let a := Qe s.B (T.at_ 0)
 let b := Qe s.B (T.at_ 1)
 if a.k ≠ 2 ∨ b.k ≠ 2 then (5, s) else if b.n ≤ a.n then QaO s else (0, s)
def QrV (T : Ts) (s : SS) : Int × SS :=
 let a := Qe s.B (T.at_ 0)
 let b := Qe s.B (T.at_ 1)
 if a.k ≠ 2 ∨ b.k ≠ 2 then (5, s) else if a.n + b.n < -1099511627776 ∨ 1099511627776 < a.n + b.n then (5, s)
 else Qa4 (T.at_ 2) ⟨2, a.n + b.n, ⟨#[]⟩, .nil⟩ s
def QbR (g : Gl) (s : SS) : Int × SS :=
 if g.1.s.toList = [33] then (0, ⟨s.B, s.fresh, s.fuel, s.goals, s.ch.drop (s.ch.length - g.2), s.ev⟩)
 else if g.1.s.toList = [116, 114, 117, 101] then (0, s)
 else if g.1.s.toList = [101, 113] then Qa4 (g.1.ar.at_ 0) (g.1.ar.at_ 1) s
 else if g.1.s.toList = [108, 101, 115, 115] then Qiz g.1.ar s
 else if g.1.s.toList = [97, 100, 100] then QrV g.1.ar s
 else QaO s
def Qby (B : Bnd) : Nat → Nat → Nat → Option (Ts × Nat)
 | 0, _, l => some (.nil, l)
 | m + 1, v, l => match Qjz B 201 ⟨0, v, ⟨#[]⟩, .nil⟩ l with
  | none => none
  | some (t, l') => match Qby B m (v + 1) l' with
   | none => none
   | some (T, l'') => some (.cons t.k t.n t.s t.ar T, l'')
def QbZ (vars : Nat) (s : SS) : Int × SS := match Qby s.B vars 0 200 with
 | none => (4, s)
 | some (T, _) =>
  let s' : SS := ⟨s.B, s.fresh, s.fuel, s.goals, s.ch, s.ev ++ [T.tidy]⟩
  if s'.ev.length = 12 then (6, s') else QaO s'
def QeT (g : Tm) (c : Cl) : Bool := decide (c.s = g.s) && decide (c.hd.length = g.ar.length)
def Qaq (p : List Cl) (vars : Nat) (s : SS) : Int × SS := match s.goals with
 | [] => QbZ vars s
 | g :: rest =>
  if s.fuel = 0 then (3, s)
  else if QaG g.1.s.toList g.1.ar.length = true then QbR g ⟨s.B, s.fresh, s.fuel - 1, rest, s.ch, s.ev⟩
  else match p.filter (QeT g.1) with
   | [] => (5, ⟨s.B, s.fresh, s.fuel - 1, rest, s.ch, s.ev⟩)
   | c :: cs => QaO ⟨s.B, s.fresh, s.fuel - 1, rest, ⟨g, rest, c :: cs, s.B.length⟩ :: s.ch, s.ev⟩
abbrev Ev := Int × Ts
def Qdf (l : List Ts) : List Ev := l.map fun T => (1, T)
def QoH (p : List Cl) (vars : Nat) : Nat → SS → List Ev
 | 0, _ => []
 | n + 1, s => if (Qaq p vars s).1 = 0 then QoH p vars n (Qaq p vars s).2 else Qdf (Qaq p vars s).2.ev ++ [((Qaq p vars s).1, .nil)]
def Qbd (q : Ts) (vars fuel : Nat) : SS := ⟨[], vars, fuel, Qkn q 0 0 [], [], []⟩
def Qdr (p : List Cl) (q : Ts) (vars fuel : Int) : List Ev × Int :=
 if pB p = false ∨ qB vars q = false then ([], 1)
 else if fuel < 0 ∨ 150 < fuel then ([], 2)
 else (QoH p vars.toNat 4000 (Qbd q vars.toNat fuel.toNat), 0)
structure GB where
 v : Int
 t : LT
def Qcq (G : List GB) : List (Int × Value) := (G.map fun x => (x.v, tv x.t)).reverse
theorem Qn8 (v : Int) (Y : Bnd) : ∀ X : Bnd, Qdn v (X ++ Y) = (Qdn v X).orElse fun _ => Qdn v Y
 | [] => by simp [Qdn]
 | x :: r => by
  simp only [List.cons_append, Qdn]
  by_cases e : v = x.1
  ·rw [if_pos e, if_pos e]; rfl
  ·rw [if_neg e, if_neg e]; exact Qn8 v Y r
theorem Bok.drop {B : Bnd} (h : Bok B) : ∀ m, Bok (B.drop m) := by
 induction B with
 | nil => intro m; simpa using h
 | cons x r ih =>
  intro m
  cases m with
  | zero => exact h
  | succ m => exact ih h.2.2 m
theorem Qko {v : Int} {u : Tm} : ∀ {B : Bnd}, Qdn v B = some u → ∃ p, p < B.length ∧ B.drop p = (v, u) :: B.drop (p + 1)
 | [], h => by cases h
 | x :: r, h => by
  simp only [Qdn] at h
  by_cases e : v = x.1
  ·rw [if_pos e] at h
   cases h
   exact ⟨0, by simp, by simp [e]⟩
  ·rw [if_neg e] at h
   obtain ⟨p, h1, h2⟩ := Qko h
   exact ⟨p + 1, by simp; omega, by simpa using h2⟩
def Qii (B : Bnd) (m : Nat) (t : Tm) : Prop := t.k = 0 → Qdn t.n (B.drop m) = none
theorem Qii.step {B : Bnd} {m : Nat} {t u : Tm} (hB : Bok B) (h : Qii B m t) (hk : t.k = 0) (hg : Qdn t.n B = some u) : ∃ p, p < m ∧ Qii B p u := by
 obtain ⟨p, hp, hd⟩ := Qko hg
 refine ⟨p, ?_, fun hu => ?_⟩
 ·rcases Nat.lt_or_ge p m with hl | hl
  ·exact hl
  ·exfalso
   have h0 := h hk
   have e : B.drop m = (B.drop m).take (p - m) ++ B.drop p := by
    conv => lhs; rw [← List.take_append_drop (p - m) (B.drop m)]
    rw [List.drop_drop, show m + (p - m) = p by omega]
   rw [e, Qn8, hd] at h0
   have h1 : Qdn t.n ((t.n, u) :: B.drop (p + 1)) = some u := by simp [Qdn]
   rw [h1] at h0
   cases hx : Qdn t.n ((B.drop m).take (p - m)) <;> rw [hx] at h0 <;> cases h0
 ·have hb := hB.drop p
  rw [hd] at hb ⊢
  obtain ⟨h1, h2, h3⟩ := hb
  obtain ⟨h4, h5⟩ := h2 hu
  simp only [Qdn]
  rw [if_neg h4]; exact h5
theorem Qii.start (B : Bnd) (t : Tm) : Qii B B.length t := fun _ => by simp [Qdn]
theorem QbN {B : Bnd} {t : Tm} (h : t.k ≠ 0) : ∀ f, QeO B f t = t
 | 0 => rfl
 | f + 1 => by simp [QeO, h]
theorem QcQ {B : Bnd} {t : Tm} (h : Qdn t.n B = none) : ∀ f, QeO B f t = t
 | 0 => rfl
 | f + 1 => by simp [QeO, h]
theorem QcP {B : Bnd} {t u : Tm} (hk : t.k = 0) (h : Qdn t.n B = some u) (f : Nat) : QeO B (f + 1) t = QeO B f u := by simp [QeO, hk, h]
theorem QdT {B : Bnd} (hB : Bok B) : ∀ (p : Nat) (t : Tm), Qii B p t → ∀ f, p ≤ f → QeO B f t = QeO B p t := by
 intro p
 induction p using Nat.strongRecOn with
 | _ p ih =>
  intro t hc f hf
  by_cases hk : t.k = 0
  ·cases hg : Qdn t.n B with
   | none => rw [QcQ hg, QcQ hg]
   | some u =>
    obtain ⟨q, hq, hcq⟩ := hc.step hB hk hg
    obtain ⟨f, rfl⟩ : ∃ f', f = f' + 1 := ⟨f - 1, by omega⟩
    obtain ⟨p, rfl⟩ : ∃ p', p = p' + 1 := ⟨p - 1, by omega⟩
    rw [QcP hk hg, QcP hk hg, ih q hq u hcq f Ya, ih q hq u hcq p Ya]
  ·rw [QbN hk, QbN hk]
theorem Qa9 {B : Bnd} {t : Tm} (h : t.k ≠ 0) : Qe B t = t := QbN h _
theorem QdR {B : Bnd} {t : Tm} (h : Qdn t.n B = none) : Qe B t = t := QcQ h _
theorem Qf4 {B : Bnd} {t u : Tm} (hB : Bok B) (hk : t.k = 0) (h : Qdn t.n B = some u) : Qe B t = Qe B u := by
 obtain ⟨p, hp, hc⟩ := (Qii.start B t).step hB hk h
 unfold Qe
 have : B.length = (B.length - 1) + 1 := by omega
 conv => lhs; rw [this, QcP hk h]
 exact (QdT hB p u hc _ Ya).trans (QdT hB p u hc _ Ya).symm
theorem QqM {B : Bnd} (hB : Bok B) : ∀ (p : Nat) (t : Tm), Qii B p t → (QeO B p t).k = 0 → Qdn (QeO B p t).n B = none := by
 intro p
 induction p using Nat.strongRecOn with
 | _ p ih =>
  intro t hc
  by_cases hk : t.k = 0
  ·cases hg : Qdn t.n B with
   | none => rw [QcQ hg]; exact fun _ => hg
   | some u =>
    obtain ⟨q, hq, hcq⟩ := hc.step hB hk hg
    obtain ⟨p, rfl⟩ : ∃ p', p = p' + 1 := ⟨p - 1, by omega⟩
    rw [QcP hk hg, QdT hB q u hcq p Ya]
    exact ih q hq u hcq
  ·rw [QbN hk]; exact fun h => absurd h hk
theorem Qcv {B : Bnd} (hB : Bok B) (t : Tm) (h : (Qe B t).k = 0) : Qdn (Qe B t).n B = none := QqM hB _ t (Qii.start B t) h
theorem QqK {B : Bnd} (hB : Bok B) (t : Tm) : Qe B (Qe B t) = Qe B t := by
 by_cases h : (Qe B t).k = 0
 ·exact QdR (Qcv hB t h)
 ·exact Qa9 h
theorem Qlq {B : Bnd} : ∀ (f : Nat) (t : Tm), QeO B f t = t ∨ ∃ x ∈ B, QeO B f t = x.2
 | 0, t => .inl rfl
 | f + 1, t => by
  by_cases hk : t.k = 0
  ·cases hg : Qdn t.n B with
   | none => exact .inl (QcQ hg _)
   | some u =>
    rw [QcP hk hg]
    have hm : ∃ x ∈ B, u = x.2 := by
     obtain ⟨p, _, hd⟩ := Qko hg
     exact ⟨(t.n, u), List.mem_of_mem_drop (i := p) (by rw [hd]; exact .head _), rfl⟩
    rcases Qlq f u with h | h
    ·rw [h]; exact .inr hm
    ·exact .inr h
  ·exact .inl (QbN hk _)
theorem QjX {B : Bnd} (t : Tm) : Qe B t = t ∨ ∃ x ∈ B, Qe B t = x.2 := Qlq _ t
end Go.Proofs.YthliapbflkfdiacGreatDoor
