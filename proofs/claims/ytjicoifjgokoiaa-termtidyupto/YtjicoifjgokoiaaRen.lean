/-
  The reference's Renamed lays a renamed copy, whatever the numbering.
-/
import Derived.Test.YtjicoifjgokoiaaNums
import Derived.Test.YtjicoifjgokoiaaCopy
import Derived.Test.YtjicoifjgokoiaaMix
import Derived.Deep.LoopGhost
import Derived.Deep.RegionLaw
import Derived.Deep.DeepCutAuto
namespace Go.Proofs.Ytjicoifjgokoiaa
open Go.RowKit
set_option maxRecDepth 100000

/-- What gives the variables their numbers: a function value, and what it knows. -/
structure Num (σ : Type) where
  fid : FuncId
  cap : Array Value
  own : Nat → Prop
  lean : Nat → Prop
  inv : σ → World → Prop
  val : σ → Int → Int
  nxt : σ → Int → σ
structure Num.Ok {σ : Type} (N : Num σ) : Prop where
  keep : ∀ s w w', N.inv s w → (∀ k, N.lean k → w'.heap[k]? = w.heap[k]?) → N.inv s w'
  lt : ∀ s w k, N.inv s w → N.lean k → k < w.heap.size
  sub : ∀ k, N.own k → N.lean k
  bare : ∀ s w k c t f, N.inv s w → N.own k → w.heap[k]? ≠ some (.cells c t f)
  enter : ∀ (args : Array Value) (w : World), (callFunc N.fid args).run Try.prog w = .ok (.enter N.fid args) w
  call : ∀ s n w, N.inv s w → Calls Try.prog N.fid (#[.int .i64 n] ++ N.cap) w fun e w' => e = .returned (.int .i64 (N.val s n)) ∧ N.inv (N.nxt s n) w' ∧ Chg N.own w w'

def Num.v1 {σ : Type} (N : Num σ) (k n : Int) (s : σ) : Int := if k = 0 then N.val s n else n
def Num.s1 {σ : Type} (N : Num σ) (k n : Int) (s : σ) : σ := if k = 0 then N.nxt s n else s
/-- Every variable gets its number, each term ahead of its arguments. -/
def Ts.ren {σ : Type} (N : Num σ) : Ts → σ → Ts × σ
  | .nil, s => (.nil, s)
  | .cons k n b ar r, s => (.cons k (N.v1 k n s) b (ar.ren N (N.s1 k n s)).1 (r.ren N (ar.ren N (N.s1 k n s)).2).1, (r.ren N (ar.ren N (N.s1 k n s)).2).2)
theorem Ts.ren_app {σ : Type} (N : Num σ) (D R : Ts) : ∀ s : σ, (D.app R).ren N s = ((D.ren N s).1.app (R.ren N (D.ren N s).2).1, (R.ren N (D.ren N s).2).2) := by
  induction D with
  | nil => intro s; rfl
  | cons k n b ar r _ ih => intro s; simp only [Ts.app, Ts.ren, ih]
theorem Ts.length_ren {σ : Type} (N : Num σ) (T : Ts) : ∀ s : σ, (T.ren N s).1.length = T.length := by
  induction T with
  | nil => intro s; rfl
  | cons k n b ar r _ ih => intro s; simp only [Ts.ren, Ts.length, ih]
theorem Ts.nodes_ren {σ : Type} (N : Num σ) (T : Ts) : ∀ s : σ, (T.ren N s).1.nodes = T.nodes := by
  induction T with
  | nil => intro s; rfl
  | cons k n b ar r iha ih => intro s; simp only [Ts.ren, Ts.nodes, ih, iha]

section
variable {σ : Type} {N : Num σ}
theorem Num.Ok.cell_none (ok : N.Ok) {w : World} {s : σ} {k o : Nat} (hi : N.inv s w) (ho : N.own k) : w.cell? ⟨k, o, none⟩ = none := by
  have := fun c t f => ok.bare s w k c t f hi ho
  unfold World.cell?
  split
  · rename_i h; exact absurd h (this _ _ _)
  · rfl
theorem Num.Ok.sl (ok : N.Ok) {w w' : World} {p : Nat → Prop} {s : σ} {v : Value} {T : Ts} (h : Sl w p v T) (hi : N.inv s w) (hc : Chg N.own w w') : Sl w' p v T := by
  have h1 : Sl w (fun k => p k ∧ ¬ N.own k) v T := h.imp' fun k hk ⟨j, u, hu⟩ => ⟨hk, fun ho => by rw [ok.cell_none hi ho] at hu; cases hu⟩
  exact (h1.chg hc fun k hk => hk.2).imp fun k hk _ => hk.1
end

def RenSaid {σ : Type} (N : Num σ) (ar : Ts) : Prop := ∀ (k n : Int) (b : ByteArray) (v : Value) (s : σ) (w : World), Sl w (fun _ => True) v ar → N.inv s w → ar.nodes ≤ 1048576 →
    Calls Try.prog 42 #[.agg #[.int .i64 k, .int .i64 n, .string b, v], .func (.func N.fid) #[] N.cap] w fun e w' => ∃ v', e = .returned (.agg #[.int .i64 k, .int .i64 (N.v1 k n s), .string b, v']) ∧
      Sl w' (fun k => w.heap.size ≤ k) v' (ar.ren N (N.s1 k n s)).1 ∧ N.inv (ar.ren N (N.s1 k n s)).2 w' ∧ Chg N.own w w'

structure RenCut {σ : Type} (N : Num σ) (w : World) (k n : Int) (b : ByteArray) (v : Value) (s : σ) (wx : World) : Prop where
  t : Plot wx w.heap.size 24 #[.int .i64 k, .int .i64 n, .string b, v]
  r : Plot wx (w.heap.size + 1) 24 #[.int .i64 0, .int .i64 0, .string ⟨#[]⟩, .slice none 0 0]
  inv : N.inv s wx
  chg : Chg N.own w wx

structure RenRel {σ : Type} (N : Num σ) (w : World) (T : Ts) (k n : Int) (b : ByteArray) (s : σ) (u : Value) (D R : Ts) (xs : List Value) (wr : World) : Prop where
  split : T = D.app R
  t : Plot wr w.heap.size 24 #[.int .i64 k, .int .i64 n, .string b, u]
  r : Plot wr (w.heap.size + 1) 24 #[.int .i64 0, .int .i64 0, .string ⟨#[]⟩, .slice none 0 0]
  own : wr.ownsRow (w.heap.size + 2) 24 4 u D.length xs
  cs : Cs wr (fun k => w.heap.size + 2 ≤ k ∧ u.ownBlock ≠ some k) (D.ren N s).1 xs
  inv : N.inv (D.ren N s).2 wr
  chg : Chg N.own w wr
def RenLoop {σ : Type} (N : Num σ) (w : World) (T : Ts) (k n : Int) (b : ByteArray) (s : σ) (g : Nat) (s21 : Value) (wr : World) : Prop :=
  ∃ (u : Value) (D R : Ts) (xs : List Value), RenRel N w T k n b s u D R xs wr ∧ g = R.length ∧ s21 = .int .i64 D.length

theorem RenRel.step {σ : Type} {N : Num σ} (ok : N.Ok) {w wr W w3 : World} {T D r ar : Ts} {k n k1 n1 : Int} {b s1 : ByteArray} {s s0 : σ} {u v3 v : Value} {xs : List Value} (hi : N.inv s0 w)
    (h : RenRel N w T k n b s u D (.cons k1 n1 s1 ar r) xs wr) (hC : Chg N.own wr W)
    (hv : Sl W (fun k => wr.heap.size ≤ k) v (ar.ren N (N.s1 k1 n1 (D.ren N s).2)).1) (hI : N.inv (ar.ren N (N.s1 k1 n1 (D.ren N s).2)).2 W)
    (ho3 : w3.ownsRow (w.heap.size + 2) 24 4 v3 (D.length + 1) (xs ++ [.int .i64 k1, .int .i64 (N.v1 k1 n1 (D.ren N s).2), .string s1, v]))
    (hg : W.grownBy w3 u.ownBlock) (hat : v3.ownBlock = u.ownBlock ∨ v3.ownBlock = some W.heap.size) :
    RenRel N w T k n b s v3 (D.app (.cons k1 n1 s1 ar .nil)) r (xs ++ [.int .i64 k1, .int .i64 (N.v1 k1 n1 (D.ren N s).2), .string s1, v]) (w3.setCell ⟨w.heap.size, 3, none⟩ v3) := by
  have hlt := h.own.lt
  have hle : ∀ k, N.lean k → k < w.heap.size := fun k hk => ok.lt s0 w k hi hk
  have hsz := h.r.lt
  have hown : ∀ k, w.heap.size ≤ k → ¬ N.own k := fun k hk ho => by have := hle k (ok.sub k ho); omega
  have e : (D.app (.cons k1 n1 s1 ar .nil)).ren N s = ((D.ren N s).1.app (.cons k1 (N.v1 k1 n1 (D.ren N s).2) s1 (ar.ren N (N.s1 k1 n1 (D.ren N s).2)).1 .nil), (ar.ren N (N.s1 k1 n1 (D.ren N s).2)).2) := by
    rw [Ts.ren_app]; rfl
  have hu : ∀ k, u.ownBlock = some k → w.heap.size + 2 ≤ k ∧ k < wr.heap.size := fun k hk => hlt k hk
  have hWs := hC.size
  have hv3 : v3.ownBlock ≠ some w.heap.size := by
    rcases hat with e | e <;> rw [e]
    · intro e2; have := hu _ e2; omega
    · intro e2; simp at e2; omega
  have ht3 : Plot w3 w.heap.size 24 #[.int .i64 k, .int .i64 n, .string b, u] := (h.t.chg hC (hown _ (Nat.le_refl _))).grown hg (fun e => by have := hu _ e.symm; omega)
  have hr3 : Plot w3 (w.heap.size + 1) 24 #[.int .i64 0, .int .i64 0, .string ⟨#[]⟩, .slice none 0 0] := (h.r.chg hC (hown _ (by omega))).grown hg (fun e => by have := hu _ e.symm; omega)
  refine ⟨by rw [h.split, Ts.app_assoc]; rfl, ht3.set_ 3 _, hr3.far (by simp) _, ?_, ?_, ?_, ?_⟩
  · rw [Ts.length_app]
    exact ownsRow_setCell_other ho3 hv3 _
  · rw [e]
    have h1 : Cs W (fun k => (w.heap.size + 2 ≤ k ∧ v3.ownBlock ≠ some k) ∧ u.ownBlock ≠ some k) ((D.ren N s).1.app (.cons k1 (N.v1 k1 n1 (D.ren N s).2) s1 (ar.ren N (N.s1 k1 n1 (D.ren N s).2)).1 .nil)) (xs ++ [.int .i64 k1, .int .i64 (N.v1 k1 n1 (D.ren N s).2), .string s1, v]) := by
      refine Cs.app ?_ ⟨v, [], rfl, ?_, rfl⟩
      · refine (h.cs.imp (q := fun k => (w.heap.size + 2 ≤ k ∧ v3.ownBlock ≠ some k) ∧ u.ownBlock ≠ some k) fun k hk hl => ⟨⟨hk.1, ?_⟩, hk.2⟩).keep fun k hk hl => hC.block k hl (hown k (by omega))
        rcases hat with e | e <;> rw [e]
        · exact hk.2
        · intro e2; simp at e2; omega
      · refine hv.imp fun k hk hl => ⟨⟨by omega, ?_⟩, ?_⟩
        · rcases hat with e | e <;> rw [e]
          · intro e2; have := hu k e2; omega
          · intro e2; simp at e2; omega
        · intro e2; have := hu k e2; omega
    refine ((h1.keep (w' := w3) fun k hk hl => hg.block k hl (fun e => hk.2 e.symm)).imp (q := fun k => w.heap.size + 2 ≤ k ∧ v3.ownBlock ≠ some k) fun k hk _ => hk.1).keep fun k hk _ => ?_
    exact Below.heap_setCell _ _ _ _ (by simp; omega)
  · rw [e]
    refine ok.keep _ W _ hI fun k hk => ?_
    have := hle k hk
    rw [Below.heap_setCell _ _ _ _ (by simp; omega)]
    exact hg.block k (by omega) (fun e => by have := hu _ e.symm; omega)
  · refine Chg.setCell (((h.chg.trans hC fun _ _ h => h)).trans (Chg.of_grown hg) fun k hk hk2 => ?_) (fun h => by simp at h) _
    have := hu _ hk2; omega

set_option maxHeartbeats 400000 in
theorem renamed_of {σ : Type} {N : Num σ} (ok : N.Ok) (m : Nat) (ih : ∀ T : Ts, T.nodes < m → RenSaid N T) (T : Ts) (hm : T.nodes ≤ m) : RenSaid N T := by
  intro k n b v s w hv hi hn
  obtain ⟨A, c, rfl, hs⟩ := hv.form
  have hle := T.length_le
  have hen := ok.enter
  obtain ⟨i0, hi0, hz0, hz1, hz2⟩ := info_parts info_term
  have hlt : ∀ k, N.lean k → k < w.heap.size := fun k => ok.lt s w k hi
  have HLT := Lib.hid hlt
  clear hlt
  have hiW : N.inv s ((w.alloc (.cells #[.int .i64 k, .int .i64 n, .string b, .slice A T.length c] 24)).alloc (.cells #[.int .i64 0, .int .i64 0, .string ⟨#[]⟩, .slice none 0 0] 24)) :=
    ok.keep s w _ hi fun k hk => by
      have := HLT.out k hk
      rw [Below.heap_alloc _ _ _ (by simp; omega), Below.heap_alloc _ _ _ this]
  have hcW : Chg N.own w ((w.alloc (.cells #[.int .i64 k, .int .i64 n, .string b, .slice A T.length c] 24)).alloc (.cells #[.int .i64 0, .int .i64 0, .string ⟨#[]⟩, .slice none 0 0] 24)) :=
    ((Chg.refl _ _).alloc _).alloc _
  have b0 : Plot ((w.alloc (.cells #[.int .i64 k, .int .i64 n, .string b, .slice A T.length c] 24)).alloc (.cells #[.int .i64 0, .int .i64 0, .string ⟨#[]⟩, .slice none 0 0] 24)) w.heap.size 24 #[.int .i64 k, .int .i64 n, .string b, .slice A T.length c] :=
    (Plot.new w _ _).alloc _
  have b1 : Plot ((w.alloc (.cells #[.int .i64 k, .int .i64 n, .string b, .slice A T.length c] 24)).alloc (.cells #[.int .i64 0, .int .i64 0, .string ⟨#[]⟩, .slice none 0 0] 24)) (w.heap.size + 1) 24 #[.int .i64 0, .int .i64 0, .string ⟨#[]⟩, .slice none 0 0] := by
    have := Plot.new (w.alloc (.cells #[.int .i64 k, .int .i64 n, .string b, .slice A T.length c] 24)) 24 #[.int .i64 0, .int .i64 0, .string ⟨#[]⟩, .slice none 0 0]
    simpa using this
  go_enter Try.func42, Try.ntmps42
  go_upto_if 10 with fail
  go_cut [] (fun wx => RenCut N w k (N.v1 k n s) b (.slice A T.length c) (N.s1 k n s) wx)
  case first =>
    by_cases hk : k = 0
    · subst hk
      go_wp2_with fail
      refine (ok.call s n _ hiW).mono ?_
      rintro e w1 ⟨rfl, hi1, hc1⟩
      have d0 := b0.chg hc1 fun h => by have := HLT.out _ (ok.sub _ h); omega
      have d1 := b1.chg hc1 fun h => by have := HLT.out _ (ok.sub _ h); omega
      have c1 : w1.cell? ⟨w.heap.size, 1, none⟩ = some (.int .i64 n) := d0.cell 1
      have f1 : w1.frozen? ⟨w.heap.size, 1, none⟩ = false := d0.frozen 1
      go_wp2_with fail
      go_meet
      refine ⟨d0.set_ 1 _, d1.far (by simp) _, ?_, ?_⟩
      · refine ok.keep _ w1 _ (by simpa [Num.s1] using hi1) fun k hk => ?_
        have := HLT.out k hk
        exact Below.heap_setCell _ _ _ _ (by simp; omega)
      · exact (hcW.trans hc1 fun _ _ h => h).setCell (fun h => by simp at h) _
    · have hk' : (k == 0) = false := by simp [hk]
      have e1 : N.v1 k n s = n := by simp [Num.v1, hk]
      have e2 : N.s1 k n s = s := by simp [Num.s1, hk]
      have E1 := Lib.hid e1
      have E2 := Lib.hid e2
      clear e1 e2
      go_wp2_with fail
      go_meet
      rw [E1.out, E2.out]
      exact ⟨b0, b1, hiW, hcW⟩
  case rest =>
    clear hiW hcW b0 b1
    obtain ⟨d0, d1, hi1, hc1⟩ := hcut
    obtain ⟨a0, a1, a2, a3, af⟩ := d0.four
    have h0 : RenLoop N w T k (N.v1 k n s) b (N.s1 k n s) T.length (.int .i64 0) (wc.setCell ⟨w.heap.size, 3, none⟩ (.slice none 0 0)) := by
      refine ⟨.slice none 0 0, .nil, T, [], ⟨rfl, d0.set_ 3 _, d1.far (by simp) _, World.ownsRow_nil _ _ _ _, rfl, ?_, ?_⟩, rfl, rfl⟩
      · refine ok.keep _ wc _ hi1 fun k hk => ?_
        have := HLT.out k hk
        exact Below.heap_setCell _ _ _ _ (by simp; omega)
      · exact hc1.setCell (fun h => by simp at h) _
    clear d0 d1
    go_wp2_with fail
    go_loopg [21] T.length (RenLoop N w T k (N.v1 k n s) b (N.s1 k n s))
    case atStart => exact h0
    case round =>
      clear h0 a0 a1 a2 a3 af
      obtain ⟨u, D, R, xs, hrel, eg, rfl⟩ := hrel
      have hbz : w.heap.size + 1 < wr.heap.size := hrel.r.lt
      cases R with
      | nil =>
        have e1 : D.length = T.length := by rw [hrel.split, Ts.app_nil]
        have eD : D = T := by rw [hrel.split, Ts.app_nil]
        obtain ⟨Au, cu, hu⟩ : ∃ Au cu, u = .slice Au D.length cu := by
          rcases hrel.own.2 with ⟨h1, h2⟩ | ⟨g, cap, cur, h1, _⟩
          · exact ⟨none, 0, by rw [h1, h2]⟩
          · exact ⟨_, _, h1⟩
        subst hu
        subst eD
        have hsl : Sl wr (fun k => w.heap.size + 2 ≤ k) (.slice Au D.length cu) (D.ren N (N.s1 k n s)).1 := by
          have h1 := hrel.own
          rw [← Ts.length_ren N D (N.s1 k n s)] at h1
          have h2 := Sl.own h1 (hrel.cs.imp fun k hk _ => hk.1) fun g hg => (h1.lt g hg).1
          rwa [Ts.length_ren] at h2
        obtain ⟨a0, a1, a2, a3, af⟩ := hrel.t.four
        obtain ⟨b0, b1, b2, b3, bf⟩ := hrel.r.four
        have hI := hrel.inv
        have hC := hrel.chg
        clear eg hrel
        go_wp2_with fail
        refine bodyPost_ret (v := .agg #[.int .i64 k, .int .i64 (N.v1 k n s), .string b, .slice Au D.length cu]) (by simp [results, Try.results42, go_sem, b0, b1, b2, b3]) rfl ⟨_, rfl, ?_, ?_, ?_⟩
        · refine (hsl.keep (w' := _) fun k hk _ => ?_).imp fun k hk _ => by omega
          simp only [World.setCell, Array.getElem?_modify]
          repeat rw [if_neg (by omega)]
        · refine ok.keep _ wr _ hI fun k hk => ?_
          have := HLT.out k hk
          simp only [World.setCell, Array.getElem?_modify]
          repeat rw [if_neg (by omega)]
        · exact (((hC.setCell (fun h => by simp at h; omega) _).setCell (fun h => by simp at h; omega) _).setCell (fun h => by simp at h; omega) _).setCell (fun h => by simp at h; omega) _
      | cons k1 n1 s1 ar r =>
        have e1 : D.length < T.length := by rw [hrel.split, Ts.length_app]; simp [Ts.length]
        have e2 : ar.nodes < m ∧ ar.nodes ≤ 1048576 := by
          have h := hrel.split
          rw [h, Ts.nodes_app] at hm hn
          simp [Ts.nodes] at hm hn
          omega
        have hsl : Sl wr (fun k => k < w.heap.size) (.slice A T.length c) (D.app (.cons k1 n1 s1 ar r)) := by
          rw [← hrel.split]
          exact ok.sl (hs.imp fun k _ h => h) hi hrel.chg
        obtain ⟨b1, o1, rfl, hq1⟩ := Sl.at_ hsl (by simp [Ts.length])
        obtain ⟨_, c10, c11, c12, ⟨v1, c13, hv1⟩, _⟩ := seg_cons.1 hq1
        obtain ⟨A1, d1, rfl, hv1⟩ := hv1.form
        obtain ⟨Au, cu, hu⟩ : ∃ Au cu, u = .slice Au D.length cu := by
          rcases hrel.own.2 with ⟨h1, h2⟩ | ⟨g, cap, cur, h1, _⟩
          · exact ⟨none, 0, by rw [h1, h2]⟩
          · exact ⟨_, _, h1⟩
        subst hu
        obtain ⟨a0, a1, a2, a3, af⟩ := hrel.t.four
        have HG := Lib.hid eg
        clear eg hq1 hsl
        go_wp2_with fail
        refine wp_region_ord (fun ws => ws.cell? ⟨w.heap.size, 3, none⟩ = some (.slice Au D.length cu) ∧ ws.cell? ⟨wr.heap.size, 0, none⟩ = some (.int .i64 k1) ∧ ws.cell? ⟨wr.heap.size, 1, none⟩ = some (.int .i64 n1) ∧ ws.cell? ⟨wr.heap.size, 2, none⟩ = some (.string s1) ∧ ws.cell? ⟨wr.heap.size, 3, none⟩ = some (.slice A1 ar.length d1))
          6 [(0, true), (1, true), (2, true), (3, true), (4, false), (5, false)] (by kernel_rfl) (by kernel_rfl) ?S0 ?rest
        case S0 =>
          have hx := (Plot.new wr 24 #[.int .i64 k1, .int .i64 n1, .string s1, .slice A1 ar.length d1]).four
          have ht := (hrel.t.alloc (.cells #[.int .i64 k1, .int .i64 n1, .string s1, .slice A1 ar.length d1] 24)).cell 3
          exact ⟨ht, hx.1, hx.2.1, hx.2.2.1, hx.2.2.2.1⟩
        case rest =>
          iterate 4
            refine wpOrd_read rfl rfl ⟨?_, fun w' hS => ?_, fun _ _ _ h => h, ?_⟩
            rotate_left
            · obtain ⟨t1, t2, t3, t4, t5⟩ := hS
              go_simp
              exact rfl
          have hI1 : N.inv (D.ren N (N.s1 k n s)).2 (wr.alloc (.cells #[.int .i64 k1, .int .i64 n1, .string s1, .slice A1 ar.length d1] 24)).drew := ok.keep _ wr _ hrel.inv fun k hk => Below.heap_alloc _ _ _ (by have := HLT.out k hk; omega)
          have hsl1 : Sl (wr.alloc (.cells #[.int .i64 k1, .int .i64 n1, .string s1, .slice A1 ar.length d1] 24)).drew (fun _ => True) (.slice A1 ar.length d1) ar := hv1.any.keep fun k _ hk => Below.heap_alloc _ _ _ hk
          refine wpOrd_run rfl ?_
          go_wp2_with fail
          refine (ih ar e2.1 k1 n1 s1 _ _ _ hsl1 hI1 e2.2).mono ?_
          rintro e w2 ⟨v', rfl, hv', hI2, hc2⟩
          obtain ⟨Aw, cw, rfl, hv'⟩ := hv'.form
          have hown : ∀ k, w.heap.size ≤ k → ¬ N.own k := fun k hk ho => by have := HLT.out k (ok.sub k ho); omega
          have ht2 : Plot w2 w.heap.size 24 #[.int .i64 k, .int .i64 (N.v1 k n s), .string b, .slice Au D.length cu] := ((hrel.t.alloc _).drewN 1).chg hc2 (hown _ (Nat.le_refl _))
          have hx2 : Plot w2 wr.heap.size 24 #[.int .i64 k1, .int .i64 n1, .string s1, .slice A1 ar.length d1] := ((Plot.new wr _ _).drewN 1).chg hc2 (hown _ (by omega))
          have hzz : wr.heap.size < w2.heap.size := by have := hc2.size; simp at this; omega
          go_wp2_with fail
          refine ⟨⟨ht2.cell 3, hx2.cell 0, hx2.cell 1, hx2.cell 2, hx2.cell 3⟩, ?_⟩
          refine wpOrd_run rfl ?_
          go_wp2_with fail
          refine ⟨⟨(ht2.alloc _).cell 3, (hx2.alloc _).cell 0, (hx2.alloc _).cell 1, (hx2.alloc _).cell 2, (hx2.alloc _).cell 3⟩, ?_⟩
          simp only [wpOrd, List.drop_succ_cons, List.drop_zero]
          have hC3 : Chg N.own wr (w2.alloc (.cells #[.int .i64 k1, .int .i64 (N.v1 k1 n1 (D.ren N (N.s1 k n s)).2), .string s1, .slice Aw (ar.ren N (N.s1 k1 n1 (D.ren N (N.s1 k n s)).2)).1.length cw] 24)) := (((Chg.refl _ wr).alloc _).drew.trans hc2 fun _ _ h => h).alloc _
          have hI3 : N.inv (ar.ren N (N.s1 k1 n1 (D.ren N (N.s1 k n s)).2)).2 (w2.alloc (.cells #[.int .i64 k1, .int .i64 (N.v1 k1 n1 (D.ren N (N.s1 k n s)).2), .string s1, .slice Aw (ar.ren N (N.s1 k1 n1 (D.ren N (N.s1 k n s)).2)).1.length cw] 24)) := ok.keep _ w2 _ hI2 fun k hk => Below.heap_alloc _ _ _ (by have := HLT.out k hk; omega)
          have hv3 : Sl (w2.alloc (.cells #[.int .i64 k1, .int .i64 (N.v1 k1 n1 (D.ren N (N.s1 k n s)).2), .string s1, .slice Aw (ar.ren N (N.s1 k1 n1 (D.ren N (N.s1 k n s)).2)).1.length cw] 24)) (fun k => wr.heap.size ≤ k) (.slice Aw (ar.ren N (N.s1 k1 n1 (D.ren N (N.s1 k n s)).2)).1.length cw) (ar.ren N (N.s1 k1 n1 (D.ren N (N.s1 k n s)).2)).1 :=
            (hv'.below ((Below.refl _ _).alloc (Nat.le_refl _) _)).imp fun k hk _ => by simp at hk; omega
          have ho3 := own_chg hrel.own hC3 fun g hg => hown g (by have := (hrel.own.lt g hg).1; omega)
          have ht3 := ht2.alloc (.cells #[.int .i64 k1, .int .i64 (N.v1 k1 n1 (D.ren N (N.s1 k n s)).2), .string s1, .slice Aw (ar.ren N (N.s1 k1 n1 (D.ren N (N.s1 k n s)).2)).1.length cw] 24)
          go_wp2_with (at_builtin; refine wpList_append_at _ rfl (.tmp 26) (.tmp 30) _ rfl (w.heap.size + 2) 24 i0 _ 4 56 Try.underlying22 hi0 hz0 hz1 hz2 rfl (by omega) (.slice Au D.length cu) D.length xs rfl ho3 ⟨w2.heap.size, 0, none⟩ 1 1 [.int .i64 k1, .int .i64 (N.v1 k1 n1 (D.ren N (N.s1 k n s)).2), .string s1, .slice Aw (ar.ren N (N.s1 k1 n1 (D.ren N (N.s1 k n s)).2)).1.length cw] rfl rfl (cell_lit w2 _ _) (by simp [Value.oneCell']) (by simp only [maxLen]; omega) (by omega) (by simp; omega) ?next)
          case next =>
            intro v3 w3 hov hg hat
            have hat' : v3.ownBlock = (Value.slice Au D.length cu).ownBlock ∨ v3.ownBlock = some (w2.alloc (.cells #[.int .i64 k1, .int .i64 (N.v1 k1 n1 (D.ren N (N.s1 k n s)).2), .string s1, .slice Aw (ar.ren N (N.s1 k1 n1 (D.ren N (N.s1 k n s)).2)).1.length cw] 24)).heap.size := by simpa using hat
            have hstep := RenRel.step ok hi hrel hC3 hv3 hI3 hov hg hat'
            have ht4 : Plot w3 w.heap.size 24 #[.int .i64 k, .int .i64 (N.v1 k n s), .string b, .slice Au D.length cu] := ht3.grown hg (fun e => by have := (hrel.own.lt _ e.symm).1; omega)
            have c4 : w3.cell? ⟨w.heap.size, 3, none⟩ = some (.slice Au D.length cu) := ht4.cell 3
            have f4 : w3.frozen? ⟨w.heap.size, 3, none⟩ = false := ht4.frozen 3
            obtain ⟨Ag, cap, rfl⟩ := own_form hov
            clear hat hat' hov
            go_wp2_with fail
            go_roundg r.length
            case measure => rw [HG.out]; simp [Ts.length]
            case rel =>
              refine ⟨_, _, _, _, hstep, rfl, ?_⟩
              rw [Ts.length_app]; rfl

theorem ren_said {σ : Type} {N : Num σ} (ok : N.Ok) (T : Ts) : RenSaid N T := by
  have : ∀ m, ∀ T : Ts, T.nodes < m → RenSaid N T := by
    intro m
    induction m with
    | zero => intro T h; omega
    | succ m ih => intro T h; exact renamed_of ok m ih T (by omega)
  exact this _ T (Nat.lt_succ_self _)
end Go.Proofs.Ytjicoifjgokoiaa
