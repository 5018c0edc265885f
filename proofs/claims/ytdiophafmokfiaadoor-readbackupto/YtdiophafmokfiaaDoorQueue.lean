/-
  A list of terms from which the first is taken and to which others are appended: it lies in memory of the call's own, anywhere in its block. No program is named here.
-/
import Derived.Test.YtdiophafmokfiaaDoorBase
import Derived.Deep.Upon
import Derived.Lib.LazyBuf
namespace Go.Proofs.YtdiophafmokfiaaDoor
open Go.RowKit

theorem below_setCells {B b : Nat} (hb : B ≤ b) : ∀ (vs : List Value) (o : Nat) (w : World), Below B w (w.setCells b o vs)
  | [], _, w => Below.refl _ w
  | v :: r, o, w => ((Below.refl B w).setCell (p := ⟨b, o, none⟩) hb v).trans (below_setCells hb r (o + 1) _)

theorem came_below {W W' : World} {size : Nat} {ao : Option Addr} {b off len cap : Nat} {olds : List Value} (h : Came W size ao b off len cap olds) (hb : Below W.heap.size W W') : Came W' size ao b off len cap olds := by
  have hz := hb.size
  rcases Nat.eq_zero_or_pos cap with h0 | h0
  · have hl := h.le
    have e0 : len = 0 := by omega
    subst h0 e0
    have ho : olds = [] := List.eq_nil_of_length_eq_zero (by simpa using h.oldsLen)
    subst ho
    exact ⟨Nat.le_refl _, fun h => absurd h (Nat.lt_irrefl _), fun h => absurd h (Nat.lt_irrefl _), by simp, fun j u hu => by simp at hu, fun j hj => by simp at hj⟩
  · have hlt := h.lt h0
    refine ⟨h.le, h.addr, fun _ => by omega, h.oldsLen, fun j u hu => ?_, fun j hj => ?_⟩
    · rw [hb.cell (p := ⟨b, off + j, none⟩) hlt]; exact h.olds j u hu
    · rw [hb.cell (p := ⟨b, off + len * size + j, none⟩) hlt, hb.frozen (p := ⟨b, off + len * size + j, none⟩) hlt]; exact h.spare j hj

/-- One append onto a slice of the call's own, wherever it lies in its block. -/
theorem run_append_came {P : Program} {W : World} {e : TypeId} {size : Nat} {ao : Option Addr} {b off len cap : Nat} {olds : List Value} (hc : Came W size ao b off len cap olds)
    (t tx ty : TypeId) (i : TypeInfo) (z : Value) (bytes : Nat) (ht : P.underlying t = some (.slice e)) (hi : P.info? e = some i) (hz : i.zero = some z) (hsize : i.size = size) (hby : i.bytes = bytes) (hzs : z.cells.size = size)
    (x : Value) (n : Nat) (news : List Value) (hs : Src P size tx x n news W) (h63 : len + n ≤ maxLen) (hbytes : (len + n) * bytes ≤ 140737488355328) (B : Nat) (hB : 0 < cap → B ≤ b) (hBW : B ≤ W.heap.size) :
    ∃ ao' b' off' cap' w', (Builtin.append_ #[t, tx] ty #[.slice ao len cap, x]).run P W = .ok (.slice ao' (len + n) cap') w' ∧ Came w' size ao' b' off' (len + n) cap' (olds ++ news) ∧ (0 < cap' → B ≤ b') ∧ Below B W w' := by
  subst hsize hby
  have hol := hc.oldsLen
  have hnl := hs.newsLen
  have hle := hc.le
  have hlen : (olds ++ news).length = (len + n) * i.size := by rw [List.length_append, hol, hnl, Nat.add_mul]
  have hsmall : len + n ≤ 9223372036854775807 := by simp only [maxLen] at h63; omega
  by_cases hfit : len + n ≤ cap
  · rcases Nat.eq_zero_or_pos cap with h0 | hcap
    · subst h0
      obtain rfl : n = 0 := by omega
      obtain rfl : news = [] := List.eq_nil_of_length_eq_zero (by simpa using hnl)
      exact ⟨ao, b, off, 0, W, run_append_nothing (P := P) W t tx ty e i ht hi ao len 0 hle x hs, by simpa using hc, fun h => absurd h (Nat.lt_irrefl _), Below.refl _ _⟩
    · have hao := hc.addr hcap
      subst hao
      have hrc : (len + n) * i.size ≤ cap * i.size := Nat.mul_le_mul_right _ hfit
      have hsp : ∀ j, j < news.length → j < (cap - len) * i.size := fun j hj => by rw [Nat.sub_mul]; rw [Nat.add_mul] at hrc; omega
      have hrun := run_append_room_src (P := P) W t tx ty e i ht hi b off len cap x n news hs hfit (fun j hj => (hc.spare j (hsp j hj)).1) (fun j hj => (hc.spare j (hsp j hj)).2)
      refine ⟨_, b, off, cap, _, hrun, ⟨hfit, fun _ => rfl, fun _ => ?_, hlen, fun j u hu => ?_, fun j hj => ?_⟩, hB, below_setCells (hB hcap) _ _ _⟩
      · have := (below_setCells (Nat.le_refl b) news (off + len * i.size) W).size; have := hc.lt hcap; omega
      · by_cases hj : j < olds.length
        · rw [List.getElem?_append_left hj] at hu
          rw [World.cell?_setCells_out b news _ W ⟨b, off + j, none⟩ (fun _ _ => .inl (by simp; omega))]
          exact hc.olds j u hu
        · rw [List.getElem?_append_right (by omega)] at hu
          obtain ⟨h1, h2⟩ := List.getElem?_eq_some_iff.1 hu
          have := World.cell?_setCells_in b news (off + len * i.size) W (fun j hj => (hc.spare j (hsp j hj)).1) (j - olds.length) h1
          rw [show off + len * i.size + (j - olds.length) = off + j by omega, h2] at this
          exact this
      · have hjj : n * i.size + j < (cap - len) * i.size := by
          rw [Nat.sub_mul] at hj ⊢
          rw [Nat.add_mul] at hj hrc
          omega
        have h1 := hc.spare (n * i.size + j) hjj
        rw [Nat.add_mul]
        rw [World.cell?_setCells_out b news _ W _ (fun _ _ => .inr (by simp; omega)), World.frozen?_setCells]
        rwa [show off + (len * i.size + n * i.size) + j = off + len * i.size + (n * i.size + j) by omega]
  · have hold : (Builtin.firstCells i.size len (.slice ao len cap)).run P W.drew = .ok olds.toArray W.drew := by
      rcases Nat.eq_zero_or_pos cap with h0 | hcap
      · have e0 : len = 0 := by omega
        subst h0 e0
        have ho : olds = [] := List.eq_nil_of_length_eq_zero (by simpa using hol)
        subst ho
        cases ao with
        | none => exact run_firstCells_none W.drew i.size 0 0 0
        | some a => exact run_firstCells_some W.drew i.size 0 a 0 0 [] (by simp) (fun j v hv => by simp at hv)
      · have hao := hc.addr hcap
        subst hao
        refine run_firstCells_some W.drew i.size len _ len cap olds hol fun j v hv => ?_
        rw [Addr.add_lit]
        exact hc.olds j v hv
    have hrun := run_append_grow_src (P := P) W t tx ty e i z ht hi hz ao len cap olds hold x n news hs (by omega) (by omega) (growslice_fits (by omega) hbytes)
    have hge := grownCap_ge W (len + n) cap e
    have hsz : ((olds ++ news).toArray ++ Builtin.zeroCells z.cells (grownCap W (len + n) cap e - (len + n))).size = grownCap W (len + n) cap e * i.size := by
      rw [Array.size_append, List.size_toArray, hlen, size_zeroCells, hzs, ← Nat.add_mul]
      congr 1
      omega
    have hpl := Plot.new W.drew e ((olds ++ news).toArray ++ Builtin.zeroCells z.cells (grownCap W (len + n) cap e - (len + n)))
    refine ⟨_, W.heap.size, 0, _, _, hrun, ⟨hge, fun _ => rfl, fun _ => by simp, hlen, fun j u hu => ?_, fun j hj => ?_⟩, fun _ => hBW, ((Below.refl _ _).drew).alloc hBW _⟩
    · have h1 := hpl.cell (0 + j)
      have h2 := (List.getElem?_eq_some_iff.1 hu).1
      rw [Nat.zero_add, Array.getElem?_append_left (by simpa using h2), List.getElem?_toArray, hu] at h1
      rw [Nat.zero_add]
      exact h1
    · have h1 := hpl.cell (0 + (len + n) * i.size + j)
      refine ⟨?_, hpl.frozen _⟩
      have hj2 : 0 + (len + n) * i.size + j < grownCap W (len + n) cap e * i.size := by
        rw [Nat.sub_mul] at hj
        omega
      rw [Array.getElem?_eq_getElem (by rw [hsz]; exact hj2)] at h1
      exact Option.isSome_iff_exists.2 ⟨_, h1⟩

/-- The same, as a step of a walk. -/
theorem wpList_append_came {P : Program} {ops : Array Oper} {rest : List Oper} {o : Oper} {a : Act} {Q : Exit → Act → World → Prop} (W : World) (hgd : o.guard = none) (s x : Operand) (t tx : TypeId)
    (ho : o.op = .call { callee := .builtin .append, args := #[s, x], argTypes := #[t, tx] }) {e : TypeId} {size : Nat} {ao : Option Addr} {b off len cap : Nat} {olds : List Value} (hc : Came W size ao b off len cap olds)
    (i : TypeInfo) (z : Value) (bytes : Nat) (ht : P.underlying t = some (.slice e)) (hi : P.info? e = some i) (hz : i.zero = some z) (hsize : i.size = size) (hby : i.bytes = bytes) (hzs : z.cells.size = size)
    (hv : a.eval s = .slice ao len cap) (xv : Value) (n : Nat) (news : List Value) (hx : a.eval x = xv) (hs : Src P size tx xv n news W) (h63 : len + n ≤ maxLen) (hbytes : (len + n) * bytes ≤ 140737488355328) (B : Nat) (hB : 0 < cap → B ≤ b) (hBW : B ≤ W.heap.size)
    (hK : ∀ ao' b' off' cap' w', Came w' size ao' b' off' (len + n) cap' (olds ++ news) → (0 < cap' → B ≤ b') → Below B W w' → wpList P ops Q rest (a.put o.dst (.slice ao' (len + n) cap')) w') : wpList P ops Q (o :: rest) a W := by
  refine wpList_plain hgd fun K hK' => ?_
  obtain ⟨ao', b', off', cap', w', hrun, h1, h2, h3⟩ := run_append_came (P := P) hc t tx o.type i z bytes ht hi hz hsize hby hzs xv n news hs h63 hbytes B hB hBW
  unfold Oper.wp
  simp [execOp, ho, resolve, invoke, builtin, hv, hx, hrun, Result.andThen]
  exact hK' _ _ (hK _ _ _ _ _ h1 h2 h3)

/-- What an append takes out of a slice of terms. -/
theorem Sl.src {P : Program} {W : World} {p : Nat → Prop} {A : Option Addr} {c : Nat} {T : Ts} {tx e' : TypeId} (hk : P.underlying tx = some (.slice e')) (h : Sl W p (.slice A T.length c) T) :
    ∃ news, Src P 4 tx (.slice A T.length c) T.length news W ∧ Cs W p T news := by
  obtain ⟨A', c', e, hle, hs⟩ := h
  simp only [Value.slice.injEq, true_and] at e
  obtain ⟨rfl, rfl⟩ := e
  rcases Nat.eq_zero_or_pos T.length with h0 | h0
  · have e := Ts.nil_of_length h0
    subst e
    refine ⟨[], ?_, rfl⟩
    cases A with
    | none => exact Src.ofNil W hk c
    | some a => exact Src.ofSlice W hk a 0 c [] rfl (fun j u hu => by simp at hu) (fun u hu => by cases hu)
  · obtain ⟨b, o, rfl, hq⟩ := hs h0
    obtain ⟨xs, h1, h2⟩ := hq.cells
    refine ⟨xs, Src.ofSlice W hk _ _ c xs h1.length (fun j u hu => ?_) h1.one, h1⟩
    rw [Addr.add_lit]
    exact h2 j u hu
end Go.Proofs.YtdiophafmokfiaaDoor
