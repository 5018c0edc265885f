/- Steps of the proof. -/
import Derived.Test.YthliapbflkfdiacGreatDoorG12
namespace Go.Proofs.YthliapbflkfdiacGreatDoor
open Go.RowKit
set_option linter.unusedVariables false
set_option linter.unusedSimpArgs false
set_option maxRecDepth 100000
set_option maxHeartbeats 1000000
theorem QaI {s : ByteArray} (l : Str) : s.toList = l ↔ s = ⟨l.toArray⟩ := by
 constructor
 ·intro h; exact QiN.1 (h.trans (Qap l).symm)
 ·intro h; rw [h, Qap]
theorem Quo {s : SS} (hI : QeZ s) (n : Nat) : QeZ ⟨s.B, s.fresh, s.fuel, s.goals, s.ch.drop (s.ch.length - n), s.ev⟩ := by
 have hc := QgX s.ch (s.ch.length - n)
 have h1 := hI.fr
 have h2 := hI.bl
 unfold mu at h1 h2
 exact ⟨hI.bok, hI.gb, hI.ch.drop _, by unfold mu; simp only; omega, by unfold mu; simp only; omega⟩
section
variable {M : List Nat} {w0 : World} {H : List (Nat × Obj)} {F0 F : List (World → Prop)} {b : Nat} {P : List LC} {pA : Option Addr} {pc vars : Nat}
end
section
variable {P : Program} {n : Nat} {e : Env} {w : World} {Q : Exit → Act → World → Prop} {ops : Array Oper} {rest : List Oper} {ty : TypeId} {pos : String} {after : Array Edge} {d : Nat}
variable {M : List Nat} {w0 : World} {H : List (Nat × Obj)} {F : List (World → Prop)} {x y : Operand} {t : TypeId}
theorem QgP {el sz bts k : Nat} (hS : St M w0 H F w) (hx : ev n e x = .int .i64 (k : Nat)) (hy : ev n e y = .int .i64 (k : Nat)) (hT : QC P t = some el) (hi : Qsk P el = some (sz, bts)) (hb : bts * k ≤ 281474976710656) (hk : k ≤ 4611686018427387904) (hd : Nat.blt d n = true)
  (h : ∀ (b : Nat) (w' : World) (cs : List Value), cs.length = k * sz → St M w0 ((b, .cells cs.toArray el) :: H) F w' → Lst P Q ops rest n ((d, .slice (some ⟨b, 0, none⟩) k k) :: e) w') :
  Lst P Q ops (⟨some d, .makeSlice t x y, ty, pos, after, none⟩ :: rest) n e w := by
 obtain ⟨i, z, h2, h3, h4, rfl, rfl⟩ := Qa0 hi
 have hb2 : (i.bytes : Int) * (k : Int) ≤ 281474976710656 := by rw [← Int.natCast_mul]; omega
 have hr := run_make (P := P) w t el i z (Qar hT) h2 h3 .i64 .i64 (k : Int) (k : Int) Ya Ya hb2 Ya
 refine Qa (v := .slice (some ⟨w.heap.size, 0, none⟩) k k) (w' := w.alloc (.cells (madeCells z.cells (k * i.size)) el)) ?_ hd ?_
 ·simp only [execOp, hx, hy, bind, pure]
  rw [Sem.run_bind', hr]
  rfl
 ·have e1 : madeCells z.cells (k * i.size) = (madeCells z.cells (k * i.size)).toList.toArray := by simp
  rw [e1]
  exact h _ _ _ (by rw [Array.length_toList, size_madeCells]) (hS.alloc _)
theorem Qsw (v : Value) (k : Nat) : madeCells #[v] (k * 1) = (List.replicate k v).toArray := by
 apply Array.ext'
 simp only [madeCells, Array.toList_map, Array.toList_range, Nat.mul_one]
 refine List.ext_getElem? fun i => ?_
 rw [List.getElem?_map, List.getElem?_replicate]
 by_cases hi : i < k
 ·rw [List.getElem?_range hi, if_pos hi]
  simp [Nat.mod_one]
 ·rw [List.getElem?_eq_none (by simpa using hi), if_neg hi]; rfl
theorem Qcl {el bts k : Nat} {z : Value} (hS : St M w0 H F w) (hx : ev n e x = .int .i64 (k : Nat)) (hy : ev n e y = .int .i64 (k : Nat)) (hT : QC P t = some el) (hi : Qsk P el = some (1, bts)) (hz : QjB P el = some z) (hz1 : z.cells = #[z]) (hb : bts * k ≤ 281474976710656) (hk : k ≤ 4611686018427387904) (hd : Nat.blt d n = true)
  (h : ∀ (b : Nat) (w' : World), St M w0 ((b, .cells (List.replicate k z).toArray el) :: H) F w' → Lst P Q ops rest n ((d, .slice (some ⟨b, 0, none⟩) k k) :: e) w') :
  Lst P Q ops (⟨some d, .makeSlice t x y, ty, pos, after, none⟩ :: rest) n e w := by
 obtain ⟨i, z', h2, h3, h4, h5, rfl⟩ := Qa0 hi
 obtain rfl : z' = z := by unfold QjB at hz; rw [h2] at hz; simp only [Option.bind_some] at hz; rw [h3] at hz; exact Option.some.inj hz
 have hb2 : (i.bytes : Int) * (k : Int) ≤ 281474976710656 := by rw [← Int.natCast_mul]; omega
 have hr := run_make (P := P) w t el i z' (Qar hT) h2 h3 .i64 .i64 (k : Int) (k : Int) Ya Ya hb2 Ya
 refine Qa (v := .slice (some ⟨w.heap.size, 0, none⟩) k k) (w' := w.alloc (.cells (madeCells z'.cells (k * i.size)) el)) ?_ hd ?_
 ·simp only [execOp, hx, hy, bind, pure]
  rw [Sem.run_bind', hr]
  rfl
 ·rw [h5, hz1, Qsw]
  exact h _ _ (hS.alloc _)
end
theorem QjR {α : Type} (L O O2 O3 H : List α) : (L ++ (O ++ (O2 ++ (O3 ++ H)))).Perm (O3 ++ (L ++ (O ++ (O2 ++ H)))) :=
 ((List.Perm.append_left L ((List.Perm.append_left O (List.perm_append_comm_assoc O2 O3 H)).trans (List.perm_append_comm_assoc O O3 _)))).trans (List.perm_append_comm_assoc L O3 _)
theorem Qfj {α : Type} (L O O2 H : List α) : (L ++ (O ++ (O2 ++ H))).Perm (O2 ++ (L ++ (O ++ H))) :=
 (List.Perm.append_left L (List.perm_append_comm_assoc O O2 H)).trans (List.perm_append_comm_assoc L O2 _)
theorem QfN (B : Bnd) (m v l : Nat) : Qby B (m + 1) v l = (Qjz B 201 ⟨0, v, ⟨#[]⟩, .nil⟩ l).bind fun p => (Qby B m (v + 1) p.2).map fun q => (.cons p.1.k p.1.n p.1.s p.1.ar q.1, q.2) := by
 simp only [Qby]
 cases Qjz B 201 ⟨0, v, ⟨#[]⟩, .nil⟩ l with
 | none => rfl
 | some p =>
  simp only [Option.bind_some]
  cases Qby B m (v + 1) p.2 <;> rfl
theorem Qg7 {B : Bnd} : ∀ (m v l : Nat) (p : Ts × Nat), Qby B m v l = some p → p.1.nodes + p.2 = l ∧ p.1.length = m
 | 0, v, l, p, h => by
  simp only [Qby, Option.some.injEq] at h
  subst h
  exact ⟨by simp [Ts.nodes], rfl⟩
 | m + 1, v, l, p, h => by
  rw [QfN] at h
  cases h1 : Qjz B 201 ⟨0, v, ⟨#[]⟩, .nil⟩ l with
  | none => rw [h1] at h; cases h
  | some q =>
   rw [h1, Option.bind_some] at h
   cases h2 : Qby B m (v + 1) q.2 with
   | none => rw [h2] at h; cases h
   | some x =>
    rw [h2, Option.map_some, Option.some.injEq] at h
    subst h
    have := QlY _ _ _ _ h1
    obtain ⟨i1, i2⟩ := Qg7 m (v + 1) q.2 x h2
    simp only [Ts.nodes, Ts.length]
    omega
section
variable {M : List Nat} {w0 : World} {H : List (Nat × Obj)} {F0 F : List (World → Prop)} {b : Nat} {P : List LC} {pA : Option Addr} {pc vars : Nat}
end
theorem Qcb {s : SS} (h : QeZ s) : ((QaO s).1 = 0 → Inv (QaO s).2 ∧ mu (QaO s).2 < mu s) ∧ (QaO s).2.ev = s.ev ∧ ((QaO s).1 = 0 ∨ (QaO s).1 = 2 ∨ (QaO s).1 = 4) := by
 obtain ⟨h1, h2, h3, _⟩ := QjP (QeB s.ch + 1) s h
 exact ⟨h1, h2, h3⟩
structure Qom (s : SS) (r : Int × SS) : Prop where
 go : r.1 = 0 → Inv r.2 ∧ mu r.2 < mu s
 kind : 0 ≤ r.1 ∧ r.1 ≤ 6 ∧ r.1 ≠ 1
theorem QcK {s : SS} {g : Gl} {rest : List Gl} (hI : Inv s) (hg : s.goals = g :: rest) (hf : s.fuel ≠ 0) : QeZ ⟨s.B, s.fresh, s.fuel - 1, rest, s.ch, s.ev⟩ ∧ s.B.length + 10100 * (mu ⟨s.B, s.fresh, s.fuel - 1, rest, s.ch, s.ev⟩ + 1) ≤ 1000000000 ∧ (∀ g ∈ rest, tgd g.1) ∧ QbW rest g.2 ∧ g.2 ≤ s.ch.length ∧ tgd g.1 ∧ mu ⟨s.B, s.fresh, s.fuel - 1, rest, s.ch, s.ev⟩ + 25 = mu s := by
 have h1 := hI.c.fr
 have h2 := hI.c.bl
 have h3 := hI.gg
 have h4 := hI.og
 rw [hg] at h3 h4
 have hm : mu ⟨s.B, s.fresh, s.fuel - 1, rest, s.ch, s.ev⟩ + 25 = mu s := by unfold mu; simp only; omega
 exact ⟨⟨hI.c.bok, hI.c.gb, hI.c.ch, by simp only; omega, by simp only; omega⟩, by omega, fun x hx => h3 x (.tail _ hx), h4.2, h4.1, h3 g (.head _), hm⟩
theorem QcW {s s0 : SS} (h : QeZ s) (hm : mu s ≤ mu s0) : Qom s0 (QaO s) := by
 obtain ⟨h1, h2, h3⟩ := Qcb h
 exact ⟨fun e => ⟨(h1 e).1, Nat.lt_of_lt_of_le (h1 e).2 hm⟩, by rcases h3 with h | h | h <;> rw [h] <;> decide⟩
theorem Qjr {s s0 : SS} {a t : Tm} (hI : QeZ s) (hsl : s.B.length + 10100 * (mu s + 1) ≤ 1000000000) (ha : tgd a) (ht : tgd t) (hgg : ∀ g ∈ s.goals, tgd g.1) (hog : QbW s.goals s.ch.length) (hm : mu s < mu s0) : Qom s0 (Qa4 a t s) := by
 have hi := Qd0 hI hsl ha ht
 unfold Qa4
 simp only
 split
 ·exact ⟨fun h => (by cases h), by refine ⟨?_, ?_, ?_⟩ <;> simp only <;> decide⟩
 split
 ·exact ⟨fun _ => ⟨⟨hi, hgg, hog⟩, hm⟩, by refine ⟨?_, ?_, ?_⟩ <;> simp only <;> decide⟩
 ·exact QcW hi (Nat.le_of_lt hm)
theorem Ts.at_mem : ∀ {T : Ts} {i : Nat}, i < T.length → T.Mem (T.at_ i)
 | .nil, _, h => by simp [Ts.length] at h
 | .cons k n s a r, 0, _ => .inl rfl
 | .cons k n s a r, i + 1, h => .inr (Ts.at_mem (T := r) (i := i) (by simp only [Ts.length] at h; omega))
theorem Qpe {s s0 : SS} {g : Gl} (hI : QeZ s) (hsl : s.B.length + 10100 * (mu s + 1) ≤ 1000000000) (hg : tgd g.1) (hgo : g.2 ≤ s.ch.length) (hgg : ∀ g ∈ s.goals, tgd g.1) (hog : QbW s.goals g.2) (hb : QaG g.1.s.toList g.1.ar.length = true) (hm : mu s < mu s0) : Qom s0 (QbR g s) := by
 have hog2 := hog.mono hgo
 have hd := Qb6 _ hg
 unfold QbR
 unfold QaG at hb
 split
 ·refine ⟨fun _ => ⟨⟨Quo hI g.2, hgg, ?_⟩, ?_⟩, by refine ⟨?_, ?_, ?_⟩ <;> simp only <;> decide⟩
  ·show QbW s.goals (s.ch.drop (s.ch.length - g.2)).length
   exact hog.mono Yh
  ·have := QgX s.ch (s.ch.length - g.2)
   unfold mu at *; simp only; omega
 rename_i h1
 rw [if_neg h1] at hb
 split
 ·exact ⟨fun _ => ⟨⟨hI, hgg, hog2⟩, hm⟩, by refine ⟨?_, ?_, ?_⟩ <;> simp only <;> decide⟩
 rename_i h2
 rw [if_neg h2] at hb
 split
 ·rename_i h3
  rw [if_neg (by rw [h3]; decide), if_pos h3] at hb
  have hl : g.1.ar.length = 2 := by simpa using hb
  exact Qjr hI hsl (hd _ (Ts.at_mem Ya)) (hd _ (Ts.at_mem Ya)) hgg hog2 hm
 rename_i h3
 split
 ·unfold Qiz
  simp only
  split
  ·exact ⟨fun h => (by cases h), by refine ⟨?_, ?_, ?_⟩ <;> simp only <;> decide⟩
  split
  ·exact QcW hI (Nat.le_of_lt hm)
  ·exact ⟨fun _ => ⟨⟨hI, hgg, hog2⟩, hm⟩, by refine ⟨?_, ?_, ?_⟩ <;> simp only <;> decide⟩
 rename_i h4
 split
 ·rename_i h5
  rw [if_neg (by rw [h5]; decide), if_neg (by rw [h5]; decide), if_neg (by rw [h5]; decide), if_pos h5] at hb
  have hl : g.1.ar.length = 3 := by simpa using hb
  unfold QrV
  simp only
  split
  ·exact ⟨fun h => (by cases h), by refine ⟨?_, ?_, ?_⟩ <;> simp only <;> decide⟩
  split
  ·exact ⟨fun h => (by cases h), by refine ⟨?_, ?_, ?_⟩ <;> simp only <;> decide⟩
  ·rename_i hk hr
   refine Qjr hI hsl (hd _ (Ts.at_mem Ya)) ?_ hgg hog2 hm
   refine ⟨?_, by simp [Ts.nodes]⟩
   simp only [Ts.good, Bool.and_eq_true, and_true]
   unfold Qa1
   rw [if_neg Yg, if_neg Yg, if_pos rfl]
   simp only [Bool.and_eq_true, decide_eq_true_eq]
   exact ⟨⟨⟨by omega, by omega⟩, Qap []⟩, rfl⟩
 ·exact QcW hI (Nat.le_of_lt hm)
theorem QgM {s : SS} {g : Gl} {rest : List Gl} {c : Cl} {cs : List Cl} (hI : Inv s) (hg : s.goals = g :: rest) (hf : s.fuel ≠ 0) (hc : ∀ x ∈ c :: cs, cB x = true) (hl : (c :: cs).length ≤ 24) :
  QeZ ⟨s.B, s.fresh, s.fuel - 1, rest, ⟨g, rest, c :: cs, s.B.length⟩ :: s.ch, s.ev⟩ ∧ mu ⟨s.B, s.fresh, s.fuel - 1, rest, ⟨g, rest, c :: cs, s.B.length⟩ :: s.ch, s.ev⟩ < mu s := by
 obtain ⟨h1, h2, h3, h4, h5, h6, h7⟩ := QcK hI hg hf
 have hm : mu ⟨s.B, s.fresh, s.fuel - 1, rest, ⟨g, rest, c :: cs, s.B.length⟩ :: s.ch, s.ev⟩ < mu s := by
  unfold mu at *; simp only [QeB] at *; omega
 have a1 := hI.c.fr
 have a2 := hI.c.bl
 refine ⟨⟨hI.c.bok, hI.c.gb, ?_, by simp only; omega, by simp only; omega⟩, hm⟩
 exact ⟨Nat.le_refl _, ⟨h5, h4⟩, fun x hx => by
  rcases List.mem_cons.1 hx with rfl | hx
  ·exact h6
  ·exact h3 x hx, by simp, hc, hI.c.ch⟩
theorem QfT {p : List Cl} {vars : Nat} {s : SS} (hI : Inv s) (hev : s.ev.length < 12) (hp : pB p = true) : Qom s (Qaq p vars s) ∧ ((Qaq p vars s).1 = 0 → (Qaq p vars s).2.ev.length < 12) := by
 have hp2 : p.length ≤ 24 ∧ ∀ x ∈ p, cB x = true := by
  unfold pB at hp
  simp only [Bool.and_eq_true, decide_eq_true_eq, List.all_eq_true] at hp
  exact hp
 have hag : ∀ s' : SS, QeZ s' → s'.ev.length < 12 → ((QaO s').1 = 0 → (QaO s').2.ev.length < 12) := fun s' h1 h2 _ => by rw [(Qcb h1).2.1]; exact h2
 have heq : ∀ (s' : SS) (a t : Tm), QeZ s' → s'.B.length + 10100 * (mu s' + 1) ≤ 1000000000 → tgd a → tgd t → s'.ev.length < 12 → ((Qa4 a t s').1 = 0 → (Qa4 a t s').2.ev.length < 12) := fun s' a t h1 h2 h3 h4 h5 => by
  have hi := Qd0 h1 h2 h3 h4
  unfold Qa4
  simp only
  split
  ·intro h; cases h
  split
  ·intro _; exact h5
  ·exact hag _ hi h5
 unfold Qaq
 cases hg : s.goals with
 | nil =>
  simp only
  unfold QbZ
  cases hv : Qby s.B vars 0 200 with
  | none => exact ⟨⟨fun h => (by cases h), by refine ⟨?_, ?_, ?_⟩ <;> simp only <;> decide⟩, fun h => by cases h⟩
  | some x =>
   simp only
   have hi : QeZ ⟨s.B, s.fresh, s.fuel, s.goals, s.ch, s.ev ++ [x.1.tidy]⟩ := ⟨hI.c.bok, hI.c.gb, hI.c.ch, hI.c.fr, hI.c.bl⟩
   split
   ·exact ⟨⟨fun h => (by cases h), by refine ⟨?_, ?_, ?_⟩ <;> simp only <;> decide⟩, fun h => by cases h⟩
   ·rename_i h12
    refine ⟨QcW hi (Nat.le_refl _), hag _ hi ?_⟩
    simp at h12 ⊢; omega
 | cons g rest =>
  simp only
  split
  ·exact ⟨⟨fun h => (by cases h), by refine ⟨?_, ?_, ?_⟩ <;> simp only <;> decide⟩, fun h => by cases h⟩
  rename_i hf
  obtain ⟨h1, h2, h3, h4, h5, h6, h7⟩ := QcK hI hg hf
  split
  ·rename_i hb
   refine ⟨Qpe h1 h2 h6 h5 h3 h4 hb Ya, ?_⟩
   have hd := Qb6 _ h6
   unfold QaG at hb
   unfold QbR
   split
   ·intro _; exact hev
   rename_i k1
   rw [if_neg k1] at hb
   split
   ·intro _; exact hev
   rename_i k2
   rw [if_neg k2] at hb
   split
   ·rename_i k3
    rw [if_neg (by rw [k3]; decide), if_pos k3] at hb
    have hl : g.1.ar.length = 2 := by simpa using hb
    exact heq _ _ _ h1 h2 (hd _ (Ts.at_mem Ya)) (hd _ (Ts.at_mem Ya)) hev
   split
   ·unfold Qiz
    simp only
    split
    ·intro h; cases h
    split
    ·exact hag _ h1 hev
    ·intro _; exact hev
   split
   ·rename_i k5
    rw [if_neg (by rw [k5]; decide), if_neg (by rw [k5]; decide), if_neg (by rw [k5]; decide), if_pos k5] at hb
    have hl : g.1.ar.length = 3 := by simpa using hb
    unfold QrV
    simp only
    split
    ·intro h; cases h
    split
    ·intro h; cases h
    ·refine heq _ _ _ h1 h2 (hd _ (Ts.at_mem Ya)) ?_ hev
     refine ⟨?_, by simp [Ts.nodes]⟩
     simp only [Ts.good, Bool.and_eq_true, and_true]
     unfold Qa1
     rw [if_neg Yg, if_neg Yg, if_pos rfl]
     simp only [Bool.and_eq_true, decide_eq_true_eq]
     exact ⟨⟨⟨by omega, by omega⟩, Qap []⟩, rfl⟩
   ·exact hag _ h1 hev
  ·cases hm : p.filter (QeT g.1) with
   | nil => exact ⟨⟨fun h => (by cases h), by refine ⟨?_, ?_, ?_⟩ <;> simp only <;> decide⟩, fun h => by cases h⟩
   | cons c cs =>
    simp only
    have hsub : ∀ x ∈ c :: cs, cB x = true := fun x hx => hp2.2 x (by rw [← hm] at hx; exact (List.mem_filter.1 hx).1)
    have hlen : (c :: cs).length ≤ 24 := by rw [← hm]; exact Nat.le_trans (List.length_filter_le _ _) hp2.1
    obtain ⟨i1, i2⟩ := QgM hI hg hf hsub hlen
    exact ⟨QcW i1 (Nat.le_of_lt i2), hag _ i1 hev⟩
theorem Qn3 {s : SS} {a t : Tm} (hI : QeZ s) (hsl : s.B.length + 10100 * (mu s + 1) ≤ 1000000000) (ha : tgd a) (ht : tgd t) : (Qa4 a t s).2.ev = s.ev := by
 have hi := Qd0 hI hsl ha ht
 unfold Qa4
 simp only
 split
 ·rfl
 split
 ·rfl
 ·exact (Qcb hi).2.1
theorem QsX {s : SS} {g : Gl} (hI : QeZ s) (hsl : s.B.length + 10100 * (mu s + 1) ≤ 1000000000) (hg : tgd g.1) (hb : QaG g.1.s.toList g.1.ar.length = true) : (QbR g s).2.ev = s.ev := by
 have hd := Qb6 _ hg
 unfold QaG at hb
 unfold QbR
 split
 ·rfl
 rename_i k1
 rw [if_neg k1] at hb
 split
 ·rfl
 rename_i k2
 rw [if_neg k2] at hb
 split
 ·rename_i k3
  rw [if_neg (by rw [k3]; decide), if_pos k3] at hb
  have hl : g.1.ar.length = 2 := by simpa using hb
  exact Qn3 hI hsl (hd _ (Ts.at_mem Ya)) (hd _ (Ts.at_mem Ya))
 split
 ·unfold Qiz
  simp only
  split
  ·rfl
  split
  ·exact (Qcb hI).2.1
  ·rfl
 split
 ·rename_i k5
  rw [if_neg (by rw [k5]; decide), if_neg (by rw [k5]; decide), if_neg (by rw [k5]; decide), if_pos k5] at hb
  have hl : g.1.ar.length = 3 := by simpa using hb
  unfold QrV
  simp only
  split
  ·rfl
  split
  ·rfl
  ·refine Qn3 hI hsl (hd _ (Ts.at_mem Ya)) ?_
   refine ⟨?_, by simp [Ts.nodes]⟩
   simp only [Ts.good, Bool.and_eq_true, and_true]
   unfold Qa1
   rw [if_neg Yg, if_neg Yg, if_pos rfl]
   simp only [Bool.and_eq_true, decide_eq_true_eq]
   exact ⟨⟨⟨by omega, by omega⟩, Qap []⟩, rfl⟩
 ·exact (Qcb hI).2.1
theorem Qe6 (p : List Cl) (vars : Nat) (s : SS) (hI : Inv s) (hp : pB p = true) : (Qaq p vars s).2.ev = s.ev ∨ ∃ T l, Qby s.B vars 0 200 = some (T, l) ∧ (Qaq p vars s).2.ev = s.ev ++ [T.tidy] ∧ ((Qaq p vars s).1 = 6 ↔ s.ev.length + 1 = 12) := by
 have hp2 : p.length ≤ 24 ∧ ∀ x ∈ p, cB x = true := by
  unfold pB at hp
  simp only [Bool.and_eq_true, decide_eq_true_eq, List.all_eq_true] at hp
  exact hp
 unfold Qaq
 cases hg : s.goals with
 | nil =>
  simp only
  unfold QbZ
  cases hv : Qby s.B vars 0 200 with
  | none => exact .inl rfl
  | some x =>
   right
   refine ⟨x.1, x.2, rfl, ?_⟩
   simp only
   have hi : QeZ ⟨s.B, s.fresh, s.fuel, s.goals, s.ch, s.ev ++ [x.1.tidy]⟩ := ⟨hI.c.bok, hI.c.gb, hI.c.ch, hI.c.fr, hI.c.bl⟩
   obtain ⟨a1, a2, a3⟩ := Qcb hi
   split
   ·rename_i h12
    refine ⟨rfl, fun _ => by simpa using h12, fun _ => rfl⟩
   ·rename_i h12
    refine ⟨a2, fun h => ?_, fun h => absurd (by simpa using h) h12⟩
    rcases a3 with e | e | e <;> rw [e] at h <;> cases h
 | cons g rest =>
  simp only
  split
  ·exact .inl rfl
  rename_i hf
  obtain ⟨h1, h2, h3, h4, h5, h6, h7⟩ := QcK hI hg hf
  split
  ·rename_i hb
   exact .inl (QsX h1 h2 h6 hb)
  ·cases hm : p.filter (QeT g.1) with
   | nil => exact .inl rfl
   | cons c cs =>
    simp only
    have hsub : ∀ x ∈ c :: cs, cB x = true := fun x hx => hp2.2 x (by rw [← hm] at hx; exact (List.mem_filter.1 hx).1)
    have hlen : (c :: cs).length ≤ 24 := by rw [← hm]; exact Nat.le_trans (List.length_filter_le _ _) hp2.1
    obtain ⟨i1, i2⟩ := QgM hI hg hf hsub hlen
    exact .inl (Qcb i1).2.1
theorem QpX (p : List Cl) (vars : Nat) (s : SS) (hI : Inv s) (hev : s.ev.length < 12) (hp : pB p = true) : (Qaq p vars s).2.ev.length ≤ 12 := by
 rcases Qe6 p vars s hI hp with h | ⟨T, l, _, h, _⟩
 ·rw [h]; omega
 ·rw [h]; simp; omega
theorem Qe7 {q : Ts} {vars fuel : Nat} (hq : qB vars q = true) (hf : fuel ≤ 150) : Inv (Qbd q vars fuel) ∧ mu (Qbd q vars fuel) ≤ 3750 := by
 simp only [qB, Bool.and_eq_true, decide_eq_true_eq] at hq
 have hv : (vars : Int) ≤ 8 := hq.1.1.2
 refine ⟨⟨⟨trivial, fun x hx => (by cases hx), trivial, by unfold mu Qbd; simp only [QeB]; omega, by unfold mu Qbd; simp only [QeB, List.length_nil]; omega⟩, ?_, ?_⟩, by unfold mu Qbd; simp only [QeB]; omega⟩
 ·exact QmW hv Ya Ya (fun g hg => (by cases hg)) q hq.2
 ·exact Qge (rest := []) trivial q
section
variable {M : List Nat} {w0 : World} {H : List (Nat × Obj)} {F0 : List (World → Prop)} {b : Nat} {P : List LC} {pA : Option Addr} {pc vars : Nat}
end
end Go.Proofs.YthliapbflkfdiacGreatDoor
