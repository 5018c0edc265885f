/- Steps of the proof. -/
import Derived.Test.YthliapbflkfdiacGreatDoorG14
namespace Go.Proofs.YthliapbflkfdiacGreatDoor
open Go.RowKit
set_option linter.unusedVariables false
set_option linter.unusedSimpArgs false
inductive Qco (L : List HC) : Nat → Int → Int → Prop
 | here {a : Int} {c : HC} : hat L a = some c → ¬ (c.k = 0 ∧ c.n ≠ a) → Qco L 0 a a
 | there {n : Nat} {a x : Int} {c : HC} : hat L a = some c → c.k = 0 → c.n ≠ a → Qco L n c.n x → Qco L (n + 1) a x
def End (L : List HC) (a x : Int) : Prop := ∃ n, Qco L n a x
theorem Qco.det {L : List HC} {n m : Nat} {a x y : Int} (h : Qco L n a x) : Qco L m a y → n = m ∧ x = y := by
 induction h generalizing m with
 | here h0 h1 =>
  intro g
  cases g with
  | here g0 g1 => exact ⟨rfl, rfl⟩
  | there g0 g1 g2 _ => rw [h0] at g0; cases g0; exact absurd ⟨g1, g2⟩ h1
 | there h0 h1 h2 _ ih =>
  intro g
  cases g with
  | here g0 g1 => rw [h0] at g0; cases g0; exact absurd ⟨h1, h2⟩ g1
  | there g0 g1 g2 g3 =>
   rw [h0] at g0; cases g0
   obtain ⟨e1, e2⟩ := ih g3
   exact ⟨by omega, e2⟩
theorem End.det {L : List HC} {a x y : Int} (h : End L a x) (g : End L a y) : x = y := by
 obtain ⟨_, h⟩ := h
 obtain ⟨_, g⟩ := g
 exact (h.det g).2
theorem Qco.last {L : List HC} {n : Nat} {a x : Int} (h : Qco L n a x) : ∃ c, hat L x = some c ∧ ¬ (c.k = 0 ∧ c.n ≠ x) := by
 induction h with
 | here h0 h1 => exact ⟨_, h0, h1⟩
 | there _ _ _ _ ih => exact ih
theorem End.last {L : List HC} {a x : Int} (h : End L a x) : ∃ c, hat L x = some c ∧ ¬ (c.k = 0 ∧ c.n ≠ x) := by
 obtain ⟨_, h⟩ := h; exact h.last
theorem End.self {L : List HC} {a x : Int} (h : End L a x) : End L x x := by
 obtain ⟨c, h0, h1⟩ := h.last
 exact ⟨0, .here h0 h1⟩
theorem End.first {L : List HC} {a x : Int} (h : End L a x) : ∃ c, hat L a = some c := by
 obtain ⟨_, h⟩ := h
 cases h with
 | here h0 _ => exact ⟨_, h0⟩
 | there h0 _ _ _ => exact ⟨_, h0⟩
theorem QhF : ∀ (n : Nat) (l : List Nat), l.Nodup → (∀ y ∈ l, y < n) → l.length ≤ n
 | 0, l, _, h => by
  cases l with
  | nil => simp
  | cons y l => exact absurd (h y Yd) Ya
 | n + 1, l, hn, h => by
  by_cases hm : n ∈ l
  ·have h1 := QhF n (l.erase n) (hn.erase n) fun y hy => by
    have h2 := (hn.mem_erase_iff).1 hy
    have h3 := h y h2.2
    have h4 := h2.1
    omega
   rw [List.length_erase_of_mem hm] at h1
   omega
  ·have := QhF n l hn fun y hy => by
    have h3 := h y hy
    have h4 : y ≠ n := fun e => hm (e ▸ hy)
    omega
   omega
theorem Qco.list {L : List HC} {n : Nat} {a x : Int} (h : Qco L n a x) : ∃ l : List Nat, l.length = n + 1 ∧ l.Nodup ∧ (∀ y ∈ l, y < L.length) ∧ ∀ y ∈ l, ∃ j, j ≤ n ∧ Qco L j (y : Int) x := by
 induction h with
 | @here a c h0 h1 =>
  obtain ⟨g0, g1, _⟩ := Qba.1 h0
  refine ⟨[a.toNat], rfl, by simp, fun y hy => ?_, fun y hy => ⟨0, Nat.le_refl _, ?_⟩⟩
  ·simp at hy; omega
  ·simp at hy
   rw [show ((y : Nat) : Int) = a by omega]
   exact .here h0 h1
 | @there n a x c h0 h1 h2 h3 ih =>
  obtain ⟨g0, g1, _⟩ := Qba.1 h0
  obtain ⟨l, l1, l2, l3, l4⟩ := ih
  have ha : ((a.toNat : Nat) : Int) = a := by omega
  refine ⟨a.toNat :: l, by simp [l1], List.nodup_cons.2 ⟨fun hm => ?_, l2⟩, fun y hy => ?_, fun y hy => ?_⟩
  ·obtain ⟨j, hj, he⟩ := l4 _ hm
   rw [ha] at he
   have := (he.det (.there h0 h1 h2 h3)).1
   omega
  ·rcases List.mem_cons.1 hy with rfl | hy
   ·omega
   ·exact l3 y hy
  ·rcases List.mem_cons.1 hy with rfl | hy
   ·rw [ha]; exact ⟨n + 1, Nat.le_refl _, .there h0 h1 h2 h3⟩
   ·obtain ⟨j, hj, he⟩ := l4 y hy
    exact ⟨j, by omega, he⟩
theorem Qco.lt {L : List HC} {n : Nat} {a x : Int} (h : Qco L n a x) : n < L.length := by
 obtain ⟨l, l1, l2, l3, _⟩ := h.list
 have := QhF L.length l l2 l3
 omega
theorem QqX {L : List HC} {n : Nat} {a x : Int} (h : Qco L n a x) : ∀ f, n < f → QaN L f a = x := by
 induction h with
 | here h0 h1 =>
  intro f hf
  obtain ⟨f, rfl⟩ : ∃ g, f = g + 1 := ⟨f - 1, by omega⟩
  simp only [QaN, h0, if_neg h1]
 | there h0 h1 h2 _ ih =>
  intro f hf
  obtain ⟨f, rfl⟩ : ∃ g, f = g + 1 := ⟨f - 1, by omega⟩
  simp only [QaN, h0, if_pos (And.intro h1 h2)]
  exact ih f Ya
theorem Qfy {L : List HC} : ∀ (f : Nat) (a : Int), ¬ QaN L f a < 0 → ∃ n, Qco L n a (QaN L f a)
 | 0, a, h => absurd (show QaN L 0 a < 0 by simp [QaN]) h
 | f + 1, a, h => by
  cases hc : hat L a with
  | none => simp only [QaN, hc] at h; exact absurd Yg h
  | some c =>
   by_cases hb : c.k = 0 ∧ c.n ≠ a
   ·simp only [QaN, hc, if_pos hb] at h ⊢
    obtain ⟨n, hn⟩ := Qfy f c.n h
    exact ⟨n + 1, .there hc hb.1 hb.2 hn⟩
   ·simp only [QaN, hc, if_neg hb]
    exact ⟨0, .here hc hb⟩
theorem End.look {L : List HC} {a x : Int} (h : End L a x) : Qr L a = x := by
 obtain ⟨n, h⟩ := h
 exact QqX h _ h.lt
theorem Qkg {L : List HC} {a : Int} (h : ¬ Qr L a < 0) : End L a (Qr L a) := Qfy _ _ h
theorem End.nonneg {L : List HC} {a x : Int} (h : End L a x) : 0 ≤ x := by
 obtain ⟨c, h0, _⟩ := h.last; exact (Qba.1 h0).1
theorem Qf7 {L : List HC} {a : Int} (h : ¬ ∃ x, End L a x) : Qr L a = -1 := by
 rcases QcS (L := L) L.length a with h1 | ⟨c, h1, _⟩
 ·exact h1
 ·refine absurd ⟨Qr L a, Qkg ?_⟩ h
  have := (Qba.1 h1).1
  unfold Qr; omega
theorem Qb9 {L : List HC} {r : Int} {c : HC} (hr : hat L r = some c) (y a : Int) : hat (Qep L r.toNat y) a = if a = r then some ⟨c.k, y, c.s⟩ else hat L a := by
 obtain ⟨r0, r1, r2⟩ := Qba.1 hr
 unfold hat
 by_cases ha : 0 ≤ a
 ·rw [if_pos ha, if_pos ha, QgI]
  by_cases he : a = r
  ·rw [if_pos he, if_pos (by rw [he]), he, r2]; rfl
  ·rw [if_neg he, if_neg Ya]
 ·rw [if_neg ha, if_neg ha, if_neg Ya]
structure Up (L L' : List HC) : Prop where
 ends : ∀ a x, End L a x → ∃ y, End L' a y ∧ End L' x y
 cell : ∀ a c, hat L a = some c → c.k ≠ 0 → hat L' a = some c
theorem QsS {L : List HC} {r y : Int} {c : HC} (hr : hat L r = some c) (hk : c.k = 0) (hn : c.n = r) (hy : End L y y) (hne : y ≠ r) :
  (∀ a x, End L a x → x ≠ r → End (Qep L r.toNat y) a x) ∧ (∀ a, End L a r → End (Qep L r.toNat y) a y) := by
 have hyy : End (Qep L r.toNat y) y y := by
  obtain ⟨d, d0, d1⟩ := hy.last
  exact ⟨0, .here (by rw [Qb9 hr, if_neg hne]; exact d0) d1⟩
 have key : ∀ n a x, Qco L n a x → End (Qep L r.toNat y) a (if x = r then y else x) := by
  intro n a x h
  induction h with
  | @here a d h0 h1 =>
   by_cases ha : a = r
   ·rw [if_pos ha]
    obtain ⟨m, hm⟩ := hyy
    exact ⟨m + 1, .there (c := ⟨c.k, y, c.s⟩) (by rw [Qb9 hr, if_pos ha]) hk (by rw [ha]; exact hne) hm⟩
   ·rw [if_neg ha]
    exact ⟨0, .here (by rw [Qb9 hr, if_neg ha]; exact h0) h1⟩
  | @there n a x d h0 h1 h2 _ ih =>
   have ha : a ≠ r := fun e => by
    rw [e, hr] at h0; cases h0
    rw [e] at h2; exact h2 hn
   obtain ⟨m, hm⟩ := ih
   exact ⟨m + 1, .there (by rw [Qb9 hr, if_neg ha]; exact h0) h1 h2 hm⟩
 refine ⟨fun a x ⟨n, h⟩ hx => ?_, fun a ⟨n, h⟩ => ?_⟩
 ·have := key n a x h; rwa [if_neg hx] at this
 ·have := key n a r h; rwa [if_pos rfl] at this
def Bis (L : List HC) (R : Int → Int → Prop) : Prop := ∀ a b, R a b → a = b ∨ ∃ x y, End L a x ∧ End L b y ∧ (x = y ∨ ∃ c, hat L x = some c ∧ hat L y = some c ∧ c.k ≠ 0 ∧ ∀ i : Int, 0 ≤ i → i < QI c → R (x + 1 + i) (y + 1 + i))
def Sm (L : List HC) (a b : Int) : Prop := ∃ R, Bis L R ∧ R a b
theorem QsB {u : HU} {a b : Int} (h : ((u.step.look a).2.look b).2.lg = false) :
  u.step.lg = false ∧ (u.step.look a).1 = Qr u.cs a ∧ ((u.step.look a).2.look b).1 = Qr u.cs b ∧ End u.cs a (Qr u.cs a) ∧ End u.cs b (Qr u.cs b) ∧ ((u.step.look a).2.look b).2.cs = u.cs ∧ ((u.step.look a).2.look b).2.tr = u.tr ∧ ((u.step.look a).2.look b).2.w = u.w + 1 := by
 have hwa := Qdm u.step a
 have hwb := Qdm (u.step.look a).2 b
 obtain ⟨hla, hb1, hb2⟩ := QcB h
 obtain ⟨hls, ha1, ha2⟩ := QcB hla
 rw [hwa.2.1] at hb1 hb2
 exact ⟨hls, ha1, hb1, Qkg ha2, Qkg hb2, by rw [hwb.2.1, hwa.2.1]; rfl, by rw [hwb.2.2, hwa.2.2]; rfl, by rw [hwb.1, hwa.1]; rfl⟩
structure One (a b : Int) (u : HU) (v : HU) : Prop where
 up : Up u.cs v.cs
 sm : ∀ L, Up v.cs L → Sm L a b
def ups (x : Int) : Nat → List Int
 | 0 => []
 | m + 1 => x :: ups (x + 1) m
theorem Qmh (x : Int) (m : Nat) : (ups x m).length = m := by
 induction m generalizing x with
 | zero => rfl
 | succ m ih => simp [ups, ih]
def Bd (N : List Int) (L L' : List HC) : Prop := (∀ r ∈ N, 0 ≤ r) ∧ ∀ i : Nat, ((i : Int) ∈ N → ∃ c n, L[i]? = some c ∧ c.k = 0 ∧ c.n = (i : Int) ∧ L'[i]? = some ⟨c.k, n, c.s⟩) ∧ ((i : Int) ∉ N → L'[i]? = L[i]?)
theorem Bd.refl (L : List HC) : Bd [] L L := ⟨fun r h => by simp at h, fun i => ⟨fun h => by simp at h, fun _ => rfl⟩⟩
theorem Bd.trans {N N' : List Int} {L L' L'' : List HC} (h : Bd N L L') (g : Bd N' L' L'') : Bd (N ++ N') L L'' := by
 refine ⟨fun r hr => (List.mem_append.1 hr).elim (h.1 r) (g.1 r), fun i => ⟨fun hi => ?_, fun hi => ?_⟩⟩
 ·by_cases h1 : (i : Int) ∈ N
  ·obtain ⟨c, n, c1, c2, c3, c4⟩ := (h.2 i).1 h1
   by_cases h2 : (i : Int) ∈ N'
   ·obtain ⟨d, m, d1, d2, d3, d4⟩ := (g.2 i).1 h2
    rw [c4] at d1; cases d1
    exact ⟨c, m, c1, c2, c3, d4⟩
   ·rw [← (g.2 i).2 h2] at c4
    exact ⟨c, n, c1, c2, c3, c4⟩
  ·have h2 : (i : Int) ∈ N' := by rcases List.mem_append.1 hi with h | h; exact absurd h h1; exact h
   obtain ⟨d, m, d1, d2, d3, d4⟩ := (g.2 i).1 h2
   rw [(h.2 i).2 h1] at d1
   exact ⟨d, m, d1, d2, d3, d4⟩
 ·rw [(g.2 i).2 (fun h' => hi (List.mem_append_right _ h')), (h.2 i).2 (fun h' => hi (List.mem_append_left _ h'))]
theorem Bd.one {L : List HC} {r y : Int} {c : HC} (hr : hat L r = some c) (hk : c.k = 0) (hn : c.n = r) : Bd [r] L (Qep L r.toNat y) := by
 obtain ⟨r0, r1, r2⟩ := Qba.1 hr
 refine ⟨fun s hs => by simp at hs; omega, fun i => ⟨fun hi => ?_, fun hi => ?_⟩⟩
 ·simp at hi
  have e : r.toNat = i := by omega
  rw [e] at r2 ⊢
  exact ⟨c, y, r2, hk, by omega, by rw [QgI, if_pos rfl, r2]; rfl⟩
 ·simp at hi
  rw [QgI, if_neg Ya]
theorem Qg9 : ∀ (N : List Int) (L : List HC), (∀ r ∈ N, 0 ≤ r) → ∀ i : Nat, (Qbj L N)[i]? = if (i : Int) ∈ N then (L[i]?).map (fun c => ⟨c.k, i, c.s⟩) else L[i]?
 | [], L, _, i => by simp [Qbj]
 | r :: N, L, h, i => by
  have r0 := h r Yd
  unfold Qbj
  rw [Qg9 N _ (fun s hs => h s (.tail _ hs)) i, QgI]
  by_cases e : r.toNat = i
  ·have e2 : (i : Int) = r := by omega
   have hm : (i : Int) ∈ r :: N := by rw [e2]; exact .head _
   rw [if_pos e, if_pos hm]
   by_cases h2 : (i : Int) ∈ N
   ·rw [if_pos h2, Option.map_map]; rfl
   ·rw [if_neg h2, e2]
  ·rw [if_neg e]
   have : (i : Int) ∈ r :: N ↔ (i : Int) ∈ N := by
    simp only [List.mem_cons]
    constructor
    ·rintro (h | h)
     ·omega
     ·exact h
    ·exact .inr
   simp only [this]
theorem Bd.undo {N : List Int} {L L' : List HC} (h : Bd N L L') : Qbj L' N = L := by
 refine List.ext_getElem? fun i => ?_
 rw [Qg9 N L' h.1 i]
 by_cases hi : (i : Int) ∈ N
 ·rw [if_pos hi]
  obtain ⟨c, n, c1, c2, c3, c4⟩ := (h.2 i).1 hi
  rw [c4, c1, Option.map_some, ← c3]
 ·rw [if_neg hi]; exact (h.2 i).2 hi
def Trl (u v : HU) : Prop := ∃ N, v.tr = u.tr ++ N ∧ Bd N u.cs v.cs
theorem Trl.same {u v : HU} (h1 : v.cs = u.cs) (h2 : v.tr = u.tr) : Trl u v := ⟨[], by simp [h2], by rw [h1]; exact Bd.refl _⟩
theorem Trl.trans {u v w : HU} (h : Trl u v) (g : Trl v w) : Trl u w := by
 obtain ⟨N, h1, h2⟩ := h
 obtain ⟨N', g1, g2⟩ := g
 exact ⟨N ++ N', by rw [g1, h1, List.append_assoc], h2.trans g2⟩
theorem Trl.bind {u v : HU} {r y : Int} {c : HC} (hr : hat u.cs r = some c) (hk : c.k = 0) (hn : c.n = r) (h1 : v.cs = Qep u.cs r.toNat y) (h2 : v.tr = u.tr ++ [r]) : Trl u v := ⟨[r], h2, by rw [h1]; exact Bd.one hr hk hn⟩
theorem QrE {n : Nat} {g : Int → Int → HU → Bool × HU} (hu : ∀ x y u, GU n u → u.lg = false → UU n u (g x y u)) (hg : ∀ x y u, GU n u → u.lg = false → Trl u (g x y u).2) :
  ∀ (m : Nat) (x y : Int) (u : HU), GU n u → u.lg = false → Trl u (Qik g m x y u).2
 | 0, x, y, u, h, hl => Trl.same rfl rfl
 | m + 1, x, y, u, h, hl => by
  have h1 := hu x y u h hl
  simp only [Qik]
  split
  ·rename_i hok
   exact (hg x y u h hl).trans (QrE hu hg m (x + 1) (y + 1) _ h1.gu (h1.ok hok))
  ·exact hg x y u h hl
theorem Qru {n : Nat} {u : HU} (h : GU n u) {p q : Int} {x : HC} (hx : hat u.cs p = some x) (hxk : x.k = 0) (hxe : x.n = p) : Trl u (Qm1 p q u).2 := by
 have ho := Qlc (n := n) p 401 q u h.good h.wk
 unfold Qm1
 split
 ·exact Trl.same ho.cs ho.tr
 ·exact Trl.bind hx hxk hxe (by simp only [HU.bind]; rw [ho.cs]) (by simp only [HU.bind]; rw [ho.tr])
theorem QpC {n : Nat} : ∀ (f : Nat) (a b : Int) (u : HU), GU n u → u.lg = false → Trl u (Qcr f a b u).2
 | f, a, b, u, h, hl => by
  have hg2 : GU n ((u.step.look a).2.look b).2 := (h.step.look a).look b
  have hwa := Qdm u.step a
  have hwb := Qdm (u.step.look a).2 b
  have hcs2 : ((u.step.look a).2.look b).2.cs = u.cs := by rw [hwb.2.1, hwa.2.1]; rfl
  have htr2 : ((u.step.look a).2.look b).2.tr = u.tr := by rw [hwb.2.2, hwa.2.2]; rfl
  have hfail : Trl u ((u.step.look a).2.look b).2 := Trl.same hcs2 htr2
  cases f with
  | zero => exact hfail
  | succ f =>
  simp only [Qcr]
  by_cases hl2 : ((u.step.look a).2.look b).2.lg = true
  ·rw [if_pos hl2]; exact hfail
  have hl3 : ((u.step.look a).2.look b).2.lg = false := by simpa using hl2
  rw [if_neg hl2]
  obtain ⟨_, ha, hb, ea, eb, hcs, htr, _⟩ := QsB hl3
  rw [ha, hb]
  obtain ⟨x, hx, hxe⟩ := ea.last
  obtain ⟨y, hy, hye⟩ := eb.last
  generalize Qr u.cs a = p at *
  generalize Qr u.cs b = q at *
  generalize ((u.step.look a).2.look b).2 = v at *
  rw [show Qa2 u.cs p = x.k by unfold Qa2; rw [hx], show Qa2 u.cs q = y.k by unfold Qa2; rw [hy]]
  by_cases hxk : x.k = 0
  ·have hxn : x.n = p := Classical.byContradiction fun e => hxe ⟨hxk, e⟩
   rw [if_pos hxk]
   by_cases hyk : y.k = 0
   ·have hyn : y.n = q := Classical.byContradiction fun e => hye ⟨hyk, e⟩
    rw [if_pos hyk]
    by_cases hpq : p = q
    ·rw [if_pos hpq]; exact hfail
    ·rw [if_neg hpq]
     rcases Int.le_total p q with hle | hle
     ·rw [Int.max_eq_right hle, Int.min_eq_left hle]
      exact Trl.bind hy hyk hyn (by simp only [HU.bind]; rw [hcs]) (by simp only [HU.bind]; rw [htr])
     ·rw [Int.max_eq_left hle, Int.min_eq_right hle]
      exact Trl.bind hx hxk hxn (by simp only [HU.bind]; rw [hcs]) (by simp only [HU.bind]; rw [htr])
   ·rw [if_neg hyk]
    exact hfail.trans (Qru hg2 (by rw [hcs]; exact hx) hxk hxn)
  ·rw [if_neg hxk]
   by_cases hyk : y.k = 0
   ·have hyn : y.n = q := Classical.byContradiction fun e => hye ⟨hyk, e⟩
    rw [if_pos hyk]
    exact hfail.trans (Qru hg2 (by rw [hcs]; exact hy) hyk hyn)
   ·rw [if_neg hyk]
    unfold Qdk
    split
    ·exact hfail.trans (QrE (n := n) (fun x y u => QkJ f x y u) (fun x y u h hl => QpC f x y u h hl) _ _ _ v hg2 hl3)
    ·exact hfail
theorem QsM {h : HH} (hg : QF h = true) : GU h.cs.length ⟨h.cs, h.tr, 0, false⟩ := by
 unfold QF Q4 QbQ at hg
 simp only [Bool.and_eq_true, decide_eq_true_eq] at hg
 exact ⟨rfl, hg.1.2, fun _ => by show (0 : Nat) ≤ 400; omega, by show h.tr.length ≤ 65536 + 0; omega⟩
def Qdp (g : Int → Nat → Option (Tm × Nat)) : Nat → Int → Nat → Option (Ts × Nat)
 | 0, _, l => some (.nil, l)
 | m + 1, a, l => (g a l).bind fun p => (Qdp g m (a + 1) p.2).map fun q => (.cons p.1.k p.1.n p.1.s p.1.ar q.1, q.2)
def Qgh (L : List HC) : Nat → Int → Nat → Option (Tm × Nat)
 | 0, _, _ => none
 | f + 1, a, l => if l = 0 then none else match hat L (Qr L a) with
  | none => none
  | some c => if c.k = 0 then some (⟨0, Qr L a, eS, .nil⟩, l - 1)
   else if c.k = 1 then some (⟨1, 0, c.s, .nil⟩, l - 1)
   else if c.k = 2 then some (⟨2, c.n, eS, .nil⟩, l - 1)
   else (Qdp (Qgh L f) (QI c).toNat (Qr L a + 1) (l - 1)).map fun p => (⟨3, 0, c.s, p.1⟩, p.2)
def Qet : Tm := ⟨0, 0, eS, .nil⟩
def QjT (most : Int) : Nat := (min most 65536).toNat
def Qbg (h : HH) (a most : Int) : Tm × Nat × Int :=
 if QF h = false then (Qet, 0, 1)
 else if Qj h.cs a = false then (Qet, 0, 4)
 else match Qgh h.cs (QjT most) a (QjT most) with
  | none => (Qet, 0, 3)
  | some (t, l) => (t, QjT most - l, 0)
theorem QjJ {L : List HC} {f : Nat} {a : Int} {l : Nat} {c : HC} (hl : l ≠ 0) (hc : hat L (Qr L a) = some c) : Qgh L (f + 1) a l = if c.k = 0 then some (⟨0, Qr L a, eS, .nil⟩, l - 1)
   else if c.k = 1 then some (⟨1, 0, c.s, .nil⟩, l - 1)
   else if c.k = 2 then some (⟨2, c.n, eS, .nil⟩, l - 1)
   else (Qdp (Qgh L f) (QI c).toNat (Qr L a + 1) (l - 1)).map fun p => (⟨3, 0, c.s, p.1⟩, p.2) := by
 simp only [Qgh]; rw [if_neg hl, hc]
theorem QpQ {L : List HC} {f : Nat} {a : Int} {l : Nat} (hc : Qr L a < 0) : Qgh L f a l = none := by
 cases f with
 | zero => rfl
 | succ f =>
  simp only [Qgh]
  split
  ·rfl
  ·rw [show hat L (Qr L a) = none by unfold hat; rw [if_neg Ya]]
theorem QhM {g : Int → Nat → Option (Tm × Nat)} (hg : ∀ a l p, g a l = some p → p.1.ar.nodes + 1 + p.2 = l) : ∀ (m : Nat) (a : Int) (l : Nat) (p : Ts × Nat), Qdp g m a l = some p → p.1.nodes + p.2 = l ∧ p.1.length = m
 | 0, a, l, p, h => by simp only [Qdp, Option.some.injEq] at h; subst h; simp [Ts.nodes, Ts.length]
 | m + 1, a, l, p, h => by
  simp only [Qdp] at h
  cases h1 : g a l with
  | none => rw [h1] at h; simp at h
  | some q =>
   rw [h1, Option.bind_some] at h
   cases h2 : Qdp g m (a + 1) q.2 with
   | none => rw [h2] at h; simp at h
   | some r =>
    rw [h2, Option.map_some, Option.some.injEq] at h
    subst h
    have e1 := hg a l q h1
    obtain ⟨e2, e3⟩ := QhM hg m (a + 1) q.2 r h2
    simp only [Ts.nodes, Ts.length]
    omega
theorem Qd7 {L : List HC} : ∀ (f : Nat) (a : Int) (l : Nat) (p : Tm × Nat), Qgh L f a l = some p → p.1.ar.nodes + 1 + p.2 = l
 | 0, a, l, p, h => by cases h
 | f + 1, a, l, p, h => by
  by_cases hl : l = 0
  ·simp only [Qgh] at h; rw [if_pos hl] at h; cases h
  cases hc : hat L (Qr L a) with
  | none => simp only [Qgh] at h; rw [if_neg hl, hc] at h; cases h
  | some c =>
   rw [QjJ hl hc] at h
   split at h
   ·cases h; simp only [Ts.nodes]; omega
   split at h
   ·cases h; simp only [Ts.nodes]; omega
   split at h
   ·cases h; simp only [Ts.nodes]; omega
   cases h2 : Qdp (Qgh L f) (QI c).toNat (Qr L a + 1) (l - 1) with
   | none => rw [h2] at h; cases h
   | some r =>
    rw [h2, Option.map_some, Option.some.injEq] at h
    subst h
    have := (QhM (fun a l p => Qd7 f a l p) _ _ _ _ h2).1
    show r.1.nodes + 1 + r.2 = l
    omega
inductive Rc (L : List HC) (R : List Int) : Int → Prop
 | root {a : Int} : a ∈ R → Qj L a = true → Rc L R a
 | ref {a : Int} {c : HC} : Rc L R a → hat L a = some c → c.k = 0 → Rc L R c.n
 | arg {a : Int} {c : HC} {i : Int} : Rc L R a → hat L a = some c → 0 ≤ i → i < QI c → Rc L R (a + 1 + i)
theorem Ql {L : List HC} {a : Int} : Qj L a = true ↔ 0 ≤ a ∧ a < L.length := by unfold Qj; simp
theorem Qn0 {n : Nat} : ∀ {L : List HC}, (∀ i c, L[i]? = some c → Q5 n c (L.length - i - 1) = true) → QO n L = true
 | [], _ => rfl
 | x :: r, h => by
  simp only [QO, Bool.and_eq_true]
  refine ⟨by have := h 0 x rfl; simpa using this, Qn0 fun i c hc => ?_⟩
  have := h (i + 1) c (by simpa using hc)
  rw [List.length_cons, show r.length + 1 - (i + 1) - 1 = r.length - i - 1 by omega] at this
  exact this
theorem Qej {n f : Nat} {c : HC} (h : Q5 n c f = true) : 0 ≤ QI c ∧ QI c ≤ f ∧ QI c ≤ 4 := by
 have := QP h
 unfold QI
 split <;> omega
theorem Rc.addr {L : List HC} {R : List Int} (hg : QO L.length L = true) {a : Int} (h : Rc L R a) : Qj L a = true := by
 induction h with
 | root _ h => exact h
 | ref h hc hk ih =>
  have := QgV hg hc hk
  rw [Ql]; exact this
 | arg h hc i0 i1 ih =>
  have h1 := Qba.1 hc
  have h2 := Qej (Qak hg hc)
  rw [Ql]
  omega
def Ql4 (L : List HC) (R : List Int) (M : List Bool) : Prop := M.length = L.length ∧ ∀ i : Nat, i < L.length → (M[i]? = some true ↔ Rc L R (i : Int))
noncomputable def QK (L : List HC) (R : List Int) : List Bool := (List.range L.length).map fun i => @decide (Rc L R ((i : Nat) : Int)) (Classical.propDecidable _)
theorem QhJ (L : List HC) (R : List Int) : Ql4 L R (QK L R) := by
 refine ⟨by simp [QK], fun i hi => ?_⟩
 unfold QK
 rw [List.getElem?_map, List.getElem?_range hi]
 simp
theorem Ql4.eq {L : List HC} {R : List Int} {M : List Bool} (h : Ql4 L R M) : M = QK L R := by
 have g := QhJ L R
 refine List.ext_getElem? fun i => ?_
 by_cases hi : i < L.length
 ·have h1 := h.2 i hi
  have h2 := g.2 i hi
  have e1 : M[i]? = some (M[i]'(by rw [h.1]; exact hi)) := List.getElem?_eq_getElem _
  have e2 : (QK L R)[i]? = some ((QK L R)[i]'(by rw [g.1]; exact hi)) := List.getElem?_eq_getElem _
  rw [e1] at h1
  rw [e2] at h2
  rw [e1, e2]
  congr 1
  have h3 := h1.trans h2.symm
  simp only [Option.some.injEq] at h3
  cases hx : M[i]'(by rw [h.1]; exact hi) <;> cases hy : (QK L R)[i]'(by rw [g.1]; exact hi) <;> simp_all
 ·rw [List.getElem?_eq_none (by rw [h.1]; omega), List.getElem?_eq_none (by rw [g.1]; omega)]
def rk (M : List Bool) (n : Nat) : Nat := (M.take n).count true
abbrev rkI (M : List Bool) (a : Int) : Int := ((rk M a.toNat : Nat) : Int)
theorem Qmv (M : List Bool) : rk M 0 = 0 := by simp [rk]
theorem Qhy {M : List Bool} {n : Nat} {b : Bool} (h : M[n]? = some b) : rk M (n + 1) = rk M n + (if b = true then 1 else 0) := by
 unfold rk
 rw [List.take_add_one, h, List.count_append]
 cases b <;> simp
theorem Qp7 {M : List Bool} {n : Nat} (h : M.length ≤ n) : rk M n = rk M M.length := by unfold rk; rw [List.take_of_length_le h, List.take_of_length_le (Nat.le_refl _)]
theorem Qt2 (M : List Bool) (n : Nat) : rk M n ≤ rk M (n + 1) := by
 by_cases h : n < M.length
 ·rw [Qhy (List.getElem?_eq_getElem h)]; omega
 ·rw [Qp7 (n := n) Ya, Qp7 (n := n + 1) Ya]; exact Nat.le_refl _
theorem Qp5 (M : List Bool) {n m : Nat} (h : n ≤ m) : rk M n ≤ rk M m := by
 induction h with
 | refl => exact Nat.le_refl _
 | step _ ih => exact Nat.le_trans ih (Qt2 M _)
theorem Qt3 {M : List Bool} {n m : Nat} (hn : M[n]? = some true) (h : n < m) : rk M n < rk M m := by
 have h1 := Qhy hn
 have h2 := Qp5 M (show n + 1 ≤ m from h)
 simp at h1
 omega
theorem Qtf {M : List Bool} {n m : Nat} (hn : M[n]? = some true) (hm : M[m]? = some true) (h : rk M n = rk M m) : n = m := by
 rcases Nat.lt_trichotomy n m with h1 | h1 | h1
 ·have := Qt3 hn h1; omega
 ·exact h1
 ·have := Qt3 hm h1; omega
def kept {α : Type} : List α → List Bool → List α
 | x :: r, b :: m => if b = true then x :: kept r m else kept r m
 | _, _ => []
theorem Qj4 {α : Type} : ∀ {L : List α} {M : List Bool} {i : Nat} {x : α}, M[i]? = some true → L[i]? = some x → (kept L M)[rk M i]? = some x
 | [], M, i, x, _, h => by simp at h
 | y :: r, [], i, x, h, _ => by simp at h
 | y :: r, b :: m, 0, x, h, g => by
  simp at h g
  subst h g
  simp [kept, rk]
 | y :: r, b :: m, i + 1, x, h, g => by
  have ih := Qj4 (L := r) (M := m) (i := i) (x := x) (by simpa using h) (by simpa using g)
  have e : rk (b :: m) (i + 1) = rk m i + (if b = true then 1 else 0) := by unfold rk; rw [List.take_succ_cons]; cases b <;> simp
  rw [e]
  cases b
  ·simpa [kept] using ih
  ·simpa [kept] using ih
theorem QnU {α : Type} : ∀ {L : List α} {M : List Bool}, M.length = L.length → (kept L M).length = rk M M.length
 | [], [], _ => rfl
 | [], _ :: _, h => by simp at h
 | _ :: _, [], h => by simp at h
 | y :: r, b :: m, h => by
  have ih := QnU (L := r) (M := m) (by simpa using h)
  have e : rk (b :: m) (m.length + 1) = rk m m.length + (if b = true then 1 else 0) := by unfold rk; rw [List.take_succ_cons]; cases b <;> simp
  rw [List.length_cons, e]
  cases b
  ·simpa [kept] using ih
  ·simpa [kept] using ih
theorem Qj3 {α : Type} : ∀ {L : List α} {M : List Bool} {j : Nat} {x : α}, (kept L M)[j]? = some x → ∃ i, M[i]? = some true ∧ L[i]? = some x ∧ rk M i = j
 | [], M, j, x, h => by simp [kept] at h
 | _ :: _, [], j, x, h => by simp [kept] at h
 | y :: r, b :: m, j, x, h => by
  have e : ∀ i, rk (b :: m) (i + 1) = rk m i + (if b = true then 1 else 0) := fun i => by unfold rk; rw [List.take_succ_cons]; cases b <;> simp
  cases b
  ·obtain ⟨i, h1, h2, h3⟩ := Qj3 (L := r) (M := m) (j := j) (x := x) (by simpa [kept] using h)
   exact ⟨i + 1, by simpa using h1, by simpa using h2, by rw [e]; simpa using h3⟩
  ·cases j with
   | zero => exact ⟨0, rfl, by simpa [kept] using h, Qmv _⟩
   | succ j =>
    obtain ⟨i, h1, h2, h3⟩ := Qj3 (L := r) (M := m) (j := j) (x := x) (by simpa [kept] using h)
    exact ⟨i + 1, by simpa using h1, by simpa using h2, by rw [e]; simp; omega⟩
def QbV (M : List Bool) (c : HC) : HC := if c.k = 0 then ⟨c.k, rkI M c.n, c.s⟩ else c
def Qs (M : List Bool) (a : Int) : Bool := decide (M[a.toNat]? = some true)
def Qa5 (M : List Bool) (L : List HC) : List HC := (kept L M).map (QbV M)
def Qbv (M : List Bool) (T : List Int) : List Int := (kept T (T.map (Qs M))).map (rkI M)
noncomputable def Qbs (h : HH) (R T K : List Int) : HH × List Int × List Int × List Int × Int :=
 if QF h = false then (h, [], [], [], 1)
 else if R.all (Qj h.cs) = false then (h, [], [], [], 4)
 else (⟨Qa5 (QK h.cs R) h.cs, Qbv (QK h.cs R) h.tr⟩, R.map (rkI (QK h.cs R)), T.map (rkI (QK h.cs R)), K.map (rkI (h.tr.map (Qs (QK h.cs R)))), 0)
structure Cx (h : HH) (R : List Int) (M : List Bool) : Prop where
 good : QF h = true
 mks : Ql4 h.cs R M
section
variable {h : HH} {R : List Int} {M : List Bool}
theorem Cx.gl (C : Cx h R M) : QO h.cs.length h.cs = true := by
 have := C.good
 unfold QF Q4 at this
 simp only [Bool.and_eq_true] at this
 exact this.1.2
theorem Cx.rc (C : Cx h R M) {a : Int} (ha : Rc h.cs R a) : 0 ≤ a ∧ a < h.cs.length ∧ M[a.toNat]? = some true := by
 have h1 := Ql.1 (ha.addr C.gl)
 refine ⟨h1.1, h1.2, (C.mks.2 a.toNat Ya).2 ?_⟩
 rw [show ((a.toNat : Nat) : Int) = a by omega]; exact ha
theorem Cx.mark (C : Cx h R M) {i : Nat} (hi : M[i]? = some true) : i < h.cs.length ∧ Rc h.cs R (i : Int) := by
 have hl : i < h.cs.length := by
  rw [← C.mks.1]
  rcases Nat.lt_or_ge i M.length with g | g
  ·exact g
  ·rw [List.getElem?_eq_none g] at hi; cases hi
 exact ⟨hl, (C.mks.2 i hl).1 hi⟩
theorem Cx.len (C : Cx h R M) : (Qa5 M h.cs).length = rk M M.length := by unfold Qa5; rw [List.length_map, QnU C.mks.1]
theorem Cx.cell (C : Cx h R M) {a : Int} {c : HC} (ha : Rc h.cs R a) (hc : hat h.cs a = some c) : hat (Qa5 M h.cs) (rkI M a) = some (QbV M c) := by
 obtain ⟨a0, a1, am⟩ := C.rc ha
 unfold hat
 rw [if_pos (by simp only [rkI]; omega), show (rkI M a).toNat = rk M a.toNat from rfl]
 unfold Qa5
 rw [List.getElem?_map, Qj4 am (Qba.1 hc).2.2]
 rfl
theorem Cx.lt (C : Cx h R M) {a : Int} (ha : Rc h.cs R a) : rk M a.toNat < (Qa5 M h.cs).length := by
 obtain ⟨a0, a1, am⟩ := C.rc ha
 rw [C.len]
 exact Qt3 am (by rw [C.mks.1]; omega)
theorem Cx.back (C : Cx h R M) {j : Nat} {d : HC} (hj : (Qa5 M h.cs)[j]? = some d) : ∃ (i : Nat) (c : HC), Rc h.cs R (i : Int) ∧ hat h.cs (i : Int) = some c ∧ d = QbV M c ∧ rk M i = j := by
 unfold Qa5 at hj
 rw [List.getElem?_map] at hj
 cases hk : (kept h.cs M)[j]? with
 | none => rw [hk] at hj; cases hj
 | some c =>
  rw [hk, Option.map_some, Option.some.injEq] at hj
  obtain ⟨i, h1, h2, h3⟩ := Qj3 hk
  obtain ⟨hi, hr⟩ := C.mark h1
  exact ⟨i, c, hr, by unfold hat; rw [if_pos Ya]; exact h2, hj.symm, h3⟩
theorem Cx.args (C : Cx h R M) {a : Int} {c : HC} (ha : Rc h.cs R a) (hc : hat h.cs a = some c) : ∀ i : Nat, (i : Int) < QI c + 1 → rk M (a.toNat + i) = rk M a.toNat + i
 | 0, _ => rfl
 | i + 1, hi => by
  have ih := C.args ha hc i Ya
  have am : M[a.toNat + i]? = some true := by
   cases i with
   | zero => exact (C.rc ha).2.2
   | succ i =>
    have h1 := C.rc (Rc.arg (i := (i : Int)) ha hc Ya Ya)
    rw [show (a + 1 + (i : Int)).toNat = a.toNat + (i + 1) by have := (C.rc ha).1; omega] at h1
    exact h1.2.2
  rw [show a.toNat + (i + 1) = (a.toNat + i) + 1 by omega, Qhy am, ih]
  simp
  omega
theorem Cx.arg (C : Cx h R M) {a : Int} {c : HC} (ha : Rc h.cs R a) (hc : hat h.cs a = some c) {i : Int} (i0 : 0 ≤ i) (i1 : i < QI c) : rkI M (a + 1 + i) = rkI M a + 1 + i := by
 have := C.args ha hc (i.toNat + 1) Ya
 have a0 := (C.rc ha).1
 show ((rk M (a + 1 + i).toNat : Nat) : Int) = ((rk M a.toNat : Nat) : Int) + 1 + i
 rw [show (a + 1 + i).toNat = a.toNat + (i.toNat + 1) by omega, this]
 omega
theorem QoJ (M : List Bool) (c : HC) : QI (QbV M c) = QI c := by
 unfold QbV QI
 by_cases h : c.k = 0
 ·rw [if_pos h]; simp [h]
 ·rw [if_neg h]
theorem QfY (M : List Bool) (c : HC) : (QbV M c).k = c.k := by
 unfold QbV; split <;> rfl
theorem Qp8 (M : List Bool) (c : HC) : (QbV M c).s = c.s := by
 unfold QbV; split <;> rfl
theorem QpN {h : HH} (hg : QF h = true) {a : Int} (ha : a ∈ h.tr) : ∃ c, hat h.cs a = some c ∧ c.k = 0 := by
 unfold QF QbQ at hg
 simp only [Bool.and_eq_true, List.all_eq_true] at hg
 have := hg.2.2 a ha
 unfold Qax at this
 split at this
 ·rename_i c hc; exact ⟨c, hc, by simpa using this⟩
 ·cases this
theorem Qao {M : List Bool} {a : Int} : Qs M a = true ↔ M[a.toNat]? = some true := by unfold Qs; simp
theorem QsI {α : Type} {f : α → Bool} {T : List α} {x : α} : x ∈ kept T (T.map f) ↔ x ∈ T ∧ f x = true := by
 induction T with
 | nil => simp [kept]
 | cons y T ih =>
  simp only [List.map_cons, kept]
  cases hf : f y
  ·simp only [Bool.false_eq_true, if_false, ih, List.mem_cons]
   constructor
   ·rintro ⟨h1, h2⟩; exact ⟨.inr h1, h2⟩
   ·rintro ⟨rfl | h1, h2⟩
    ·rw [hf] at h2; cases h2
    ·exact ⟨h1, h2⟩
  ·simp only [if_true, List.mem_cons, ih]
   constructor
   ·rintro (rfl | ⟨h1, h2⟩)
    ·exact ⟨.inl rfl, hf⟩
    ·exact ⟨.inr h1, h2⟩
   ·rintro ⟨rfl | h1, h2⟩
    ·exact .inl rfl
    ·exact .inr ⟨h1, h2⟩
theorem Cx.kept_good (C : Cx h R M) : QF ⟨Qa5 M h.cs, Qbv M h.tr⟩ = true := by
 have hg := C.good
 have hgl := C.gl
 have hlen : (Qa5 M h.cs).length ≤ h.cs.length := by
  rw [C.len]; unfold rk; rw [← C.mks.1]
  exact Nat.le_trans List.count_le_length Yd
 have hs : h.cs.length ≤ 65536 ∧ h.tr.length ≤ 65536 := by
  unfold QF Q4 QbQ at hg
  simp only [Bool.and_eq_true, decide_eq_true_eq] at hg
  exact ⟨hg.1.1, hg.2.1⟩
 have hkl : ∀ {α : Type} (T : List α) (m : List Bool), (kept T m).length ≤ T.length := by
  intro α T
  induction T with
  | nil => intro m; simp [kept]
  | cons y T ih =>
   intro m
   cases m with
   | nil => simp [kept]
   | cons b m =>
    simp only [kept]
    have := ih m
    split <;> simp <;> omega
 unfold QF Q4 QbQ
 simp only [Bool.and_eq_true, decide_eq_true_eq, List.all_eq_true]
 refine ⟨⟨by omega, Qn0 fun j d hd => ?_⟩, ?_, fun x hx => ?_⟩
 ·obtain ⟨i, c, hr, hc, rfl, hj⟩ := C.back hd
  have hgc := Qak hgl hc
  have hq := QP hgc
  have hlt := C.lt hr
  rw [show ((i : Nat) : Int).toNat = i by omega] at hlt
  unfold Q5
  rw [QfY, Qp8]
  rcases hq with ⟨k, n0, n1, s0⟩ | ⟨k, n0, s0⟩ | ⟨k, s0⟩ | ⟨k, n0, n1, n2, s0⟩
  ·have hrn := C.lt (Rc.ref hr hc k)
   rw [if_pos k]
   unfold QbV
   rw [if_pos k]
   simp only [Bool.and_eq_true, decide_eq_true_eq]
   exact ⟨by simp only [rkI]; omega, by simp only [rkI]; omega, s0⟩
  ·rw [if_neg Ya, if_pos k]
   unfold QbV
   rw [if_neg Ya]
   simp [n0, s0]
  ·rw [if_neg Ya, if_neg Ya, if_pos k]
   simp [s0]
  ·have hA : QI c = c.n := by unfold QI; rw [if_pos k]
   have h1 := C.lt (Rc.arg (i := c.n - 1) hr hc Ya Ya)
   have h2 := C.args hr hc c.n.toNat Ya
   rw [show ((i : Int) + 1 + (c.n - 1)).toNat = ((i : Nat) : Int).toNat + c.n.toNat by omega, h2] at h1
   rw [if_neg Ya, if_neg Ya, if_neg Ya, if_pos k]
   unfold QbV
   rw [if_neg Ya]
   simp only [Bool.and_eq_true, decide_eq_true_eq, Bool.not_eq_true', decide_eq_false_iff_not]
   rw [show ((i : Nat) : Int).toNat = i by omega] at h1
   exact ⟨n0, n1, by omega, s0⟩
 ·unfold Qbv; rw [List.length_map]; have := hkl h.tr (h.tr.map (Qs M)); omega
 ·unfold Qbv at hx
  obtain ⟨a, ha, rfl⟩ := List.mem_map.1 hx
  obtain ⟨h1, h2⟩ := QsI.1 ha
  obtain ⟨c, c1, c2⟩ := QpN hg h1
  have hm := C.mark (Qao.1 h2)
  rw [show ((a.toNat : Nat) : Int) = a by have := (Qba.1 c1).1; omega] at hm
  unfold Qax
  rw [C.cell hm.2 c1]
  dsimp only
  rw [QfY, c2]; rfl
end
def ctl (c : HC) : Int := if c.k = 3 then 0 else c.n
def Q1 (h : HH) (a : Int) : Vw Int := match hat h.cs (Qr h.cs a) with
 | none => .var (-1)
 | some c => if c.k = 0 then .var (Qr h.cs a) else .node c.k (ctl c) c.s (ups (Qr h.cs a + 1) (QI c).toNat)
section
variable {σ : HH}
structure HOk (h : HH) : Prop where
 gl : QO h.cs.length h.cs = true
 ends : ∀ a, Qj h.cs a = true → ∃ x, End h.cs a x
 tr : ∀ a ∈ h.tr, Qax h.cs a = true
def Qj7 (h : HH) (r y : Int) : HH := ⟨Qep h.cs r.toNat y, h.tr ++ [r]⟩
def QeY : Sy where
 X := Int
 S := HH
 ok := HOk
 dom := fun h a => Qj h.cs a = true
 view := Q1
 bind := fun h v t => Qj7 h v (Qr h.cs t)
 join := fun h a b => Qj7 h (max (Qr h.cs a) (Qr h.cs b)) (min (Qr h.cs a) (Qr h.cs b))
theorem QgR (h : HH) (r y : Int) : (Qj7 h r y).cs.length = h.cs.length := QbE _ _ _
theorem Qig {h : HH} {r y a : Int} : Qj (Qj7 h r y).cs a = Qj h.cs a := by unfold Qj; rw [QgR]
theorem Qai {h : HH} {a x : Int} {c : HC} (he : End h.cs a x) (hc : hat h.cs x = some c) : Q1 h a = if c.k = 0 then .var x else .node c.k (ctl c) c.s (ups (x + 1) (QI c).toNat) := by
 unfold Q1; rw [he.look, hc]
theorem HOk.view (h : HOk σ) {a : Int} (ha : Qj σ.cs a = true) : ∃ x c, End σ.cs a x ∧ hat σ.cs x = some c ∧ (c.k = 0 → c.n = x) ∧ Q1 σ a = if c.k = 0 then .var x else .node c.k (ctl c) c.s (ups (x + 1) (QI c).toNat) := by
 obtain ⟨x, hx⟩ := h.ends a ha
 obtain ⟨c, c1, c2⟩ := hx.last
 refine ⟨x, c, hx, c1, fun hk => ?_, Qai hx c1⟩
 by_cases e : c.n = x
 ·exact e
 ·exact absurd ⟨hk, e⟩ c2
theorem HOk.var (h : HOk σ) {a v : Int} (ha : Qj σ.cs a = true) (hv : Q1 σ a = .var v) : End σ.cs a v ∧ ∃ c, hat σ.cs v = some c ∧ c.k = 0 ∧ c.n = v := by
 obtain ⟨x, c, h1, h2, h3, h4⟩ := h.view ha
 rw [h4] at hv
 split at hv
 ·rename_i hk; cases hv; exact ⟨h1, c, h2, hk, h3 hk⟩
 ·cases hv
theorem HOk.node (h : HOk σ) {a k n : Int} {s : ByteArray} {ar : List Int} (ha : Qj σ.cs a = true) (hv : Q1 σ a = .node k n s ar) : ∃ x c, End σ.cs a x ∧ hat σ.cs x = some c ∧ c.k ≠ 0 ∧ k = c.k ∧ n = ctl c ∧ s = c.s ∧ ar = ups (x + 1) (QI c).toNat := by
 obtain ⟨x, c, h1, h2, h3, h4⟩ := h.view ha
 rw [h4] at hv
 split at hv
 ·cases hv
 ·rename_i hk; cases hv; exact ⟨x, c, h1, h2, hk, rfl, rfl, rfl, rfl⟩
theorem Qem {L : List HC} {a : Int} : Qj L a = true ↔ ∃ c, hat L a = some c := by
 rw [Ql]
 constructor
 ·rintro ⟨h0, h1⟩; exact Qtp h0 h1
 ·rintro ⟨c, hc⟩; exact ⟨(Qba.1 hc).1, (Qba.1 hc).2.1⟩
theorem QmM {L : List HC} {r y a : Int} {c : HC} (hr : hat L r = some c) (hk : c.k = 0) (h : Qax L a = true) : Qax (Qep L r.toNat y) a = true := by
 unfold Qax at h ⊢
 rw [Qb9 hr]
 by_cases e : a = r
 ·rw [if_pos e]; simpa using hk
 ·rw [if_neg e]; exact h
theorem HOk.set (h : HOk σ) {r y : Int} {c : HC} (hr : hat σ.cs r = some c) (hk : c.k = 0) (hn : c.n = r) (hy : End σ.cs y y) (hne : y ≠ r) :
  HOk (Qj7 σ r y) ∧ ∀ a, Qj σ.cs a = true → Q1 (Qj7 σ r y) a = (Q1 σ a).sub r (Q1 σ y) := by
 obtain ⟨e1, e2⟩ := QsS hr hk hn hy hne
 obtain ⟨d, hd, _⟩ := hy.last
 have hyl := Qba.1 hd
 refine ⟨⟨?_, fun a ha => ?_, fun a ha => ?_⟩, fun a ha => ?_⟩
 ·rw [QgR]
  refine Qfa hyl.1 hyl.2.1 h.gl fun c' hc' => ?_
  rw [(Qba.1 hr).2.2] at hc'; cases hc'; exact hk
 ·rw [Qig] at ha
  obtain ⟨x, hx⟩ := h.ends a ha
  by_cases hxr : x = r
  ·subst hxr; exact ⟨y, e2 a hx⟩
  ·exact ⟨x, e1 a x hx hxr⟩
 ·rcases List.mem_append.1 ha with ha | ha
  ·exact QmM hr hk (h.tr a ha)
  ·rw [List.mem_singleton.1 ha]
   unfold Qax
   rw [show hat (Qj7 σ r y).cs r = some ⟨c.k, y, c.s⟩ by show hat (Qep σ.cs r.toNat y) r = _; rw [Qb9 hr, if_pos rfl]]
   simpa using hk
 ·obtain ⟨x, c', h1, h2, h3, h4⟩ := h.view ha
  by_cases hxr : x = r
  ·subst hxr
   rw [h2] at hr; cases hr
   rw [h4, if_pos hk]
   simp only [Vw.sub, if_true]
   rw [Qai (e2 a h1) (c := d) (by show hat (Qep σ.cs _ y) y = _; rw [Qb9 h2, if_neg hne]; exact hd), Qai hy hd]
  ·rw [h4, Qai (e1 a x h1 hxr) (c := c') (by show hat (Qep σ.cs _ y) x = _; rw [Qb9 hr, if_neg hxr]; exact h2)]
   split
   ·simp only [Vw.sub]; rw [if_neg hxr]
   ·rfl
theorem Qkb {x t v k n : Int} {s : ByteArray} {ar : List Int} (hσ : HOk σ) (hx : Qj σ.cs x = true) (ht : Qj σ.cs t = true) (hv : Q1 σ x = .var v) (htv : Q1 σ t = .node k n s ar) : HOk (Qj7 σ v (Qr σ.cs t)) ∧ ∀ y, Qj σ.cs y = true → Q1 (Qj7 σ v (Qr σ.cs t)) y = (Q1 σ y).sub v (Q1 σ t) := by
 obtain ⟨_, c, c1, c2, c3⟩ := hσ.var hx hv
 obtain ⟨z, d, d1, d2, d3, _⟩ := hσ.node ht htv
 have := hσ.set c1 c2 c3 d1.self fun e => by subst e; rw [c1] at d2; cases d2; exact d3 c2
 rw [d1.look]
 refine ⟨this.1, fun y hy => ?_⟩
 rw [this.2 y hy, Qai d1 d2, Qai d1.self d2]
theorem Qj8 {a b u v : Int} (hσ : HOk σ) (ha : Qj σ.cs a = true) (hb : Qj σ.cs b = true) (hu : Q1 σ a = .var u) (hv : Q1 σ b = .var v) (hne : u ≠ v) :
  HOk (Qj7 σ (max (Qr σ.cs a) (Qr σ.cs b)) (min (Qr σ.cs a) (Qr σ.cs b))) ∧
  ((∀ y, Qj σ.cs y = true → Q1 (Qj7 σ (max (Qr σ.cs a) (Qr σ.cs b)) (min (Qr σ.cs a) (Qr σ.cs b))) y = (Q1 σ y).sub u (.var v)) ∨ (∀ y, Qj σ.cs y = true → Q1 (Qj7 σ (max (Qr σ.cs a) (Qr σ.cs b)) (min (Qr σ.cs a) (Qr σ.cs b))) y = (Q1 σ y).sub v (.var u))) := by
 obtain ⟨u1, c, c1, c2, c3⟩ := hσ.var ha hu
 obtain ⟨v1, d, d1, d2, d3⟩ := hσ.var hb hv
 have hvu : Q1 σ u = .var u := by rw [Qai u1.self c1, if_pos c2]
 have hvv : Q1 σ v = .var v := by rw [Qai v1.self d1, if_pos d2]
 rw [u1.look, v1.look]
 rcases Int.lt_or_lt_of_ne hne with hl | hl
 ·rw [show max u v = v by omega, show min u v = u by omega]
  have := hσ.set d1 d2 d3 u1.self hne
  exact ⟨this.1, .inr fun y hy => by rw [this.2 y hy, hvu]⟩
 ·rw [show max u v = u by omega, show min u v = v by omega]
  have := hσ.set c1 c2 c3 v1.self (Ne.symm hne)
  exact ⟨this.1, .inl fun y hy => by rw [this.2 y hy, hvv]⟩
end
theorem Qsc : QeY.Law where
 bind_ok := fun hσ hx ht hv htv => (Qkb hσ hx ht hv htv).1
 bind_dom := fun hy => Qig.trans hy
 bind_view := fun hσ hx ht hv htv hy => (Qkb hσ hx ht hv htv).2 _ hy
 join_ok := fun hσ ha hb hu hv hne => (Qj8 hσ ha hb hu hv hne).1
 join_dom := fun hy => Qig.trans hy
 join_view := fun hσ ha hb hu hv hne => (Qj8 hσ ha hb hu hv hne).2
theorem QgY {L : List HC} (hg : QO L.length L = true) {x : Int} {c : HC} (hc : hat L x = some c) : (∀ i : Int, 0 ≤ i → i < QI c → Qj L (x + 1 + i) = true) ∧ 0 ≤ QI c := by
 have h1 := Qba.1 hc
 have h2 := Qej (Qak hg hc)
 exact ⟨fun i i0 i1 => by rw [Ql]; omega, h2.1⟩
def toU (h : HH) (w : Nat) : HU := ⟨h.cs, h.tr, w, decide (400 < w)⟩
theorem QgF (h : HH) (w : Nat) : (toU h w).step = toU h (w + 1) := by
 unfold toU HU.step
 simp only [HU.mk.injEq, true_and]
 by_cases h1 : 400 < w
 ·simp [h1, show 400 < w + 1 by omega]
 ·simp [h1]
theorem Qd6 {h : HH} (ho : HOk h) {a : Int} (ha : Qj h.cs a = true) (w : Nat) : (toU h w).look a = (if 400 < w then -1 else Qr h.cs a, toU h w) := by
 obtain ⟨x, hx⟩ := ho.ends a ha
 have h0 := hx.nonneg
 unfold HU.look toU
 by_cases hw : 400 < w
 ·simp [hw]
 ·simp only [decide_eq_true_eq, hw, if_false, hx.look]
  simp [show ¬ x < 0 by omega]
section
variable {A : Sy}
theorem Qqn {σ : A.S} {v : Int} {f : Nat} {x : A.X} {w : Nat} (h : 400 < w + 1) : QgA A σ v (f + 1) x w = (false, w + 1) := by simp only [QgA]; rw [if_pos h]
theorem Qsr {σ : A.S} {v u : Int} {f : Nat} {x : A.X} {w : Nat} (h : ¬ 400 < w + 1) (e : A.view σ x = .var u) : QgA A σ v (f + 1) x w = (decide (u = v), w + 1) := by simp only [QgA]; rw [if_neg h, e]
theorem Qqo {σ : A.S} {v k n : Int} {s : ByteArray} {ar : List A.X} {f : Nat} {x : A.X} {w : Nat} (h : ¬ 400 < w + 1) (e : A.view σ x = .node k n s ar) : QgA A σ v (f + 1) x w = Qpu (QgA A σ v f) ar (w + 1) := by simp only [QgA]; rw [if_neg h, e]
theorem Qqm {σ : A.S} {v : Int} (f : Nat) {x y : A.X} (w : Nat) (e : A.view σ x = A.view σ y) : QgA A σ v f x w = QgA A σ v f y w := by
 cases f with
 | zero => rfl
 | succ f => simp only [QgA]; rw [e]
theorem QpI {σ : A.S} {f : Nat} {a b : A.X} {w : Nat} (h : 400 < w + 1) : QfP A (f + 1) a b σ w = ⟨false, σ, w + 1⟩ := by simp only [QfP]; rw [if_pos h]
theorem QpH {σ : A.S} {f : Nat} {a b : A.X} {w : Nat} {u : Int} (h : ¬ 400 < w + 1) (e1 : A.view σ a = .var u) (e2 : A.view σ b = .var u) : QfP A (f + 1) a b σ w = ⟨true, σ, w + 1⟩ := by simp only [QfP]; rw [if_neg h, e1, e2]; dsimp only; rw [if_pos rfl]
theorem QpJ {σ : A.S} {f : Nat} {a b : A.X} {w : Nat} {u v : Int} (h : ¬ 400 < w + 1) (e1 : A.view σ a = .var u) (e2 : A.view σ b = .var v) (hne : u ≠ v) : QfP A (f + 1) a b σ w = ⟨true, A.join σ a b, w + 1⟩ := by simp only [QfP]; rw [if_neg h, e1, e2]; dsimp only; rw [if_neg hne]
theorem QtQ {σ : A.S} {f : Nat} {a b : A.X} {w : Nat} {u k n : Int} {s : ByteArray} {ar : List A.X} (h : ¬ 400 < w + 1) (e1 : A.view σ a = .var u) (e2 : A.view σ b = .node k n s ar) : QfP A (f + 1) a b σ w = Qpt A u b σ (w + 1) := by simp only [QfP]; rw [if_neg h, e1, e2]
theorem QtR {σ : A.S} {f : Nat} {a b : A.X} {w : Nat} {v k n : Int} {s : ByteArray} {ar : List A.X} (h : ¬ 400 < w + 1) (e1 : A.view σ a = .node k n s ar) (e2 : A.view σ b = .var v) : QfP A (f + 1) a b σ w = Qpt A v a σ (w + 1) := by simp only [QfP]; rw [if_neg h, e1, e2]
theorem QtT {σ : A.S} {f : Nat} {a b : A.X} {w : Nat} {k n k' n' : Int} {s s' : ByteArray} {ar ar' : List A.X} (h : ¬ 400 < w + 1) (e1 : A.view σ a = .node k n s ar) (e2 : A.view σ b = .node k' n' s' ar') (he : k = k' ∧ n = n' ∧ s = s' ∧ ar.length = ar'.length) : QfP A (f + 1) a b σ w = Ql1 (QfP A f) ar ar' σ (w + 1) := by simp only [QfP]; rw [if_neg h, e1, e2]; dsimp only; rw [if_pos he]
theorem QtS {σ : A.S} {f : Nat} {a b : A.X} {w : Nat} {k n k' n' : Int} {s s' : ByteArray} {ar ar' : List A.X} (h : ¬ 400 < w + 1) (e1 : A.view σ a = .node k n s ar) (e2 : A.view σ b = .node k' n' s' ar') (he : ¬ (k = k' ∧ n = n' ∧ s = s' ∧ ar.length = ar'.length)) : QfP A (f + 1) a b σ w = ⟨false, σ, w + 1⟩ := by simp only [QfP]; rw [if_neg h, e1, e2]; dsimp only; rw [if_neg he]
theorem QlZ {σ : A.S} {f : Nat} {x : A.X} : Qgx A σ (f + 1) x 0 = none := by simp [Qgx]
theorem QgZ {σ : A.S} {f : Nat} {x : A.X} {l : Nat} {u : Int} (h : l ≠ 0) (e : A.view σ x = .var u) : Qgx A σ (f + 1) x l = some (⟨0, u, ⟨#[]⟩, .nil⟩, l - 1) := by simp only [Qgx]; rw [if_neg h, e]
theorem QfE {σ : A.S} {f : Nat} {x : A.X} {l : Nat} {k n : Int} {s : ByteArray} {ar : List A.X} (h : l ≠ 0) (e : A.view σ x = .node k n s ar) : Qgx A σ (f + 1) x l = (Qer (Qgx A σ f) ar (l - 1)).map fun p => (⟨k, n, s, p.1⟩, p.2) := by
 simp only [Qgx]; rw [if_neg h, e]
 dsimp only
 cases Qer (Qgx A σ f) ar (l - 1) <;> rfl
end
def Qfk (σ : HH) (v : Int) (f : Nat) (x : Int) (w : Nat) : Bool × Nat := QgA QeY σ v f x w
def QlV (v t : Int) (σ : HH) (w : Nat) : Ug HH := Qpt QeY v t σ w
def Qdz (f : Nat) (a b : Int) (σ : HH) (w : Nat) : Ug HH := QfP QeY f a b σ w
def Qie (σ : HH) (f : Nat) (x : Int) (l : Nat) : Option (Tm × Nat) := Qgx QeY σ f x l
theorem Qoc (v t : Int) (σ : HH) (w : Nat) : QlV v t σ w = if (Qfk σ v 401 t w).1 = true ∨ 400 < (Qfk σ v 401 t w).2 then ⟨false, σ, (Qfk σ v 401 t w).2⟩ else ⟨true, Qj7 σ v (Qr σ.cs t), (Qfk σ v 401 t w).2⟩ := rfl
theorem QrC {h : HH} {g : Int → HU → Bool × HU} {g' : Int → Nat → Bool × Nat} (hg : ∀ x w, Qj h.cs x = true → g x (toU h w) = ((g' x w).1, toU h (g' x w).2)) : ∀ (m : Nat) (x : Int) (w : Nat), (∀ i : Int, 0 ≤ i → i < m → Qj h.cs (x + i) = true) → Qkt g m x (toU h w) = ((Qpu g' (ups x m) w).1, toU h (Qpu g' (ups x m) w).2)
 | 0, x, w, _ => rfl
 | m + 1, x, w, hd => by
  have h0 := hd 0 Ya Ya
  rw [show x + 0 = x by omega] at h0
  simp only [Qkt, ups, Qpu]
  rw [hg x w h0]
  dsimp only
  by_cases hc : (g' x w).1 = true
  ·rw [if_pos hc, if_pos hc, hc]
  ·rw [if_neg hc, if_neg hc]
   exact QrC hg m (x + 1) _ fun i i0 i1 => by rw [show x + 1 + i = x + (i + 1) by omega]; exact hd _ Ya Ya
theorem Qql {h : HH} (ho : HOk h) {v : Int} {c : HC} (hv : hat h.cs v = some c) (hk : c.k = 0) : ∀ (f : Nat) (b : Int) (w : Nat), Qj h.cs b = true → Qcp v f b (toU h w) = ((Qfk h v f b w).1, toU h (Qfk h v f b w).2)
 | 0, b, w, hb => by
  simp only [Qcp]
  rw [QgF, Qd6 ho hb]; rfl
 | f + 1, b, w, hb => by
  obtain ⟨x, d, h1, h2, h3, h4⟩ := ho.view hb
  simp only [Qcp]
  rw [QgF, Qd6 ho hb]
  dsimp only
  by_cases hw : 400 < w + 1
  ·rw [if_pos (show (toU h (w + 1)).lg = true by simp [toU, hw]), show Qfk h v (f + 1) b w = (false, w + 1) from Qqn (A := QeY) hw]
  ·rw [if_neg (show ¬ (toU h (w + 1)).lg = true by simp [toU]; omega), if_neg hw, h1.look]
   have ha : Qaz (toU h w).cs x = (QI d).toNat := by show Qaz h.cs x = _; unfold Qaz; rw [h2]
   by_cases hdk : d.k = 0
   ·rw [show Qfk h v (f + 1) b w = (decide (x = v), w + 1) from Qsr (A := QeY) hw (h4.trans (if_pos hdk))]
    by_cases e : v = x
    ·rw [if_pos e]; simp [e]
    ·rw [if_neg e, ha, show (QI d).toNat = 0 by unfold QI; rw [if_neg Ya]; rfl]
     simp only [Qkt]
     rw [decide_eq_false (fun e2 : x = v => e e2.symm)]
   ·have e : v ≠ x := fun e => by subst e; rw [hv] at h2; cases h2; exact hdk hk
    rw [show Qfk h v (f + 1) b w = Qpu (Qfk h v f) (ups (x + 1) (QI d).toNat) (w + 1) from Qqo (A := QeY) hw (h4.trans (if_neg hdk)), if_neg e, ha]
    obtain ⟨g1, g2⟩ := QgY ho.gl h2
    exact QrC (fun x w hx => Qql ho hv hk f x w hx) _ _ _ fun i i0 i1 => g1 i i0 Ya
theorem Qqk {h : HH} (ho : HOk h) {v b : Int} (hb : Qj h.cs b = true) (f w : Nat) : Qfk h v f (Qr h.cs b) w = Qfk h v f b w := by
 obtain ⟨x, d, h1, h2, h3, h4⟩ := ho.view hb
 refine Qqm (A := QeY) f w ?_
 show Q1 h (Qr h.cs b) = Q1 h b
 rw [h1.look]
 exact (Qai h1.self h2).trans h4.symm
theorem Qrw {h : HH} (ho : HOk h) {v t : Int} {c : HC} (hv : hat h.cs v = some c) (hk : c.k = 0) (ht : Qj h.cs t = true) (w : Nat) :
  Qm1 v (Qr h.cs t) (toU h w) = ((QlV v t h w).ok, toU (QlV v t h w).s (QlV v t h w).w) := by
 obtain ⟨y, hy⟩ := ho.ends t ht
 have hya : Qj h.cs (Qr h.cs t) = true := by rw [hy.look]; obtain ⟨d, hd, _⟩ := hy.last; exact Qem.2 ⟨d, hd⟩
 rw [Qoc]
 unfold Qm1
 rw [Qql ho hv hk 401 _ w hya, Qqk ho ht]
 dsimp only
 by_cases hc : (Qfk h v 401 t w).1 = true ∨ 400 < (Qfk h v 401 t w).2
 ·rw [if_pos hc, if_pos (by simpa [toU] using hc)]
 ·rw [if_neg hc, if_neg (by simpa [toU] using hc)]
  rfl
theorem QrG {g : Int → Int → HU → Bool × HU} {g' : Int → Int → HH → Nat → Ug HH} (n : Nat) (hg : ∀ x y σ w, HOk σ → σ.cs.length = n → Qj σ.cs x = true → Qj σ.cs y = true → g x y (toU σ w) = ((g' x y σ w).ok, toU (g' x y σ w).s (g' x y σ w).w) ∧ HOk (g' x y σ w).s ∧ (g' x y σ w).s.cs.length = n) :
  ∀ (m : Nat) (x y : Int) (σ : HH) (w : Nat), HOk σ → σ.cs.length = n → (∀ i : Int, 0 ≤ i → i < m → 0 ≤ x + i ∧ x + i < n ∧ 0 ≤ y + i ∧ y + i < n) → Qik g m x y (toU σ w) = ((Ql1 g' (ups x m) (ups y m) σ w).ok, toU (Ql1 g' (ups x m) (ups y m) σ w).s (Ql1 g' (ups x m) (ups y m) σ w).w) ∧ HOk (Ql1 g' (ups x m) (ups y m) σ w).s ∧ (Ql1 g' (ups x m) (ups y m) σ w).s.cs.length = n
 | 0, x, y, σ, w, ho, hn, _ => ⟨rfl, ho, hn⟩
 | m + 1, x, y, σ, w, ho, hn, hd => by
  obtain ⟨d0, d1, d2, d3⟩ := hd 0 Ya Ya
  obtain ⟨e1, e2, e3⟩ := hg x y σ w ho hn (by rw [Ql]; omega) (by rw [Ql]; omega)
  simp only [Qik, ups, Ql1]
  rw [e1]
  dsimp only
  split
  ·exact QrG n hg m (x + 1) (y + 1) _ _ e2 e3 fun i i0 i1 => by
    have := hd (i + 1) Ya Ya
    omega
  ·exact ⟨rfl, e2, e3⟩
theorem Qry {h : HH} (ho : HOk h) {v t a : Int} (ha : Qj h.cs a = true) (hv : Q1 h a = .var v) (ht : Qj h.cs t = true) {k n : Int} {s : ByteArray} {ar : List Int} (htv : Q1 h t = .node k n s ar) (w : Nat) : HOk (QlV v t h w).s ∧ (QlV v t h w).s.cs.length = h.cs.length := by
 rw [Qoc]
 split
 ·exact ⟨ho, rfl⟩
 ·exact ⟨(Qkb ho ha ht hv htv).1, QgR _ _ _⟩
theorem QpE : ∀ (f : Nat) (a b : Int) (σ : HH) (w : Nat), HOk σ → Qj σ.cs a = true → Qj σ.cs b = true →
  Qcr f a b (toU σ w) = ((Qdz f a b σ w).ok, toU (Qdz f a b σ w).s (Qdz f a b σ w).w) ∧ HOk (Qdz f a b σ w).s ∧ (Qdz f a b σ w).s.cs.length = σ.cs.length
 | 0, a, b, σ, w, ho, ha, hb => by
  refine ⟨?_, ho, rfl⟩
  simp only [Qcr]
  rw [QgF, Qd6 ho ha, Qd6 ho hb]; rfl
 | f + 1, a, b, σ, w, ho, ha, hb => by
  obtain ⟨x, c, h1, h2, h3, h4⟩ := ho.view ha
  obtain ⟨y, d, g1, g2, g3, g4⟩ := ho.view hb
  have hun : Qcr (f + 1) a b (toU σ w) = if 400 < w + 1 then (false, toU σ (w + 1)) else if c.k = 0 then if d.k = 0 then if x = y then (true, toU σ (w + 1)) else (true, (toU σ (w + 1)).bind (max x y) (min x y)) else Qm1 x y (toU σ (w + 1)) else if d.k = 0 then Qm1 y x (toU σ (w + 1)) else Qdk (Qcr f) x y (toU σ (w + 1)) := by
   have kx : Qa2 (toU σ w).cs x = c.k := by show Qa2 σ.cs x = _; unfold Qa2; rw [h2]
   have ky : Qa2 (toU σ w).cs y = d.k := by show Qa2 σ.cs y = _; unfold Qa2; rw [g2]
   simp only [Qcr]
   rw [QgF, Qd6 ho ha]
   dsimp only
   rw [Qd6 ho hb]
   dsimp only
   by_cases hw : 400 < w + 1
   ·rw [if_pos (show (toU σ (w + 1)).lg = true by simp [toU, hw]), if_pos hw]
   ·rw [if_neg (show ¬ (toU σ (w + 1)).lg = true by simp [toU]; omega), if_neg hw, if_neg hw, if_neg hw, h1.look, g1.look, kx, ky]
  rw [hun]
  by_cases hw : 400 < w + 1
  ·rw [if_pos hw, show Qdz (f + 1) a b σ w = ⟨false, σ, w + 1⟩ from QpI (A := QeY) hw]
   exact ⟨rfl, ho, rfl⟩
  rw [if_neg hw]
  by_cases hc : c.k = 0
  ·have va : Q1 σ a = .var x := h4.trans (if_pos hc)
   rw [if_pos hc]
   by_cases hd : d.k = 0
   ·have vb : Q1 σ b = .var y := g4.trans (if_pos hd)
    rw [if_pos hd]
    by_cases e : x = y
    ·subst e
     rw [if_pos rfl, show Qdz (f + 1) a b σ w = ⟨true, σ, w + 1⟩ from QpH (A := QeY) hw va vb]
     exact ⟨rfl, ho, rfl⟩
    ·rw [if_neg e, show Qdz (f + 1) a b σ w = ⟨true, Qj7 σ (max (Qr σ.cs a) (Qr σ.cs b)) (min (Qr σ.cs a) (Qr σ.cs b)), w + 1⟩ from QpJ (A := QeY) hw va vb e]
     have := (Qj8 ho ha hb va vb e).1
     rw [h1.look, g1.look] at this ⊢
     exact ⟨rfl, this, QgR _ _ _⟩
   ·have vb := g4.trans (if_neg hd)
    rw [if_neg hd, show Qdz (f + 1) a b σ w = QlV x b σ (w + 1) from QtQ (A := QeY) hw va vb]
    refine ⟨?_, Qry ho ha va hb vb _⟩
    have := Qrw (c := c) ho h2 hc hb (w + 1)
    rw [g1.look] at this; exact this
  ·have va := h4.trans (if_neg hc)
   rw [if_neg hc]
   by_cases hd : d.k = 0
   ·have vb : Q1 σ b = .var y := g4.trans (if_pos hd)
    rw [if_pos hd, show Qdz (f + 1) a b σ w = QlV y a σ (w + 1) from QtR (A := QeY) hw va vb]
    refine ⟨?_, Qry ho hb vb ha va _⟩
    have := Qrw (c := d) ho g2 hd ha (w + 1)
    rw [h1.look] at this; exact this
   ·have vb := g4.trans (if_neg hd)
    rw [if_neg hd]
    obtain ⟨a1, a2⟩ := QgY ho.gl h2
    obtain ⟨b1, b2⟩ := QgY ho.gl g2
    have hgc := QP (Qak ho.gl h2)
    have hgd := QP (Qak ho.gl g2)
    have hiff : (c.k = d.k ∧ ctl c = ctl d ∧ c.s = d.s ∧ (ups (x + 1) (QI c).toNat).length = (ups (y + 1) (QI d).toNat).length) ↔ c = d := by
     rw [Qmh, Qmh]
     clear va vb h4 g4 h1 g1 h2 g2 h3 g3 a1 b1 hun
     obtain ⟨ck, cn, cs⟩ := c
     obtain ⟨dk, dn, ds⟩ := d
     simp only [HC.mk.injEq, ctl, QI] at *
     constructor
     ·rintro ⟨e1, e2, e3, e4⟩
      subst e1
      refine ⟨rfl, ?_, e3⟩
      split at e4 <;> simp_all <;> omega
     ·rintro ⟨rfl, rfl, rfl⟩
      exact ⟨rfl, rfl, rfl, rfl⟩
    unfold Qdk
    by_cases hcd : c = d
    ·have he : hat (toU σ (w + 1)).cs x = hat (toU σ (w + 1)).cs y := by show hat σ.cs x = hat σ.cs y; rw [h2, g2, hcd]
     rw [if_pos he, show Qdz (f + 1) a b σ w = Ql1 (Qdz f) (ups (x + 1) (QI c).toNat) (ups (y + 1) (QI d).toNat) σ (w + 1) from QtT (A := QeY) hw va vb (hiff.2 hcd)]
     have hargs : Qaz (toU σ (w + 1)).cs x = (QI c).toNat := by show Qaz σ.cs x = _; unfold Qaz; rw [h2]
     rw [hargs, ← hcd]
     rw [← hcd] at b1 b2
     exact QrG σ.cs.length (fun p q τ w' hτ hn hp hq => by
      obtain ⟨i1, i2, i3⟩ := QpE f p q τ w' hτ hp hq
      exact ⟨i1, i2, i3.trans hn⟩) _ _ _ _ _ ho rfl fun i i0 i1 => by
       have p1 := Ql.1 (a1 i i0 Ya)
       have p2 := Ql.1 (b1 i i0 Ya)
       omega
    ·have he : ¬ hat (toU σ (w + 1)).cs x = hat (toU σ (w + 1)).cs y := by
      show ¬ hat σ.cs x = hat σ.cs y
      rw [h2, g2]; exact fun e => hcd (Option.some.inj e)
     rw [if_neg he, show Qdz (f + 1) a b σ w = ⟨false, σ, w + 1⟩ from QtS (A := QeY) hw va vb fun h => hcd (hiff.1 h)]
     exact ⟨rfl, ho, rfl⟩
theorem QnN {h : HH} {g g' : Int → Nat → Option (Tm × Nat)} (hg : ∀ x l, Qj h.cs x = true → g x l = g' x l) : ∀ (m : Nat) (x : Int) (l : Nat), (∀ i : Int, 0 ≤ i → i < m → Qj h.cs (x + i) = true) → Qdp g m x l = Qer g' (ups x m) l
 | 0, x, l, _ => rfl
 | m + 1, x, l, hd => by
  have h0 := hd 0 Ya Ya
  rw [show x + 0 = x by omega] at h0
  simp only [Qdp, ups, Qer]
  rw [hg x l h0]
  cases g' x l with
  | none => rfl
  | some p =>
   obtain ⟨t, l'⟩ := p
   simp only [Option.bind_some]
   rw [QnN hg m (x + 1) l' fun i i0 i1 => by rw [show x + 1 + i = x + (i + 1) by omega]; exact hd _ Ya Ya]
   cases Qer g' (ups (x + 1) m) l' <;> rfl
theorem Qtc {h : HH} (ho : HOk h) : ∀ (f : Nat) (a : Int) (l : Nat), Qj h.cs a = true → Qgh h.cs f a l = Qie h f a l
 | 0, a, l, _ => rfl
 | f + 1, a, l, ha => by
  by_cases hl : l = 0
  ·subst hl
   rw [show Qie h (f + 1) a 0 = none from QlZ (A := QeY)]
   simp [Qgh]
  obtain ⟨x, c, h1, h2, h3, h4⟩ := ho.view ha
  rw [QjJ hl (by rw [h1.look]; exact h2), h1.look]
  have hgc := QP (Qak ho.gl h2)
  by_cases hk : c.k = 0
  ·rw [if_pos hk]
   exact (QgZ (A := QeY) hl (h4.trans (if_pos hk))).symm
  have hv := h4.trans (if_neg hk)
  rw [if_neg hk, show Qie h (f + 1) a l = (Qer (Qie h f) (ups (x + 1) (QI c).toNat) (l - 1)).map fun p => (⟨c.k, ctl c, c.s, p.1⟩, p.2) from QfE (A := QeY) hl hv]
  by_cases k1 : c.k = 1
  ·rw [if_pos k1]
   have e1 : QI c = 0 := by unfold QI; rw [if_neg Ya]
   have e2 : ctl c = 0 := by unfold ctl; rw [if_neg Ya]; omega
   simp only [e1, e2, k1, Int.toNat_zero, ups, Qer, Option.map_some]
  by_cases k2 : c.k = 2
  ·rw [if_neg k1, if_pos k2]
   have e1 : QI c = 0 := by unfold QI; rw [if_neg Ya]
   have e2 : ctl c = c.n := by unfold ctl; rw [if_neg Ya]
   have e3 : c.s = eS := by
    rcases hgc with h | h | h | h
    ·omega
    ·omega
    ·exact h.2
    ·omega
   simp only [e1, e2, k2, e3, Int.toNat_zero, ups, Qer, Option.map_some]
  rw [if_neg k1, if_neg k2]
  have k3 : c.k = 3 := by omega
  have e2 : ctl c = 0 := by unfold ctl; rw [if_pos k3]
  obtain ⟨g1, g2⟩ := QgY ho.gl h2
  rw [QnN (fun y l hy => Qtc ho f y l hy) _ _ _ fun i i0 i1 => g1 i i0 Ya, e2, k3]
def Qdj (k n : Int) (s : ByteArray) : HC := if k = 0 then ⟨0, n, eS⟩ else if k = 2 then ⟨2, n, eS⟩ else ⟨1, 0, s⟩
def Qbx : Ts → Nat → List HC × List HC
 | .nil, _ => ([], [])
 | .cons k n s ar r, p =>
  if k = 3 then
   (⟨0, (p : Nat), eS⟩ :: (Qbx r (p + (((Qbx ar (p + 1 + ar.length)).1 ++ (Qbx ar (p + 1 + ar.length)).2).length + 1))).1,
     (⟨3, (ar.length : Nat), s⟩ :: ((Qbx ar (p + 1 + ar.length)).1 ++ (Qbx ar (p + 1 + ar.length)).2)) ++ (Qbx r (p + (((Qbx ar (p + 1 + ar.length)).1 ++ (Qbx ar (p + 1 + ar.length)).2).length + 1))).2)
  else (Qdj k n s :: (Qbx r p).1, (Qbx r p).2)
def Qls (s : ByteArray) (ar : Ts) (p : Nat) : List HC := ⟨3, (ar.length : Nat), s⟩ :: ((Qbx ar (p + 1 + ar.length)).1 ++ (Qbx ar (p + 1 + ar.length)).2)
def Qb2 (k n : Int) (s : ByteArray) (ar : Ts) (p : Nat) : List HC := if k = 3 then Qls s ar p else [Qdj k n s]
def QaC : Ts → Nat → List HC × List Int
 | .nil, _ => ([], [])
 | .cons k n s ar r, p => (Qb2 k n s ar p ++ (QaC r (p + (Qb2 k n s ar p).length)).1, (p : Nat) :: (QaC r (p + (Qb2 k n s ar p).length)).2)
def Qcz : Nat → Nat → List HC
 | 0, _ => []
 | m + 1, i => ⟨0, (i : Nat), eS⟩ :: Qcz m (i + 1)
def QbT (n : Nat) : List HC := Qcz n 0
theorem Qdy : ∀ m i, (Qcz m i).length = m
 | 0, _ => rfl
 | m + 1, i => by simp [Qcz, Qdy m (i + 1)]
theorem Qab (n : Nat) : (QbT n).length = n := Qdy n 0
theorem QkF : ∀ m i j, j < m → (Qcz m i)[j]? = some ⟨0, ((i + j : Nat) : Int), eS⟩
 | 0, _, _, h => by omega
 | m + 1, i, 0, h => by simp [Qcz]
 | m + 1, i, j + 1, h => by
  have := QkF m (i + 1) j Ya
  rw [show i + (j + 1) = i + 1 + j by omega]
  simpa [Qcz] using this
theorem QpB {n j : Nat} (h : j < n) : (QbT n)[j]? = some ⟨0, (j : Nat), eS⟩ := by
 have := QkF n 0 j h
 rwa [Nat.zero_add] at this
theorem QiK : ∀ m i, Qcz (m + 1) i = Qcz m i ++ [⟨0, ((i + m : Nat) : Int), eS⟩]
 | 0, i => by simp [Qcz]
 | m + 1, i => by
  rw [Qcz, QiK m (i + 1), Qcz]
  rw [show i + 1 + m = i + (m + 1) by omega]; rfl
theorem Qcm (n : Int) (s : ByteArray) (ar r : Ts) (p : Nat) : Qbx (.cons 3 n s ar r) p = (⟨0, (p : Nat), eS⟩ :: (Qbx r (p + (Qls s ar p).length)).1, Qls s ar p ++ (Qbx r (p + (Qls s ar p).length)).2) := by
 rw [Qbx, if_pos rfl]; rfl
theorem Qbp {k : Int} (n : Int) (s : ByteArray) (ar r : Ts) (p : Nat) (h : k ≠ 3) : Qbx (.cons k n s ar r) p = (Qdj k n s :: (Qbx r p).1, (Qbx r p).2) := by
 rw [Qbx, if_neg h]
theorem Qb8 (T : Ts) : ∀ p, (Qbx T p).1.length = T.length := by
 induction T with
 | nil => intro p; rfl
 | cons k n s ar r _ ih =>
  intro p
  by_cases h : k = 3
  ·subst h; rw [Qcm]; simp [Ts.length, ih]
  ·rw [Qbp _ _ _ _ _ h]; simp [Ts.length, ih]
theorem Qeg (s : ByteArray) (ar : Ts) (p : Nat) : (Qls s ar p).length = 1 + ar.length + (Qbx ar (p + 1 + ar.length)).2.length := by
 simp only [Qls, List.length_cons, List.length_append, Qb8]; omega
theorem QnS (D R : Ts) : ∀ p, Qbx (D.app R) p = ((Qbx D p).1 ++ (Qbx R (p + (Qbx D p).2.length)).1, (Qbx D p).2 ++ (Qbx R (p + (Qbx D p).2.length)).2) := by
 induction D with
 | nil => intro p; simp [Ts.app, Qbx]
 | cons k n s ar r _ ih =>
  intro p
  by_cases h : k = 3
  ·subst h
   rw [Ts.app, Qcm, Qcm, ih]
   simp only [List.length_append, List.cons_append, List.append_assoc, Nat.add_assoc]
  ·rw [Ts.app, Qbp _ _ _ _ _ h, Qbp _ _ _ _ _ h, ih]
   simp only [List.cons_append]
theorem QqQ (T : Ts) : ∀ p, (Qbx T p).2.length + T.length ≤ 2 * T.nodes := by
 induction T with
 | nil => intro p; simp [Qbx, Ts.length, Ts.nodes]
 | cons k n s ar r iha ihr =>
  intro p
  by_cases h : k = 3
  ·subst h
   rw [Qcm]
   have h1 := iha (p + 1 + ar.length)
   have h2 := ihr (p + (Qls s ar p).length)
   have h3 := Qeg s ar p
   simp only [List.length_append, Ts.length, Ts.nodes]; omega
  ·rw [Qbp _ _ _ _ _ h]
   have h2 := ihr p
   simp only [Ts.length, Ts.nodes]; omega
theorem QmI (k n : Int) (s : ByteArray) (ar : Ts) (p : Nat) : (Qb2 k n s ar p).length ≤ 1 + 2 * ar.nodes := by
 unfold Qb2
 split
 ·have := QqQ ar (p + 1 + ar.length)
  rw [Qeg]; omega
 ·simp
theorem QnR (D R : Ts) : ∀ p, QaC (D.app R) p = ((QaC D p).1 ++ (QaC R (p + (QaC D p).1.length)).1, (QaC D p).2 ++ (QaC R (p + (QaC D p).1.length)).2) := by
 induction D with
 | nil => intro p; simp [Ts.app, QaC]
 | cons k n s ar r _ ih =>
  intro p
  simp only [Ts.app, QaC, ih, List.length_append, List.cons_append, List.append_assoc, Nat.add_assoc]
theorem Qj2 (T : Ts) : ∀ p, (QaC T p).1.length ≤ 2 * T.nodes := by
 induction T with
 | nil => intro p; simp [QaC]
 | cons k n s ar r iha ihr =>
  intro p
  have h1 := QmI k n s ar p
  have h2 := ihr (p + (Qb2 k n s ar p).length)
  simp only [QaC, List.length_append, Ts.nodes]; omega
theorem Qj1 (T : Ts) : ∀ p, (QaC T p).2.length = T.length := by
 induction T with
 | nil => intro p; rfl
 | cons k n s ar r iha ihr => intro p; simp only [QaC, List.length_cons, ihr, Ts.length]
def Qt (c : Cl) : List HC := QbT c.vars.toNat ++ (Qb2 c.k c.n c.s c.hd c.vars.toNat ++ (QaC c.bd (c.vars.toNat + (Qb2 c.k c.n c.s c.hd c.vars.toNat).length)).1)
def Qat (c : Cl) : List Int := (QaC c.bd (c.vars.toNat + (Qb2 c.k c.n c.s c.hd c.vars.toNat).length)).2
def Qae (vars : Int) (T : Ts) : List HC := QbT vars.toNat ++ (QaC T vars.toNat).1
def Qbf (vars : Int) (T : Ts) : List Int := (QaC T vars.toNat).2
theorem Ts.goals_nodes (vars : Int) : ∀ T : Ts, T.goals vars = true → T.nodes ≤ 24 * T.length
 | .nil, _ => by simp [Ts.nodes]
 | .cons k n s ar r, h => by
  simp only [Ts.goals, Bool.and_eq_true, gB, decide_eq_true_eq] at h
  have := Ts.goals_nodes vars r h.2
  simp only [Ts.nodes, Ts.length]; omega
structure XL where
 g : Int
 o : Nat
 nx : Int
structure XC where
 at_ : Nat
 cls : List Cl
 cells : Nat
 bound : Nat
structure XS where
 h : HH
 goals : Nat
 ln : List XL
 first : Int
 ch : List XC
 ev : List Ts
def lnk (L : List XL) (i : Nat) : XL := L.getD i ⟨0, 0, -1⟩
def Qb3 (start : Nat) (o : Nat) : List Int → Int → List XL → List XL × Int
 | [], nx, L => (L, nx)
 | g :: r, nx, L => ((Qb3 start o r nx L).1 ++ [⟨start + g, o, (Qb3 start o r nx L).2⟩], ((Qb3 start o r nx L).1.length : Nat))
def QdW (h : HH) (b : Cl) (g : Int) : HH × Bool × Int := QX (Q3 h (Qt b)).1 ((Q3 h (Qt b)).2.1 + b.vars) g
def XS.took (s : XS) (a : Nat) (b : Cl) (more : List Cl) (cells bound : Nat) : XS :=
 ⟨(QdW s.h b (lnk s.ln a).g).1, s.goals, (Qb3 (Q3 s.h (Qt b)).2.1 s.ch.length (Qat b) (lnk s.ln a).nx s.ln).1, (Qb3 (Q3 s.h (Qt b)).2.1 s.ch.length (Qat b) (lnk s.ln a).nx s.ln).2,
   match more with | [] => s.ch | _ :: _ => ⟨a, more, cells, bound⟩ :: s.ch, s.ev⟩
def Qph (k : XS → Int × XS) (a cells bound : Nat) : List Cl → XS → Int × XS
 | [], s => k s
 | b :: more, s =>
  if (QdW s.h b (lnk s.ln a).g).2.2 ≠ 0 then (4, s)
  else if (QdW s.h b (lnk s.ln a).g).2.1 = false then Qph k a cells bound more s
  else (0, s.took a b more cells bound)
def XS.back (s : XS) (c : XC) (cs : List XC) : XS := ⟨(QlN (QcA s.h (c.bound : Nat)).1 (c.cells : Nat)).1, s.goals, s.ln, s.first, cs, s.ev⟩
def Qi0 : List XC → XS → Int × XS
 | [], s => (2, s)
 | c :: cs, s => Qph (Qi0 cs) c.at_ c.cells c.bound c.cls (s.back c cs)
def Qd3 (s : XS) : Int × XS := Qi0 s.ch s
def XS.setH (s : XS) (h : HH) : XS := ⟨h, s.goals, s.ln, s.first, s.ch, s.ev⟩
def Qfw (a b : Int) (s : XS) : Int × XS :=
 if (QX s.h a b).2.2 ≠ 0 then (4, s.setH (QX s.h a b).1)
 else if (QX s.h a b).2.1 = false then Qd3 (s.setH (QX s.h a b).1)
 else (0, s.setH (QX s.h a b).1)
def QY (h : HH) (a : Int) : HC := (hat h.cs (Qr h.cs a)).getD ⟨0, 0, eS⟩
def QmH (a : Int) (s : XS) : Int × XS :=
 if (QY s.h a).k ≠ 2 ∨ (QY s.h (a + 1)).k ≠ 2 then (5, s) else if (QY s.h (a + 1)).n ≤ (QY s.h a).n then Qd3 s else (0, s)
def Quw (a : Int) (s : XS) : Int × XS :=
 if (QY s.h a).k ≠ 2 ∨ (QY s.h (a + 1)).k ≠ 2 then (5, s)
 else if (QY s.h a).n + (QY s.h (a + 1)).n < -1099511627776 ∨ 1099511627776 < (QY s.h a).n + (QY s.h (a + 1)).n then (5, s)
 else Qfw (a + 2) (Q3 s.h [⟨2, (QY s.h a).n + (QY s.h (a + 1)).n, eS⟩]).2.1 (s.setH (Q3 s.h [⟨2, (QY s.h a).n + (QY s.h (a + 1)).n, eS⟩]).1)
def Qbi (h : HH) (g : Int) : HC := (hat h.cs g).getD ⟨0, 0, eS⟩
def QfC (l : XL) (s : XS) : Int × XS :=
 if (Qbi s.h l.g).s.toList = [33] then (0, ⟨s.h, s.goals, s.ln, s.first, s.ch.drop (s.ch.length - l.o), s.ev⟩)
 else if (Qbi s.h l.g).s.toList = [116, 114, 117, 101] then (0, s)
 else if (Qbi s.h l.g).s.toList = [101, 113] then Qfw (l.g + 1) (l.g + 1 + 1) s
 else if (Qbi s.h l.g).s.toList = [108, 101, 115, 115] then QmH (l.g + 1) s
 else if (Qbi s.h l.g).s.toList = [97, 100, 100] then Quw (l.g + 1) s
 else Qd3 s
def Qch (h : HH) : Nat → Nat → Int → Option (Ts × Int)
 | 0, _, l => some (.nil, l)
 | m + 1, v, l => if (Qbg h (v : Nat) l).2.2 ≠ 0 then none else match Qch h m (v + 1) (l - ((Qbg h (v : Nat) l).2.1 : Nat)) with
  | none => none
  | some (T, l'') => some (.cons (Qbg h (v : Nat) l).1.k (Qbg h (v : Nat) l).1.n (Qbg h (v : Nat) l).1.s (Qbg h (v : Nat) l).1.ar T, l'')
def XS.tell (s : XS) (T : Ts) : XS := ⟨s.h, s.goals, s.ln, s.first, s.ch, s.ev ++ [T.tidy]⟩
def QcE (vars : Nat) (s : XS) : Int × XS := match Qch s.h vars 0 200 with
 | none => (4, s)
 | some (T, _) => if s.ev.length + 1 = 12 then (6, s.tell T) else Qd3 (s.tell T)
def QhS (c : Cl) : HC := if c.k = 3 then ⟨3, (c.hd.length : Nat), c.s⟩ else Qdj c.k c.n c.s
def Qkk (p : List Cl) (a : Nat) (s : XS) : Int × XS := match p.filter (fun c => decide (QhS c = Qbi s.h (lnk s.ln a).g)) with
 | [] => (5, s)
 | b :: more => Qph (Qi0 s.ch) a s.h.cs.length s.h.tr.length (b :: more) s
def Qay (L : List XL) : Nat → Int → List Bool × List Nat → List Bool × List Nat
 | 0, _, p => p
 | f + 1, i, p => if i = -1 then p else if p.1[i.toNat]? = some true then p else Qay L f (lnk L i.toNat).nx (p.1.set i.toNat true, p.2 ++ [i.toNat])
def QbY (L : List XL) : List XC → List Bool × List Nat → List Bool × List Nat
 | [], p => p
 | c :: r, p => QbY L r (Qay L (L.length + 1) (c.at_ : Nat) p)
def QbO (s : XS) : List Nat := (QbY s.ln s.ch.reverse (Qay s.ln (s.ln.length + 1) s.first (List.replicate s.ln.length false, []))).2
def Qpr (L : List XL) (i : Nat) (g : Int) : List XL := L.modify i fun l => ⟨g, l.o, l.nx⟩
def Qdo : List Nat → List Int → List XL → List XL
 | i :: r, g :: q, L => Qdo r q (Qpr L i g)
 | _, _, L => L
def Qsi : List XC → List Int → List Int → List XC
 | c :: r, t :: T, k :: K => ⟨c.at_, c.cls, t.toNat, k.toNat⟩ :: Qsi r T K
 | L, _, _ => L
def QT (vars : Nat) (s : XS) : List Int := ((List.range vars).map fun v => ((v : Nat) : Int)) ++ (QbO s).map fun i => (lnk s.ln i).g
noncomputable def Qh8 (vars : Nat) (s : XS) : XS :=
 let r := Qbs s.h (QT vars s) (s.ch.reverse.map fun c => ((c.cells : Nat) : Int)) (s.ch.reverse.map fun c => ((c.bound : Nat) : Int))
 ⟨r.1, s.goals, Qdo (QbO s) (r.2.1.drop vars) s.ln, s.first, (Qsi s.ch.reverse r.2.2.1 r.2.2.2.1).reverse, s.ev⟩
noncomputable def QH (vars every : Nat) (s : XS) : XS := if 0 < every ∧ s.goals % every = 0 then Qh8 vars s else s
noncomputable def QaX (p : List Cl) (vars fuel every : Nat) (s : XS) : Int × XS :=
 if s.first = -1 then QcE vars s
 else if s.goals = fuel then (3, s)
 else
  let t := QH vars every s
  let u : XS := ⟨t.h, t.goals + 1, t.ln, (lnk t.ln t.first.toNat).nx, t.ch, t.ev⟩
  if QaG (Qbi u.h (lnk u.ln t.first.toNat).g).s.toList (Qbi u.h (lnk u.ln t.first.toNat).g).n.toNat = true then QfC (lnk u.ln t.first.toNat) u else Qkk p t.first.toNat u
noncomputable def Qsj (p : List Cl) (vars fuel every : Nat) : Nat → XS → List Ev
 | 0, _ => []
 | n + 1, s => if (QaX p vars fuel every s).1 = 0 then Qsj p vars fuel every n (QaX p vars fuel every s).2 else Qdf (QaX p vars fuel every s).2.ev ++ [((QaX p vars fuel every s).1, .nil)]
def QdC (q : Ts) (vars : Int) : XS :=
 ⟨(Q3 ⟨[], []⟩ (Qae vars q)).1, 0, (Qb3 (Q3 ⟨[], []⟩ (Qae vars q)).2.1 0 (Qbf vars q) (-1) []).1, (Qb3 (Q3 ⟨[], []⟩ (Qae vars q)).2.1 0 (Qbf vars q) (-1) []).2, [], []⟩
end Go.Proofs.YthliapbflkfdiacGreatDoor
