/- HChain, HOne, HUndo, HTerm, Copy, Path, IntMap, Nums, Ren, Rename, Turns, TidyBy, Named, Node: texts that follow one another, laid into one file. -/
import Derived.Test.YtdflngjfnpbpmabG1
import Derived.Test.YtdflngjfnpbpmabRows
import Derived.Deep.LoopGhost
import Derived.Lib.Hide
import Derived.StillTailTactics
import Derived.RegionTactic
import Derived.OneCell
import Derived.MapKept
import Derived.Maps.OwnOps
import Derived.Deep.QuietTactic
import Derived.BigQuiet
import Derived.Test.YtdflngjfnpbpmabG0
import Derived.Deep.RegionLaw
import Derived.Deep.DeepCutAuto
namespace Go.Proofs.Ytdflngjfnpbpmab
open Go.RowKit
set_option linter.unusedVariables false
set_option linter.unusedSimpArgs false

/-- From a, over n Refs, one comes to x, and there is no further way. -/
inductive EndsN (L : List HC) : Nat → Int → Int → Prop
  | here {a : Int} {c : HC} : hat L a = some c → ¬ (c.k = 0 ∧ c.n ≠ a) → EndsN L 0 a a
  | there {n : Nat} {a x : Int} {c : HC} : hat L a = some c → c.k = 0 → c.n ≠ a → EndsN L n c.n x → EndsN L (n + 1) a x
def End (L : List HC) (a x : Int) : Prop := ∃ n, EndsN L n a x
theorem EndsN.det {L : List HC} {n m : Nat} {a x y : Int} (h : EndsN L n a x) : EndsN L m a y → n = m ∧ x = y := by
  induction h generalizing m with
  | here h0 h1 =>
    intro g
    cases g with
    | here g0 g1 => exact ⟨rfl, rfl⟩
    | there g0 g1 g2 _ => rw [h0] at g0; cases g0; exact absurd ⟨g1, g2⟩ h1
  | there h0 h1 h2 _ ih =>
    intro g
    cases g with
    | here g0 g1 => rw [h0] at g0; cases g0; exact absurd ⟨h1, h2⟩ g1
    | there g0 g1 g2 g3 =>
      rw [h0] at g0; cases g0
      obtain ⟨e1, e2⟩ := ih g3
      exact ⟨by omega, e2⟩
theorem End.det {L : List HC} {a x y : Int} (h : End L a x) (g : End L a y) : x = y := by
  obtain ⟨_, h⟩ := h
  obtain ⟨_, g⟩ := g
  exact (h.det g).2
theorem EndsN.last {L : List HC} {n : Nat} {a x : Int} (h : EndsN L n a x) : ∃ c, hat L x = some c ∧ ¬ (c.k = 0 ∧ c.n ≠ x) := by
  induction h with
  | here h0 h1 => exact ⟨_, h0, h1⟩
  | there _ _ _ _ ih => exact ih
theorem End.last {L : List HC} {a x : Int} (h : End L a x) : ∃ c, hat L x = some c ∧ ¬ (c.k = 0 ∧ c.n ≠ x) := by
  obtain ⟨_, h⟩ := h; exact h.last
theorem End.self {L : List HC} {a x : Int} (h : End L a x) : End L x x := by
  obtain ⟨c, h0, h1⟩ := h.last
  exact ⟨0, .here h0 h1⟩
theorem End.of_nonvar {L : List HC} {x : Int} {c : HC} (h : hat L x = some c) (hk : c.k ≠ 0) : End L x x := ⟨0, .here h fun e => hk e.1⟩
theorem End.first {L : List HC} {a x : Int} (h : End L a x) : ∃ c, hat L a = some c := by
  obtain ⟨_, h⟩ := h
  cases h with
  | here h0 _ => exact ⟨_, h0⟩
  | there h0 _ _ _ => exact ⟨_, h0⟩
/-- A list of different numbers below n has at most n. -/
theorem nodup_len : ∀ (n : Nat) (l : List Nat), l.Nodup → (∀ y ∈ l, y < n) → l.length ≤ n
  | 0, l, _, h => by
    cases l with
    | nil => simp
    | cons y l => exact absurd (h y (by simp)) (by omega)
  | n + 1, l, hn, h => by
    by_cases hm : n ∈ l
    · have h1 := nodup_len n (l.erase n) (hn.erase n) fun y hy => by
        have h2 := (hn.mem_erase_iff).1 hy
        have h3 := h y h2.2
        have h4 := h2.1
        omega
      rw [List.length_erase_of_mem hm] at h1
      omega
    · have := nodup_len n l hn fun y hy => by
        have h3 := h y hy
        have h4 : y ≠ n := fun e => hm (e ▸ hy)
        omega
      omega
theorem EndsN.list {L : List HC} {n : Nat} {a x : Int} (h : EndsN L n a x) : ∃ l : List Nat, l.length = n + 1 ∧ l.Nodup ∧ (∀ y ∈ l, y < L.length) ∧ ∀ y ∈ l, ∃ j, j ≤ n ∧ EndsN L j (y : Int) x := by
  induction h with
  | @here a c h0 h1 =>
    obtain ⟨g0, g1, _⟩ := hatS.1 h0
    refine ⟨[a.toNat], rfl, by simp, fun y hy => ?_, fun y hy => ⟨0, Nat.le_refl _, ?_⟩⟩
    · simp at hy; omega
    · simp at hy
      rw [show ((y : Nat) : Int) = a by omega]
      exact .here h0 h1
  | @there n a x c h0 h1 h2 h3 ih =>
    obtain ⟨g0, g1, _⟩ := hatS.1 h0
    obtain ⟨l, l1, l2, l3, l4⟩ := ih
    have ha : ((a.toNat : Nat) : Int) = a := by omega
    refine ⟨a.toNat :: l, by simp [l1], List.nodup_cons.2 ⟨fun hm => ?_, l2⟩, fun y hy => ?_, fun y hy => ?_⟩
    · obtain ⟨j, hj, he⟩ := l4 _ hm
      rw [ha] at he
      have := (he.det (.there h0 h1 h2 h3)).1
      omega
    · rcases List.mem_cons.1 hy with rfl | hy
      · omega
      · exact l3 y hy
    · rcases List.mem_cons.1 hy with rfl | hy
      · rw [ha]; exact ⟨n + 1, Nat.le_refl _, .there h0 h1 h2 h3⟩
      · obtain ⟨j, hj, he⟩ := l4 y hy
        exact ⟨j, by omega, he⟩
theorem EndsN.lt {L : List HC} {n : Nat} {a x : Int} (h : EndsN L n a x) : n < L.length := by
  obtain ⟨l, l1, l2, l3, _⟩ := h.list
  have := nodup_len L.length l l2 l3
  omega
theorem hlookF_of {L : List HC} {n : Nat} {a x : Int} (h : EndsN L n a x) : ∀ f, n < f → hlookF L f a = x := by
  induction h with
  | here h0 h1 =>
    intro f hf
    obtain ⟨f, rfl⟩ : ∃ g, f = g + 1 := ⟨f - 1, by omega⟩
    simp only [hlookF, h0, if_neg h1]
  | there h0 h1 h2 _ ih =>
    intro f hf
    obtain ⟨f, rfl⟩ : ∃ g, f = g + 1 := ⟨f - 1, by omega⟩
    simp only [hlookF, h0, if_pos (And.intro h1 h2)]
    exact ih f (by omega)
theorem end_of_hlookF {L : List HC} : ∀ (f : Nat) (a : Int), ¬ hlookF L f a < 0 → ∃ n, EndsN L n a (hlookF L f a)
  | 0, a, h => absurd (show hlookF L 0 a < 0 by simp [hlookF]) h
  | f + 1, a, h => by
    cases hc : hat L a with
    | none => simp only [hlookF, hc] at h; exact absurd (by decide) h
    | some c =>
      by_cases hb : c.k = 0 ∧ c.n ≠ a
      · simp only [hlookF, hc, if_pos hb] at h ⊢
        obtain ⟨n, hn⟩ := end_of_hlookF f c.n h
        exact ⟨n + 1, .there hc hb.1 hb.2 hn⟩
      · simp only [hlookF, hc, if_neg hb]
        exact ⟨0, .here hc hb⟩
theorem End.look {L : List HC} {a x : Int} (h : End L a x) : hlook L a = x := by
  obtain ⟨n, h⟩ := h
  exact hlookF_of h _ h.lt
theorem end_look {L : List HC} {a : Int} (h : ¬ hlook L a < 0) : End L a (hlook L a) := end_of_hlookF _ _ h
theorem End.nonneg {L : List HC} {a x : Int} (h : End L a x) : 0 ≤ x := by
  obtain ⟨c, h0, _⟩ := h.last; exact (hatS.1 h0).1
theorem hlook_none {L : List HC} {a : Int} (h : ¬ ∃ x, End L a x) : hlook L a = -1 := by
  rcases hlookF_end (L := L) L.length a with h1 | ⟨c, h1, _⟩
  · exact h1
  · refine absurd ⟨hlook L a, end_look ?_⟩ h
    have := (hatS.1 h1).1
    unfold hlook; omega
/-- A cell's number set: what is there then. -/
theorem hat_setN {L : List HC} {r : Int} {c : HC} (hr : hat L r = some c) (y a : Int) : hat (setN L r.toNat y) a = if a = r then some ⟨c.k, y, c.s⟩ else hat L a := by
  obtain ⟨r0, r1, r2⟩ := hatS.1 hr
  unfold hat
  by_cases ha : 0 ≤ a
  · rw [if_pos ha, if_pos ha, setN_get]
    by_cases he : a = r
    · rw [if_pos he, if_pos (by rw [he]), he, r2]; rfl
    · rw [if_neg he, if_neg (by omega)]
  · rw [if_neg ha, if_neg ha, if_neg (by omega)]
/-- What more bindings leave. -/
structure Up (L L' : List HC) : Prop where
  ends : ∀ a x, End L a x → ∃ y, End L' a y ∧ End L' x y
  cell : ∀ a c, hat L a = some c → c.k ≠ 0 → hat L' a = some c
theorem Up.refl (L : List HC) : Up L L := ⟨fun a x h => ⟨x, h, h.self⟩, fun _ _ h _ => h⟩
theorem Up.trans {L L' L'' : List HC} (h : Up L L') (g : Up L' L'') : Up L L'' := by
  refine ⟨fun a x hx => ?_, fun a c hc hk => g.cell a c (h.cell a c hc hk) hk⟩
  obtain ⟨y, h1, h2⟩ := h.ends a x hx
  obtain ⟨z, g1, g2⟩ := g.ends a y h1
  obtain ⟨z', g3, g4⟩ := g.ends x y h2
  have := g2.det g4
  subst this
  exact ⟨z, g1, g3⟩
theorem Up.nonvar {L L' : List HC} (h : Up L L') {a x : Int} {c : HC} (ha : End L a x) (hx : hat L x = some c) (hk : c.k ≠ 0) : End L' a x := by
  obtain ⟨y, h1, h2⟩ := h.ends a x ha
  have := h2.det (End.of_nonvar (h.cell x c hx hk) hk)
  subst this; exact h1
/-- A variable bound to what ends elsewhere. -/
theorem end_bind {L : List HC} {r y : Int} {c : HC} (hr : hat L r = some c) (hk : c.k = 0) (hn : c.n = r) (hy : End L y y) (hne : y ≠ r) :
    (∀ a x, End L a x → x ≠ r → End (setN L r.toNat y) a x) ∧ (∀ a, End L a r → End (setN L r.toNat y) a y) := by
  have hyy : End (setN L r.toNat y) y y := by
    obtain ⟨d, d0, d1⟩ := hy.last
    exact ⟨0, .here (by rw [hat_setN hr, if_neg hne]; exact d0) d1⟩
  have key : ∀ n a x, EndsN L n a x → End (setN L r.toNat y) a (if x = r then y else x) := by
    intro n a x h
    induction h with
    | @here a d h0 h1 =>
      by_cases ha : a = r
      · rw [if_pos ha]
        obtain ⟨m, hm⟩ := hyy
        exact ⟨m + 1, .there (c := ⟨c.k, y, c.s⟩) (by rw [hat_setN hr, if_pos ha]) hk (by rw [ha]; exact hne) hm⟩
      · rw [if_neg ha]
        exact ⟨0, .here (by rw [hat_setN hr, if_neg ha]; exact h0) h1⟩
    | @there n a x d h0 h1 h2 _ ih =>
      have ha : a ≠ r := fun e => by
        rw [e, hr] at h0; cases h0
        rw [e] at h2; exact h2 hn
      obtain ⟨m, hm⟩ := ih
      exact ⟨m + 1, .there (by rw [hat_setN hr, if_neg ha]; exact h0) h1 h2 hm⟩
  refine ⟨fun a x ⟨n, h⟩ hx => ?_, fun a ⟨n, h⟩ => ?_⟩
  · have := key n a x h; rwa [if_neg hx] at this
  · have := key n a r h; rwa [if_pos rfl] at this
theorem up_bind {L : List HC} {r y : Int} {c : HC} (hr : hat L r = some c) (hk : c.k = 0) (hn : c.n = r) (hy : End L y y) (hne : y ≠ r) : Up L (setN L r.toNat y) := by
  obtain ⟨h1, h2⟩ := end_bind hr hk hn hy hne
  refine ⟨fun a x hx => ?_, fun a d hd hdk => ?_⟩
  · by_cases he : x = r
    · subst he; exact ⟨y, h2 a hx, h2 _ hx.self⟩
    · exact ⟨x, h1 a x hx he, h1 x x hx.self he⟩
  · rw [hat_setN hr, if_neg]
    · exact hd
    · intro e; rw [e, hr] at hd; cases hd; exact hdk hk
/-- A relation between places under which ends are the same, or cells are, with their arguments. -/
def Bis (L : List HC) (R : Int → Int → Prop) : Prop := ∀ a b, R a b → a = b ∨ ∃ x y, End L a x ∧ End L b y ∧ (x = y ∨ ∃ c, hat L x = some c ∧ hat L y = some c ∧ c.k ≠ 0 ∧ ∀ i : Int, 0 ≤ i → i < argsC c → R (x + 1 + i) (y + 1 + i))
/-- Two places that are one. -/
def Sm (L : List HC) (a b : Int) : Prop := ∃ R, Bis L R ∧ R a b
theorem Sm.ends {L : List HC} {a b : Int} (h : Sm L a b) : a = b ∨ ∃ x y, End L a x ∧ End L b y ∧ (x = y ∨ ∃ c, hat L x = some c ∧ hat L y = some c ∧ c.k ≠ 0 ∧ ∀ i : Int, 0 ≤ i → i < argsC c → Sm L (x + 1 + i) (y + 1 + i)) := by
  obtain ⟨R, hR, hab⟩ := h
  rcases hR a b hab with e | ⟨x, y, hx, hy, e | ⟨c, h1, h2, h3, h4⟩⟩
  · exact .inl e
  · exact .inr ⟨x, y, hx, hy, .inl e⟩
  · exact .inr ⟨x, y, hx, hy, .inr ⟨c, h1, h2, h3, fun i i0 i1 => ⟨R, hR, h4 i i0 i1⟩⟩⟩
theorem Sm.step {L : List HC} {a b : Int} (h : Sm L a b) {x y : Int} (hx : End L a x) (hy : End L b y) : x = y ∨ ∃ c, hat L x = some c ∧ hat L y = some c ∧ c.k ≠ 0 ∧ ∀ i : Int, 0 ≤ i → i < argsC c → Sm L (x + 1 + i) (y + 1 + i) := by
  rcases h.ends with e | ⟨x', y', hx', hy', e⟩
  · subst e; exact .inl (hx.det hy)
  · have e1 := hx.det hx'
    have e2 := hy.det hy'
    subst e1 e2; exact e
theorem Sm.of {L : List HC} {a b x y : Int} (hx : End L a x) (hy : End L b y) (h : x = y ∨ ∃ c, hat L x = some c ∧ hat L y = some c ∧ c.k ≠ 0 ∧ ∀ i : Int, 0 ≤ i → i < argsC c → Sm L (x + 1 + i) (y + 1 + i)) : Sm L a b := by
  refine ⟨fun p q => Sm L p q ∨ (p = a ∧ q = b), fun p q hpq => ?_, .inr ⟨rfl, rfl⟩⟩
  have : p = q ∨ ∃ x y, End L p x ∧ End L q y ∧ (x = y ∨ ∃ c, hat L x = some c ∧ hat L y = some c ∧ c.k ≠ 0 ∧ ∀ i : Int, 0 ≤ i → i < argsC c → Sm L (x + 1 + i) (y + 1 + i)) := by
    rcases hpq with h1 | ⟨rfl, rfl⟩
    · exact h1.ends
    · exact .inr ⟨x, y, hx, hy, h⟩
  rcases this with e | ⟨x, y, hx, hy, e | ⟨c, h1, h2, h3, h4⟩⟩
  · exact .inl e
  · exact .inr ⟨x, y, hx, hy, .inl e⟩
  · exact .inr ⟨x, y, hx, hy, .inr ⟨c, h1, h2, h3, fun i i0 i1 => .inl (h4 i i0 i1)⟩⟩
theorem Sm.refl (L : List HC) (a : Int) : Sm L a a := ⟨fun p q => p = q, fun p q e => .inl e, rfl⟩
theorem Sm.symm {L : List HC} {a b : Int} (h : Sm L a b) : Sm L b a := by
  obtain ⟨R, hR, hab⟩ := h
  refine ⟨fun p q => R q p, fun p q hpq => ?_, hab⟩
  rcases hR q p hpq with e | ⟨x, y, hx, hy, e | ⟨c, h1, h2, h3, h4⟩⟩
  · exact .inl e.symm
  · exact .inr ⟨y, x, hy, hx, .inl e.symm⟩
  · exact .inr ⟨y, x, hy, hx, .inr ⟨c, h2, h1, h3, h4⟩⟩
theorem Sm.meet {L : List HC} {a b x : Int} (ha : End L a x) (hb : End L b x) : Sm L a b := Sm.of ha hb (.inl rfl)
end Go.Proofs.Ytdflngjfnpbpmab
namespace Go.Proofs.Ytdflngjfnpbpmab
open Go.RowKit
set_option linter.unusedVariables false
set_option linter.unusedSimpArgs false

theorem stepLong {u : HU} (h : 400 ≤ u.w) : u.step.lg = true := by
  simp only [HU.step]; rw [decide_eq_true (by omega)]; simp
/-- Two looks, one after the other. -/
theorem looks_ok {u : HU} {a b : Int} (h : ((u.step.look a).2.look b).2.lg = false) :
    u.step.lg = false ∧ (u.step.look a).1 = hlook u.cs a ∧ ((u.step.look a).2.look b).1 = hlook u.cs b ∧ End u.cs a (hlook u.cs a) ∧ End u.cs b (hlook u.cs b) ∧ ((u.step.look a).2.look b).2.cs = u.cs ∧ ((u.step.look a).2.look b).2.tr = u.tr ∧ ((u.step.look a).2.look b).2.w = u.w + 1 := by
  have hwa := look_w u.step a
  have hwb := look_w (u.step.look a).2 b
  obtain ⟨hla, hb1, hb2⟩ := look_ok h
  obtain ⟨hls, ha1, ha2⟩ := look_ok hla
  rw [hwa.2.1] at hb1 hb2
  exact ⟨hls, ha1, hb1, end_look ha2, end_look hb2, by rw [hwb.2.1, hwa.2.1]; rfl, by rw [hwb.2.2, hwa.2.2]; rfl, by rw [hwb.1, hwa.1]; rfl⟩
/-- What a run that comes to an end without being long has made of two places. -/
structure One (a b : Int) (u : HU) (v : HU) : Prop where
  up : Up u.cs v.cs
  sm : ∀ L, Up v.cs L → Sm L a b
theorem all_one {n : Nat} {g : Int → Int → HU → Bool × HU} (hu : ∀ x y u, GU n u → u.lg = false → UU n u (g x y u)) (hg : ∀ x y u, GU n u → u.lg = false → (g x y u).1 = true → One x y u (g x y u).2) :
    ∀ (m : Nat) (x y : Int) (u : HU), GU n u → u.lg = false → (allU g m x y u).1 = true → Up u.cs (allU g m x y u).2.cs ∧ ∀ L, Up (allU g m x y u).2.cs L → ∀ i : Int, 0 ≤ i → i < m → Sm L (x + i) (y + i)
  | 0, x, y, u, h, hl, _ => ⟨Up.refl _, fun L _ i i0 i1 => by omega⟩
  | m + 1, x, y, u, h, hl, hr => by
    have h1 := hu x y u h hl
    simp only [allU] at hr ⊢
    by_cases hok : (g x y u).1 = true
    · rw [if_pos hok] at hr ⊢
      have o1 := hg x y u h hl hok
      obtain ⟨u1, u2⟩ := all_one hu hg m (x + 1) (y + 1) (g x y u).2 h1.gu (h1.ok hok) hr
      refine ⟨o1.up.trans u1, fun L hL i i0 i1 => ?_⟩
      by_cases hi : i = 0
      · subst hi
        have := o1.sm L (u1.trans hL)
        simpa using this
      · have := u2 L hL (i - 1) (by omega) (by omega)
        rw [show x + 1 + (i - 1) = x + i by omega, show y + 1 + (i - 1) = y + i by omega] at this
        exact this
    · rw [if_neg hok] at hr; exact absurd hr hok
theorem asg_one {n : Nat} {u : HU} (h : GU n u) {p q : Int} {x y : HC} (hx : hat u.cs p = some x) (hxk : x.k = 0) (hxe : x.n = p) (hy : hat u.cs q = some y) (hyk : y.k ≠ 0) (hr : (asgU p q u).1 = true) :
    (asgU p q u).2.cs = setN u.cs p.toNat q ∧ (asgU p q u).2.tr = u.tr ++ [p] ∧ q ≠ p := by
  have ho := occ_up (n := n) p 401 q u h.good h.wk
  unfold asgU at hr ⊢
  split at hr
  · cases hr
  · rename_i hn
    rw [if_neg hn]
    refine ⟨by simp only [HU.bind]; rw [ho.cs], by simp only [HU.bind]; rw [ho.tr], fun e => ?_⟩
    rw [e, hx] at hy; cases hy; exact hyk hxk
theorem uni_one {n : Nat} : ∀ (f : Nat) (a b : Int) (u : HU), GU n u → u.lg = false → (uniU f a b u).1 = true → One a b u (uniU f a b u).2
  | 0, a, b, u, h, hl, hr => by simp [uniU] at hr
  | f + 1, a, b, u, h, hl, hr => by
    have hg2 : GU n ((u.step.look a).2.look b).2 := (h.step.look a).look b
    simp only [uniU] at hr ⊢
    by_cases hl2 : ((u.step.look a).2.look b).2.lg = true
    · rw [if_pos hl2] at hr; cases hr
    have hl3 : ((u.step.look a).2.look b).2.lg = false := by simpa using hl2
    rw [if_neg hl2] at hr ⊢
    obtain ⟨_, ha, hb, ea, eb, hcs, htr, _⟩ := looks_ok hl3
    rw [ha, hb] at hr ⊢
    obtain ⟨x, hx, hxe⟩ := ea.last
    obtain ⟨y, hy, hye⟩ := eb.last
    generalize hp : hlook u.cs a = p at *
    generalize hq : hlook u.cs b = q at *
    generalize ((u.step.look a).2.look b).2 = v at *
    rw [show kindAt u.cs p = x.k by unfold kindAt; rw [hx], show kindAt u.cs q = y.k by unfold kindAt; rw [hy]] at hr ⊢
    have fin : ∀ {L1 : List HC} {z : Int}, Up u.cs L1 → End L1 a z → End L1 b z → ∀ {v' : HU}, v'.cs = L1 → One a b u v' := fun hU h1 h2 v' e => ⟨by rw [e]; exact hU, fun L hL => by
      rw [e] at hL
      obtain ⟨s, s1, s2⟩ := hL.ends _ _ h1
      obtain ⟨t, t1, t2⟩ := hL.ends _ _ h2
      have := s2.det t2
      subst this
      exact Sm.meet s1 t1⟩
    have bindOne : ∀ {r z : Int} {c : HC}, hat u.cs r = some c → c.k = 0 → c.n = r → End u.cs z z → z ≠ r → (∀ a', End u.cs a' r ∨ End u.cs a' z → End (setN u.cs r.toNat z) a' z) := fun hr' hk' hn' hz hne a' ha' => by
      obtain ⟨k1, k2⟩ := end_bind hr' hk' hn' hz hne
      rcases ha' with g | g
      · exact k2 _ g
      · exact k1 _ _ g hne
    by_cases hxk : x.k = 0
    · have hxn : x.n = p := Classical.byContradiction fun e => hxe ⟨hxk, e⟩
      rw [if_pos hxk] at hr ⊢
      by_cases hyk : y.k = 0
      · have hyn : y.n = q := Classical.byContradiction fun e => hye ⟨hyk, e⟩
        rw [if_pos hyk] at hr ⊢
        by_cases hpq : p = q
        · rw [if_pos hpq]
          subst hpq
          exact fin (Up.refl _) ea eb hcs
        · rw [if_neg hpq]
          rcases Int.le_total p q with hle | hle
          · rw [Int.max_eq_right hle, Int.min_eq_left hle]
            have := bindOne hy hyk hyn ea.self hpq
            exact fin (up_bind hy hyk hyn ea.self hpq) (this a (.inr ea)) (this b (.inl eb)) (by simp only [HU.bind]; rw [hcs])
          · rw [Int.max_eq_left hle, Int.min_eq_right hle]
            have := bindOne hx hxk hxn eb.self (Ne.symm hpq)
            exact fin (up_bind hx hxk hxn eb.self (Ne.symm hpq)) (this a (.inl ea)) (this b (.inr eb)) (by simp only [HU.bind]; rw [hcs])
      · rw [if_neg hyk] at hr ⊢
        obtain ⟨e1, _, hne⟩ := asg_one hg2 (p := p) (q := q) (by rw [hcs]; exact hx) hxk hxn (by rw [hcs]; exact hy) hyk hr
        rw [hcs] at e1
        have := bindOne hx hxk hxn eb.self hne
        exact fin (up_bind hx hxk hxn eb.self hne) (this a (.inl ea)) (this b (.inr eb)) e1
    · rw [if_neg hxk] at hr ⊢
      by_cases hyk : y.k = 0
      · have hyn : y.n = q := Classical.byContradiction fun e => hye ⟨hyk, e⟩
        rw [if_pos hyk] at hr ⊢
        obtain ⟨e1, _, hne⟩ := asg_one hg2 (p := q) (q := p) (by rw [hcs]; exact hy) hyk hyn (by rw [hcs]; exact hx) hxk hr
        rw [hcs] at e1
        have := bindOne hy hyk hyn ea.self hne
        exact fin (up_bind hy hyk hyn ea.self hne) (this a (.inr ea)) (this b (.inl eb)) e1
      · rw [if_neg hyk] at hr ⊢
        unfold partsU at hr ⊢
        by_cases hxy : hat v.cs p = hat v.cs q
        · rw [if_pos hxy] at hr ⊢
          obtain ⟨u1, u2⟩ := all_one (n := n) (fun x y u => uni_up f x y u) (fun x y u h hl hr => uni_one f x y u h hl hr) _ _ _ v hg2 hl3 hr
          replace u1 : Up u.cs (allU (uniU f) (argsAt v.cs p) (p + 1) (q + 1) v).2.cs := by rw [← hcs]; exact u1
          rw [hcs] at hxy
          rw [hx, hy] at hxy
          obtain rfl := Option.some.inj hxy
          have hA : argsAt v.cs p = (argsC x).toNat := by unfold argsAt; rw [hcs, hx]
          refine ⟨u1, fun L hL => ?_⟩
          have hU := u1.trans hL
          exact Sm.of (hU.nonvar ea hx hxk) (hU.nonvar eb hy hyk) (.inr ⟨x, hU.cell _ _ hx hxk, hU.cell _ _ hy hyk, hxk, fun i i0 i1 => u2 L hL i i0 (by rw [hA]; omega)⟩)
        · rw [if_neg hxy] at hr; cases hr
/-- What is one needs nothing more. -/
def Still (u : HU) (r : Bool × HU) : Prop := r.2.lg = true ∨ (r.1 = true ∧ r.2.cs = u.cs ∧ r.2.tr = u.tr ∧ u.w ≤ r.2.w ∧ r.2.lg = false)
theorem all_still {n : Nat} {g : Int → Int → HU → Bool × HU} {L : List HC} {k : Nat} (hu : ∀ x y u, GU n u → u.lg = false → UU n u (g x y u)) (hg : ∀ x y u, GU n u → u.lg = false → u.cs = L → k ≤ u.w → Sm L x y → Still u (g x y u)) :
    ∀ (m : Nat) (x y : Int) (u : HU), GU n u → u.lg = false → u.cs = L → k ≤ u.w → (∀ i : Int, 0 ≤ i → i < m → Sm L (x + i) (y + i)) → Still u (allU g m x y u)
  | 0, x, y, u, h, hl, hc, hw, _ => .inr ⟨rfl, rfl, rfl, Nat.le_refl _, hl⟩
  | m + 1, x, y, u, h, hl, hc, hw, hs => by
    have h1 := hu x y u h hl
    simp only [allU]
    rcases hg x y u h hl hc hw (by simpa using hs 0 (by omega) (by omega)) with h2 | ⟨h2, h3, h4, h5, h6⟩
    · by_cases hok : (g x y u).1 = true
      · rw [h1.ok hok] at h2; cases h2
      · rw [if_neg hok]; exact .inl h2
    · rw [if_pos h2]
      rcases all_still hu hg m (x + 1) (y + 1) (g x y u).2 h1.gu h6 (h3.trans hc) (by omega) (fun i i0 i1 => by
        have := hs (i + 1) (by omega) (by omega)
        rw [show x + 1 + i = x + (i + 1) by omega, show y + 1 + i = y + (i + 1) by omega]; exact this) with g2 | ⟨g2, g3, g4, g5, g6⟩
      · exact .inl g2
      · exact .inr ⟨g2, g3.trans h3, g4.trans h4, by omega, g6⟩
theorem uni_still {n : Nat} {L : List HC} : ∀ (f : Nat) (a b : Int) (u : HU), GU n u → u.lg = false → u.cs = L → 400 ≤ u.w + f → Sm L a b → Still u (uniU f a b u)
  | 0, a, b, u, h, hl, hc, hw, hs => by
    left
    simp only [uniU]
    cases hq : ((u.step.look a).2.look b).2.lg with
    | true => rfl
    | false => have := (looks_ok hq).1; rw [stepLong (by omega)] at this; cases this
  | f + 1, a, b, u, h, hl, hc, hw, hs => by
    have hg2 : GU n ((u.step.look a).2.look b).2 := (h.step.look a).look b
    simp only [uniU]
    by_cases hl2 : ((u.step.look a).2.look b).2.lg = true
    · rw [if_pos hl2]; exact .inl hl2
    have hl3 : ((u.step.look a).2.look b).2.lg = false := by simpa using hl2
    rw [if_neg hl2]
    obtain ⟨_, ha, hb, ea, eb, hcs, htr, hw2⟩ := looks_ok hl3
    rw [ha, hb]
    obtain ⟨x, hx, hxe⟩ := ea.last
    obtain ⟨y, hy, hye⟩ := eb.last
    have hstep := hs.step (by rw [← hc]; exact ea) (by rw [← hc]; exact eb)
    rw [← hc] at hstep
    generalize hlook u.cs a = p at *
    generalize hlook u.cs b = q at *
    generalize ((u.step.look a).2.look b).2 = v at *
    rw [show kindAt u.cs p = x.k by unfold kindAt; rw [hx], show kindAt u.cs q = y.k by unfold kindAt; rw [hy]]
    have parts : (∀ i : Int, 0 ≤ i → i < argsC x → Sm L (p + 1 + i) (q + 1 + i)) → hat u.cs p = hat u.cs q → Still u (partsU (uniU f) p q v) := fun hch he => by
      unfold partsU
      rw [if_pos (by rw [hcs]; exact he)]
      have hA : argsAt v.cs p = (argsC x).toNat := by unfold argsAt; rw [hcs, hx]
      rcases all_still (n := n) (L := L) (k := v.w) (fun x y u => uni_up f x y u) (fun x y u g1 g2 g3 g4 g5 => uni_still f x y u g1 g2 g3 (by omega) g5) (argsAt v.cs p) (p + 1) (q + 1) v hg2 hl3 (hcs.trans hc) (Nat.le_refl _) (fun i i0 i1 => hch i i0 (by rw [hA] at i1; omega)) with g2 | ⟨g2, g3, g4, g5, g6⟩
      · exact .inl g2
      · exact .inr ⟨g2, g3.trans hcs, g4.trans htr, by omega, g6⟩
    rcases hstep with e | ⟨c, h1, h2, h3, h4⟩
    · subst e
      rw [hx] at hy; cases hy
      by_cases hk : x.k = 0
      · rw [if_pos hk, if_pos hk, if_pos rfl]
        exact .inr ⟨rfl, hcs, htr, by show u.w ≤ v.w; omega, hl3⟩
      · rw [if_neg hk, if_neg hk]
        exact parts (fun i _ _ => Sm.refl L _) rfl
    · rw [hx] at h1; cases h1
      rw [hy] at h2; cases h2
      rw [if_neg h3, if_neg h3]
      exact parts (fun i i0 i1 => by rw [← hc]; exact h4 i i0 i1) (by rw [hx, hy])
end Go.Proofs.Ytdflngjfnpbpmab
namespace Go.Proofs.Ytdflngjfnpbpmab
open Go.RowKit
set_option linter.unusedVariables false
set_option linter.unusedSimpArgs false

/-- Of the cells of L just those at N, all unbound, have been told another number. -/
def Bd (N : List Int) (L L' : List HC) : Prop := (∀ r ∈ N, 0 ≤ r) ∧ ∀ i : Nat, ((i : Int) ∈ N → ∃ c n, L[i]? = some c ∧ c.k = 0 ∧ c.n = (i : Int) ∧ L'[i]? = some ⟨c.k, n, c.s⟩) ∧ ((i : Int) ∉ N → L'[i]? = L[i]?)
theorem Bd.refl (L : List HC) : Bd [] L L := ⟨fun r h => by simp at h, fun i => ⟨fun h => by simp at h, fun _ => rfl⟩⟩
theorem Bd.trans {N N' : List Int} {L L' L'' : List HC} (h : Bd N L L') (g : Bd N' L' L'') : Bd (N ++ N') L L'' := by
  refine ⟨fun r hr => (List.mem_append.1 hr).elim (h.1 r) (g.1 r), fun i => ⟨fun hi => ?_, fun hi => ?_⟩⟩
  · by_cases h1 : (i : Int) ∈ N
    · obtain ⟨c, n, c1, c2, c3, c4⟩ := (h.2 i).1 h1
      by_cases h2 : (i : Int) ∈ N'
      · obtain ⟨d, m, d1, d2, d3, d4⟩ := (g.2 i).1 h2
        rw [c4] at d1; cases d1
        exact ⟨c, m, c1, c2, c3, d4⟩
      · rw [← (g.2 i).2 h2] at c4
        exact ⟨c, n, c1, c2, c3, c4⟩
    · have h2 : (i : Int) ∈ N' := by rcases List.mem_append.1 hi with h | h; exact absurd h h1; exact h
      obtain ⟨d, m, d1, d2, d3, d4⟩ := (g.2 i).1 h2
      rw [(h.2 i).2 h1] at d1
      exact ⟨d, m, d1, d2, d3, d4⟩
  · rw [(g.2 i).2 (fun h' => hi (List.mem_append_right _ h')), (h.2 i).2 (fun h' => hi (List.mem_append_left _ h'))]
theorem Bd.one {L : List HC} {r y : Int} {c : HC} (hr : hat L r = some c) (hk : c.k = 0) (hn : c.n = r) : Bd [r] L (setN L r.toNat y) := by
  obtain ⟨r0, r1, r2⟩ := hatS.1 hr
  refine ⟨fun s hs => by simp at hs; omega, fun i => ⟨fun hi => ?_, fun hi => ?_⟩⟩
  · simp at hi
    have e : r.toNat = i := by omega
    rw [e] at r2 ⊢
    exact ⟨c, y, r2, hk, by omega, by rw [setN_get, if_pos rfl, r2]; rfl⟩
  · simp at hi
    rw [setN_get, if_neg (by omega)]
theorem undoL_get : ∀ (N : List Int) (L : List HC), (∀ r ∈ N, 0 ≤ r) → ∀ i : Nat, (undoL L N)[i]? = if (i : Int) ∈ N then (L[i]?).map (fun c => ⟨c.k, i, c.s⟩) else L[i]?
  | [], L, _, i => by simp [undoL]
  | r :: N, L, h, i => by
    have r0 := h r (by simp)
    unfold undoL
    rw [undoL_get N _ (fun s hs => h s (.tail _ hs)) i, setN_get]
    by_cases e : r.toNat = i
    · have e2 : (i : Int) = r := by omega
      have hm : (i : Int) ∈ r :: N := by rw [e2]; exact .head _
      rw [if_pos e, if_pos hm]
      by_cases h2 : (i : Int) ∈ N
      · rw [if_pos h2, Option.map_map]; rfl
      · rw [if_neg h2, e2]
    · rw [if_neg e]
      have : (i : Int) ∈ r :: N ↔ (i : Int) ∈ N := by
        simp only [List.mem_cons]
        constructor
        · rintro (h | h)
          · omega
          · exact h
        · exact .inr
      simp only [this]
theorem Bd.undo {N : List Int} {L L' : List HC} (h : Bd N L L') : undoL L' N = L := by
  refine List.ext_getElem? fun i => ?_
  rw [undoL_get N L' h.1 i]
  by_cases hi : (i : Int) ∈ N
  · rw [if_pos hi]
    obtain ⟨c, n, c1, c2, c3, c4⟩ := (h.2 i).1 hi
    rw [c4, c1, Option.map_some, ← c3]
  · rw [if_neg hi]; exact (h.2 i).2 hi
theorem Bd.kind {N : List Int} {L L' : List HC} (h : Bd N L L') {r : Int} {c : HC} (hr : hat L r = some c) : ∃ d, hat L' r = some d ∧ d.k = c.k := by
  obtain ⟨r0, r1, r2⟩ := hatS.1 hr
  have e : ((r.toNat : Nat) : Int) = r := by omega
  have key : ∃ d, L'[r.toNat]? = some d ∧ d.k = c.k := by
    by_cases hi : ((r.toNat : Nat) : Int) ∈ N
    · obtain ⟨d, n, c1, c2, c3, c4⟩ := (h.2 r.toNat).1 hi
      rw [r2] at c1; cases c1
      exact ⟨_, c4, rfl⟩
    · exact ⟨c, by rw [(h.2 r.toNat).2 hi]; exact r2, rfl⟩
  obtain ⟨d, d1, d2⟩ := key
  exact ⟨d, by unfold hat; rw [if_pos r0]; exact d1, d2⟩
/-- The trail says what has been bound. -/
def Trl (u v : HU) : Prop := ∃ N, v.tr = u.tr ++ N ∧ Bd N u.cs v.cs
theorem Trl.same {u v : HU} (h1 : v.cs = u.cs) (h2 : v.tr = u.tr) : Trl u v := ⟨[], by simp [h2], by rw [h1]; exact Bd.refl _⟩
theorem Trl.trans {u v w : HU} (h : Trl u v) (g : Trl v w) : Trl u w := by
  obtain ⟨N, h1, h2⟩ := h
  obtain ⟨N', g1, g2⟩ := g
  exact ⟨N ++ N', by rw [g1, h1, List.append_assoc], h2.trans g2⟩
theorem Trl.bind {u v : HU} {r y : Int} {c : HC} (hr : hat u.cs r = some c) (hk : c.k = 0) (hn : c.n = r) (h1 : v.cs = setN u.cs r.toNat y) (h2 : v.tr = u.tr ++ [r]) : Trl u v := ⟨[r], h2, by rw [h1]; exact Bd.one hr hk hn⟩
theorem all_trl {n : Nat} {g : Int → Int → HU → Bool × HU} (hu : ∀ x y u, GU n u → u.lg = false → UU n u (g x y u)) (hg : ∀ x y u, GU n u → u.lg = false → Trl u (g x y u).2) :
    ∀ (m : Nat) (x y : Int) (u : HU), GU n u → u.lg = false → Trl u (allU g m x y u).2
  | 0, x, y, u, h, hl => Trl.same rfl rfl
  | m + 1, x, y, u, h, hl => by
    have h1 := hu x y u h hl
    simp only [allU]
    split
    · rename_i hok
      exact (hg x y u h hl).trans (all_trl hu hg m (x + 1) (y + 1) _ h1.gu (h1.ok hok))
    · exact hg x y u h hl
theorem asg_trl {n : Nat} {u : HU} (h : GU n u) {p q : Int} {x : HC} (hx : hat u.cs p = some x) (hxk : x.k = 0) (hxe : x.n = p) : Trl u (asgU p q u).2 := by
  have ho := occ_up (n := n) p 401 q u h.good h.wk
  unfold asgU
  split
  · exact Trl.same ho.cs ho.tr
  · exact Trl.bind hx hxk hxe (by simp only [HU.bind]; rw [ho.cs]) (by simp only [HU.bind]; rw [ho.tr])
theorem uni_trl {n : Nat} : ∀ (f : Nat) (a b : Int) (u : HU), GU n u → u.lg = false → Trl u (uniU f a b u).2
  | f, a, b, u, h, hl => by
    have hg2 : GU n ((u.step.look a).2.look b).2 := (h.step.look a).look b
    have hwa := look_w u.step a
    have hwb := look_w (u.step.look a).2 b
    have hcs2 : ((u.step.look a).2.look b).2.cs = u.cs := by rw [hwb.2.1, hwa.2.1]; rfl
    have htr2 : ((u.step.look a).2.look b).2.tr = u.tr := by rw [hwb.2.2, hwa.2.2]; rfl
    have hfail : Trl u ((u.step.look a).2.look b).2 := Trl.same hcs2 htr2
    cases f with
    | zero => exact hfail
    | succ f =>
    simp only [uniU]
    by_cases hl2 : ((u.step.look a).2.look b).2.lg = true
    · rw [if_pos hl2]; exact hfail
    have hl3 : ((u.step.look a).2.look b).2.lg = false := by simpa using hl2
    rw [if_neg hl2]
    obtain ⟨_, ha, hb, ea, eb, hcs, htr, _⟩ := looks_ok hl3
    rw [ha, hb]
    obtain ⟨x, hx, hxe⟩ := ea.last
    obtain ⟨y, hy, hye⟩ := eb.last
    generalize hlook u.cs a = p at *
    generalize hlook u.cs b = q at *
    generalize ((u.step.look a).2.look b).2 = v at *
    rw [show kindAt u.cs p = x.k by unfold kindAt; rw [hx], show kindAt u.cs q = y.k by unfold kindAt; rw [hy]]
    by_cases hxk : x.k = 0
    · have hxn : x.n = p := Classical.byContradiction fun e => hxe ⟨hxk, e⟩
      rw [if_pos hxk]
      by_cases hyk : y.k = 0
      · have hyn : y.n = q := Classical.byContradiction fun e => hye ⟨hyk, e⟩
        rw [if_pos hyk]
        by_cases hpq : p = q
        · rw [if_pos hpq]; exact hfail
        · rw [if_neg hpq]
          rcases Int.le_total p q with hle | hle
          · rw [Int.max_eq_right hle, Int.min_eq_left hle]
            exact Trl.bind hy hyk hyn (by simp only [HU.bind]; rw [hcs]) (by simp only [HU.bind]; rw [htr])
          · rw [Int.max_eq_left hle, Int.min_eq_right hle]
            exact Trl.bind hx hxk hxn (by simp only [HU.bind]; rw [hcs]) (by simp only [HU.bind]; rw [htr])
      · rw [if_neg hyk]
        exact hfail.trans (asg_trl hg2 (by rw [hcs]; exact hx) hxk hxn)
    · rw [if_neg hxk]
      by_cases hyk : y.k = 0
      · have hyn : y.n = q := Classical.byContradiction fun e => hye ⟨hyk, e⟩
        rw [if_pos hyk]
        exact hfail.trans (asg_trl hg2 (by rw [hcs]; exact hy) hyk hyn)
      · rw [if_neg hyk]
        unfold partsU
        split
        · exact hfail.trans (all_trl (n := n) (fun x y u => uni_up f x y u) (fun x y u h hl => uni_trl f x y u h hl) _ _ _ v hg2 hl3)
        · exact hfail
theorem hpure_gu {h : HH} (hg : goodH h = true) : GU h.cs.length ⟨h.cs, h.tr, 0, false⟩ := by
  unfold goodH goodCs goodTr at hg
  simp only [Bool.and_eq_true, decide_eq_true_eq] at hg
  exact ⟨rfl, hg.1.2, fun _ => by show (0 : Nat) ≤ 400; omega, by show h.tr.length ≤ 65536 + 0; omega⟩
/-- What Unify gives when two places could be made one. -/
theorem unify_ok {h u : HH} {a b : Int} {e : Int} (hu : unifyH h a b = (u, true, e)) : goodH h = true ∧ e = 0 ∧ goodH u = true ∧ Sm u.cs a b ∧ undoH u (h.tr.length : Nat) = (h, 0) ∧ isAddr u.cs a = true ∧ isAddr u.cs b = true ∧ u.tr.length ≤ 65536 := by
  unfold unifyH at hu
  by_cases hg : goodH h = false
  · rw [if_pos hg] at hu; simp at hu
  rw [if_neg hg] at hu
  have hg : goodH h = true := by simpa using hg
  by_cases hab : (isAddr h.cs a && isAddr h.cs b) = false
  · rw [if_pos hab] at hu; simp at hu
  rw [if_neg hab] at hu
  have hab : isAddr h.cs a = true ∧ isAddr h.cs b = true := by simpa using hab
  have hG := hpure_gu hg
  have huu := uni_up 401 a b _ hG rfl
  have hone := uni_one 401 a b _ hG rfl
  have htrl := uni_trl 401 a b _ hG rfl
  generalize uniU 401 a b ⟨h.cs, h.tr, 0, false⟩ = r at *
  split at hu
  · simp at hu
  rename_i hn
  split at hu
  · simp at hu
  rename_i hok
  simp only [Prod.mk.injEq, true_and] at hu
  obtain ⟨rfl, rfl⟩ := hu
  have hok : r.1 = true := by simpa using hok
  have hlen : r.2.tr.length ≤ 65536 := by
    rcases Nat.lt_or_ge 65536 r.2.tr.length with h1 | h1
    · exact absurd (.inr ⟨hok, h1⟩) hn
    · exact h1
  obtain ⟨N, t1, t2⟩ := htrl
  replace t1 : r.2.tr = h.tr ++ N := t1
  replace t2 : Bd N h.cs r.2.cs := t2
  have hln := huu.gu.len
  have hgu : goodH ⟨r.2.cs, r.2.tr⟩ = true := by
    have hg' := hg
    unfold goodH goodCs goodTr at hg ⊢
    simp only [Bool.and_eq_true, decide_eq_true_eq, List.all_eq_true] at hg ⊢
    refine ⟨⟨by rw [hln]; exact hg.1.1, by rw [hln]; exact huu.gu.good⟩, hlen, fun s hs => ?_⟩
    rw [t1] at hs
    unfold goodTr1
    rcases List.mem_append.1 hs with hs | hs
    · have := hg.2.2 s hs
      unfold goodTr1 at this
      split at this
      · rename_i c hc
        obtain ⟨d, d1, d2⟩ := t2.kind hc
        rw [d1]; dsimp only; rw [d2]; exact this
      · cases this
    · have s0 := t2.1 s hs
      have e : ((s.toNat : Nat) : Int) = s := by omega
      obtain ⟨c, n, c1, c2, c3, c4⟩ := (t2.2 s.toNat).1 (by rw [e]; exact hs)
      rw [show hat r.2.cs s = some ⟨c.k, n, c.s⟩ by unfold hat; rw [if_pos s0]; exact c4]
      simp [c2]
  refine ⟨hg, rfl, hgu, (hone hok).sm _ (Up.refl _), ?_, ?_, ?_, hlen⟩
  · unfold undoH
    rw [if_neg (by rw [hgu]; decide), if_neg (by dsimp only; rw [t1]; simp; omega)]
    dsimp only
    rw [t1, show ((h.tr.length : Nat) : Int).toNat = h.tr.length by omega, List.drop_left, List.take_left, t2.undo]
  · have := hab.1; unfold isAddr at this ⊢; rw [hln]; exact this
  · have := hab.2; unfold isAddr at this ⊢; rw [hln]; exact this
theorem unify_not {h u : HH} {a b : Int} {e : Int} (hu : unifyH h a b = (u, false, e)) : u = h := by
  unfold unifyH at hu
  by_cases h1 : goodH h = false
  · rw [if_pos h1] at hu; simp at hu; exact hu.1.symm
  rw [if_neg h1] at hu
  by_cases h2 : (isAddr h.cs a && isAddr h.cs b) = false
  · rw [if_pos h2] at hu; simp at hu; exact hu.1.symm
  rw [if_neg h2] at hu
  split at hu
  · simp at hu; exact hu.1.symm
  · split at hu
    · simp at hu; exact hu.1.symm
    · simp at hu
/-- What is one is one again, unless that takes too long. -/
theorem unify_again {u : HH} {a b : Int} (hg : goodH u = true) (ha : isAddr u.cs a = true) (hb : isAddr u.cs b = true) (hs : Sm u.cs a b) : unifyH u a b = (u, false, 3) ∨ unifyH u a b = (u, true, 0) := by
  have hG := hpure_gu hg
  have htl : u.tr.length ≤ 65536 := by
    unfold goodH goodTr at hg
    simp only [Bool.and_eq_true, decide_eq_true_eq] at hg
    exact hg.2.1
  have hst := uni_still (L := u.cs) 401 a b _ hG rfl rfl (by show 400 ≤ 0 + 401; omega) hs
  unfold unifyH
  rw [if_neg (by rw [hg]; decide), ha, hb, if_neg (by decide)]
  generalize uniU 401 a b ⟨u.cs, u.tr, 0, false⟩ = r at *
  rcases hst with h1 | ⟨h1, h2, h3, h4, h5⟩
  · rw [if_pos (.inl h1)]; exact .inl rfl
  · replace h2 : r.2.cs = u.cs := h2
    replace h3 : r.2.tr = u.tr := h3
    rw [if_neg (by rw [h5, h3]; simp; omega), if_neg (by rw [h1]; decide), h2, h3]
    exact .inr rfl
end Go.Proofs.Ytdflngjfnpbpmab
namespace Go.Proofs.Ytdflngjfnpbpmab
open Go.RowKit
set_option linter.unusedVariables false
set_option linter.unusedSimpArgs false

/-- The terms at m places from a on: g gives the one at a place. -/
def listT (g : Int → Nat → Option (Tm × Nat)) : Nat → Int → Nat → Option (Ts × Nat)
  | 0, _, l => some (.nil, l)
  | m + 1, a, l => (g a l).bind fun p => (listT g m (a + 1) p.2).map fun q => (.cons p.1.k p.1.n p.1.s p.1.ar q.1, q.2)
/-- The term at a place, and how many nodes are left; none: there are not enough, or a Ref leads nowhere. -/
def tmAt (L : List HC) : Nat → Int → Nat → Option (Tm × Nat)
  | 0, _, _ => none
  | f + 1, a, l => if l = 0 then none else match hat L (hlook L a) with
    | none => none
    | some c => if c.k = 0 then some (⟨0, hlook L a, eS, .nil⟩, l - 1)
      else if c.k = 1 then some (⟨1, 0, c.s, .nil⟩, l - 1)
      else if c.k = 2 then some (⟨2, c.n, eS, .nil⟩, l - 1)
      else (listT (tmAt L f) (argsC c).toNat (hlook L a + 1) (l - 1)).map fun p => (⟨3, 0, c.s, p.1⟩, p.2)
def zeroTm : Tm := ⟨0, 0, eS, .nil⟩
def mostN (most : Int) : Nat := (min most 65536).toNat
def termH (h : HH) (a most : Int) : Tm × Nat × Int :=
  if goodH h = false then (zeroTm, 0, 1)
  else if isAddr h.cs a = false then (zeroTm, 0, 4)
  else match tmAt h.cs (mostN most) a (mostN most) with
    | none => (zeroTm, 0, 3)
    | some (t, l) => (t, mostN most - l, 0)
theorem tmAt_hat {L : List HC} {f : Nat} {a : Int} {l : Nat} {c : HC} (hl : l ≠ 0) (hc : hat L (hlook L a) = some c) : tmAt L (f + 1) a l = if c.k = 0 then some (⟨0, hlook L a, eS, .nil⟩, l - 1)
      else if c.k = 1 then some (⟨1, 0, c.s, .nil⟩, l - 1)
      else if c.k = 2 then some (⟨2, c.n, eS, .nil⟩, l - 1)
      else (listT (tmAt L f) (argsC c).toNat (hlook L a + 1) (l - 1)).map fun p => (⟨3, 0, c.s, p.1⟩, p.2) := by
  simp only [tmAt]; rw [if_neg hl, hc]
theorem tmAt_none {L : List HC} {f : Nat} {a : Int} {l : Nat} (hc : hlook L a < 0) : tmAt L f a l = none := by
  cases f with
  | zero => rfl
  | succ f =>
    simp only [tmAt]
    split
    · rfl
    · rw [show hat L (hlook L a) = none by unfold hat; rw [if_neg (by omega)]]
theorem listT_sm {L : List HC} {g : Int → Nat → Option (Tm × Nat)} (hg : ∀ a b l, Sm L a b → g a l = g b l) : ∀ (m : Nat) (a b : Int) (l : Nat), (∀ i : Int, 0 ≤ i → i < m → Sm L (a + i) (b + i)) → listT g m a l = listT g m b l
  | 0, a, b, l, _ => rfl
  | m + 1, a, b, l, h => by
    simp only [listT]
    have h0 := h 0 (by omega) (by omega)
    rw [hg a b l (by simpa using h0)]
    congr 1
    funext p
    rw [listT_sm hg m (a + 1) (b + 1) p.2 fun i i0 i1 => by
      have := h (i + 1) (by omega) (by omega)
      rw [show a + 1 + i = a + (i + 1) by omega, show b + 1 + i = b + (i + 1) by omega]; exact this]
theorem tmAt_sm {L : List HC} : ∀ (f : Nat) (a b : Int) (l : Nat), Sm L a b → tmAt L f a l = tmAt L f b l
  | 0, a, b, l, _ => rfl
  | f + 1, a, b, l, h => by
    by_cases hl : l = 0
    · simp only [tmAt]; rw [if_pos hl, if_pos hl]
    rcases h.ends with e | ⟨x, y, hx, hy, e⟩
    · rw [e]
    obtain ⟨c, c1, _⟩ := hx.last
    obtain ⟨d, d1, _⟩ := hy.last
    rw [tmAt_hat hl (by rw [hx.look]; exact c1), tmAt_hat hl (by rw [hy.look]; exact d1), hx.look, hy.look]
    rcases e with e | ⟨z, z1, z2, z3, z4⟩
    · subst e; rw [c1] at d1; cases d1; rfl
    · rw [c1] at z1; cases z1
      rw [d1] at z2; cases z2
      rw [if_neg z3, if_neg z3]
      by_cases k1 : c.k = 1
      · rw [if_pos k1, if_pos k1]
      by_cases k2 : c.k = 2
      · rw [if_neg k1, if_neg k1, if_pos k2, if_pos k2]
      rw [if_neg k1, if_neg k1, if_neg k2, if_neg k2]
      rw [listT_sm (fun a b l => tmAt_sm f a b l) (argsC c).toNat (x + 1) (y + 1) (l - 1) fun i i0 i1 => z4 i i0 (by omega)]
theorem listT_nodes {g : Int → Nat → Option (Tm × Nat)} (hg : ∀ a l p, g a l = some p → p.1.ar.nodes + 1 + p.2 = l) : ∀ (m : Nat) (a : Int) (l : Nat) (p : Ts × Nat), listT g m a l = some p → p.1.nodes + p.2 = l ∧ p.1.length = m
  | 0, a, l, p, h => by simp only [listT, Option.some.injEq] at h; subst h; simp [Ts.nodes, Ts.length]
  | m + 1, a, l, p, h => by
    simp only [listT] at h
    cases h1 : g a l with
    | none => rw [h1] at h; simp at h
    | some q =>
      rw [h1, Option.bind_some] at h
      cases h2 : listT g m (a + 1) q.2 with
      | none => rw [h2] at h; simp at h
      | some r =>
        rw [h2, Option.map_some, Option.some.injEq] at h
        subst h
        have e1 := hg a l q h1
        obtain ⟨e2, e3⟩ := listT_nodes hg m (a + 1) q.2 r h2
        simp only [Ts.nodes, Ts.length]
        omega
theorem tmAt_nodes {L : List HC} : ∀ (f : Nat) (a : Int) (l : Nat) (p : Tm × Nat), tmAt L f a l = some p → p.1.ar.nodes + 1 + p.2 = l
  | 0, a, l, p, h => by cases h
  | f + 1, a, l, p, h => by
    by_cases hl : l = 0
    · simp only [tmAt] at h; rw [if_pos hl] at h; cases h
    cases hc : hat L (hlook L a) with
    | none => simp only [tmAt] at h; rw [if_neg hl, hc] at h; cases h
    | some c =>
      rw [tmAt_hat hl hc] at h
      split at h
      · cases h; simp only [Ts.nodes]; omega
      split at h
      · cases h; simp only [Ts.nodes]; omega
      split at h
      · cases h; simp only [Ts.nodes]; omega
      cases h2 : listT (tmAt L f) (argsC c).toNat (hlook L a + 1) (l - 1) with
      | none => rw [h2] at h; cases h
      | some r =>
        rw [h2, Option.map_some, Option.some.injEq] at h
        subst h
        have := (listT_nodes (fun a l p => tmAt_nodes f a l p) _ _ _ _ h2).1
        show r.1.nodes + 1 + r.2 = l
        omega
end Go.Proofs.Ytdflngjfnpbpmab
namespace Go.Proofs.Ytdflngjfnpbpmab
open Go.RowKit

theorem info_term : (Try.prog.info? 39).map (fun i => (i.zero, i.size, i.bytes)) = some (some (.agg #[.int .i64 0, .int .i64 0, .string .empty, .slice none 0 0]), 4, 56) := by kernel_rfl

end Go.Proofs.Ytdflngjfnpbpmab
namespace Go.Proofs.Ytdflngjfnpbpmab
open Go.RowKit

theorem info_terms : (Try.prog.info? 37).map (fun i => (i.zero, i.size, i.bytes)) = some (some (.slice none 0 0), 1, 24) := by kernel_rfl

theorem run_equalIn_slice_nil {P : Program} (w : World) (d : Nat) (t e : TypeId) (a : Option Addr) (l c : Nat) (h : P.underlying t = some (.slice e)) : (Op.equalIn (d + 1) t (.slice a l c) (.slice none 0 0)).run P w = .ok a.isNone w := by
  cases a <;> simp [Op.equalIn, run_underlying h]
theorem run_equal_slice_nil {P : Program} (w : World) (t e : TypeId) (a : Option Addr) (l c : Nat) (h : P.underlying t = some (.slice e)) : (Op.equal t (.slice a l c) (.slice none 0 0)).run P w = .ok a.isNone w := run_equalIn_slice_nil w 9999 t e a l c h
theorem run_eql_slice_nil {P : Program} (w : World) (t e : TypeId) (a : Option Addr) (l c : Nat) (h : P.underlying t = some (.slice e)) : (binOp .eql t (.slice a l c) (.slice none 0 0)).run P w = .ok (.bool a.isNone) w := by
  simp [binOp, run_equal_slice_nil w t e a l c h]

/-- The variable in block pb is a path: a row of the call's own of the slices xs. -/
structure IsPath (w : World) (B pb : Nat) (pv : Value) (xs : List Value) : Prop where
  var : Plot w pb 107 #[pv]
  own : w.ownsRow B 37 1 pv xs.length xs
  apart : pv.ownBlock ≠ some pb

theorem Plot.ne_ {w : World} {g g' : Nat} {t t' : TypeId} {cs cs' : Array Value} (h : Plot w g t cs) (h' : Plot w g' t' cs') (hne : t ≠ t') : g ≠ g' := by
  rintro rfl
  unfold Plot at h h'
  rw [h] at h'
  injection h' with h'
  injection h' with _ ht
  exact hne ht
theorem IsPath.chg {S : Nat → Prop} {w w' : World} {B pb : Nat} {pv : Value} {xs : List Value} (h : IsPath w B pb pv xs) (hc : Chg S w w') (h1 : ¬ S pb) (h2 : ∀ g, pv.ownBlock = some g → ¬ S g) : IsPath w' B pb pv xs :=
  ⟨h.var.chg hc h1, own_chg h.own hc h2, h.apart⟩
theorem IsPath.other {w : World} {B pb b : Nat} {pv : Value} {xs : List Value} {cur : Array Value} (h : IsPath w B pb pv xs) (hb : Plot w b 39 cur) : b ≠ pb ∧ pv.ownBlock ≠ some b := by
  refine ⟨hb.ne_ h.var (by decide), fun e => ?_⟩
  rcases h.own.2 with ⟨e1, _⟩ | ⟨g, cap, cur', e1, _, hh, _⟩
  · rw [e1] at e; simp [Value.ownBlock] at e
  · rw [e1] at e
    simp only [Value.ownBlock, Option.some.injEq] at e
    subst e
    exact hb.ne_ (t' := 37) hh (by decide) rfl
theorem IsPath.set {w : World} {B pb b i : Nat} {pv u : Value} {xs : List Value} {cur : Array Value} (h : IsPath w B pb pv xs) (hb : Plot w b 39 cur) : IsPath (w.setCell ⟨b, i, none⟩ u) B pb pv xs := by
  obtain ⟨h1, h2⟩ := h.other hb
  exact h.chg ((Chg.refl (fun k => k = b) w).setCell (fun _ => rfl) u) (fun e => h1 e.symm) fun g hg e => h2 (by rw [hg, e])
theorem IsPath.keep {w w' : World} {B pb k : Nat} {pv : Value} {xs : List Value} {cur : Array Value} (h : IsPath w B pb pv xs) (hc : Chg (fun k => k = pb ∨ pv.ownBlock = some k) w w') (hk : Plot w k 39 cur) : Plot w' k 39 cur := by
  obtain ⟨h1, h2⟩ := h.other hk
  exact hk.chg hc fun hS => hS.elim h1 h2

set_option maxHeartbeats 400000 in
theorem newPath_any (k n : Int) (s : ByteArray) (A : Option Addr) (l c : Nat) (w : World) :
    Calls Try.prog 95 #[.agg #[.int .i64 k, .int .i64 n, .string s, .slice A l c]] w fun e w' => e = .returned (.slice (some ⟨w.heap.size + 2, 0, none⟩) 1 1) ∧
      w' = ((w.alloc (.cells #[.int .i64 k, .int .i64 n, .string s, .slice A l c] 39)).alloc (.cells #[.int .i64 k, .int .i64 n, .string s, .slice A l c] 39)).alloc (.cells #[.slice (some ⟨w.heap.size + 1, 0, none⟩) 1 1] 37) := by
  go_enter Try.func95, Try.ntmps95
  go_wp2_with fail
  go_ret
  exact ⟨rfl, rfl⟩

set_option maxHeartbeats 400000 in
theorem next_last {w : World} {B pb : Nat} {pv : Value} {ys : List Value} {b o cap : Nat} (hp : IsPath w B pb pv (ys ++ [.slice (some ⟨b, o, none⟩) 1 cap])) (hn : ys.length ≤ 1073741824) :
    Calls Try.prog 82 #[.pointer (some ⟨pb, 0, none⟩)] w fun e w' => e = .returned (.pointer (some ⟨b, o, none⟩)) ∧
      ∃ pv', IsPath w' B pb pv' ys ∧ pv'.ownBlock = pv.ownBlock ∧ Chg (fun k => k = pb ∨ pv.ownBlock = some k) w w' := by
  obtain ⟨hv, ho, ha⟩ := hp
  rcases ho.2 with ⟨_, h0⟩ | ⟨g, cp, cur, rfl, hg, hh, hnc, hcm, hcs, htk⟩
  · simp at h0
  have c0 : w.cell? ⟨pb, 0, none⟩ = some (.slice (some ⟨g, 0, none⟩) (ys ++ [Value.slice (some ⟨b, o, none⟩) 1 cap]).length cp) := hv.cell 0
  have f0 : w.frozen? ⟨pb, 0, none⟩ = false := hv.frozen 0
  have c1 : w.cell? ⟨g, ys.length, none⟩ = some (.slice (some ⟨b, o, none⟩) 1 cap) := by
    rw [ho.cellAt _ (by simp)]; simp
  simp only [List.length_append, List.length_cons, List.length_nil, Nat.zero_add] at c0 hnc
  have hgp : g ≠ pb := fun e => ha (by rw [e]; rfl)
  have hfin : IsPath (w.setCell ⟨pb, 0, none⟩ (.slice (some ⟨g, 0, none⟩) ys.length cp)) B pb (.slice (some ⟨g, 0, none⟩) ys.length cp) ys := by
    refine ⟨hv.set_ 0 _, ⟨by simp, .inr ⟨g, cp, cur, rfl, hg, (Below.heap_setCell _ _ _ _ hgp).trans hh, by omega, hcm, hcs, ?_⟩⟩, by simpa [Value.ownBlock] using hgp⟩
    have := congrArg (List.take (ys.length * 1)) htk
    rw [List.take_take] at this
    simpa [Nat.min_eq_left] using this
  have hchg : Chg (fun k => k = pb ∨ (Value.slice (some ⟨g, 0, none⟩) (ys ++ [Value.slice (some ⟨b, o, none⟩) 1 cap]).length cp).ownBlock = some k) w (w.setCell ⟨pb, 0, none⟩ (.slice (some ⟨g, 0, none⟩) ys.length cp)) :=
    (Chg.refl _ _).setCell (fun _ => .inl rfl) _
  clear hv ho ha htk
  go_enter Try.func82, Try.ntmps82
  go_wp2_with fail
  go_ret
  exact ⟨rfl, _, hfin, rfl, hchg⟩

set_option maxHeartbeats 400000 in
theorem next_more {w : World} {B pb : Nat} {pv : Value} {ys : List Value} {b o l cap : Nat} (hp : IsPath w B pb pv (ys ++ [.slice (some ⟨b, o, none⟩) (l + 2) cap])) (hn : ys.length ≤ 1073741824) (hl : l ≤ 1073741824) (hc : l + 2 ≤ cap) :
    Calls Try.prog 82 #[.pointer (some ⟨pb, 0, none⟩)] w fun e w' => e = .returned (.pointer (some ⟨b, o, none⟩)) ∧
      ∃ pv', IsPath w' B pb pv' (ys ++ [.slice (some ⟨b, o + 4, none⟩) (l + 1) (cap - 1)]) ∧ pv'.ownBlock = pv.ownBlock ∧ Chg (fun k => k = pb ∨ pv.ownBlock = some k) w w' := by
  obtain ⟨hv, ho, ha⟩ := hp
  rcases ho.2 with ⟨_, h0⟩ | ⟨g, cp, cur, rfl, hg, hh, hnc, hcm, hcs, htk⟩
  · simp at h0
  have c0 : w.cell? ⟨pb, 0, none⟩ = some (.slice (some ⟨g, 0, none⟩) (ys ++ [Value.slice (some ⟨b, o, none⟩) (l + 2) cap]).length cp) := hv.cell 0
  have c1 : w.cell? ⟨g, ys.length, none⟩ = some (.slice (some ⟨b, o, none⟩) (l + 2) cap) := by
    rw [ho.cellAt _ (by simp)]; simp
  have f1 : w.frozen? ⟨g, ys.length, none⟩ = false := ho.frozenAt _
  simp only [List.length_append, List.length_cons, List.length_nil, Nat.zero_add] at c0 hnc
  have hgp : g ≠ pb := fun e => ha (by rw [e]; rfl)
  have hst := (ho.stored ys.length (.slice (some ⟨b, o + 4, none⟩) (l + 1) (cap - 1))).1
  have hfin : IsPath (w.setCell ⟨g, ys.length, none⟩ (.slice (some ⟨b, o + 4, none⟩) (l + 1) (cap - 1))).drew B pb (.slice (some ⟨g, 0, none⟩) (ys.length + 1) cp) (ys ++ [.slice (some ⟨b, o + 4, none⟩) (l + 1) (cap - 1)]) := by
    refine ⟨?_, ?_, by simpa [Value.ownBlock] using hgp⟩
    · have := hv.far (p := ⟨g, ys.length, none⟩) (Ne.symm hgp) (.slice (some ⟨b, o + 4, none⟩) (l + 1) (cap - 1))
      simp only [List.length_append, List.length_cons, List.length_nil, Nat.zero_add] at this
      exact this
    · simp at hst
      have e : (ys ++ [Value.slice (some ⟨b, o + 4, none⟩) (l + 1) (cap - 1)]).length = ys.length + 1 := by simp
      rw [e]
      exact hst
  have hchg : Chg (fun k => k = pb ∨ (Value.slice (some ⟨g, 0, none⟩) (ys ++ [Value.slice (some ⟨b, o, none⟩) (l + 2) cap]).length cp).ownBlock = some k) w (w.setCell ⟨g, ys.length, none⟩ (.slice (some ⟨b, o + 4, none⟩) (l + 1) (cap - 1))).drew :=
    ((Chg.refl _ _).setCell (fun _ => .inr rfl) _).drew
  have hl1 : (((l + 2 : Nat) : Int) == 1) = false := by rw [beq_eq_false_iff_ne]; omega
  clear hv ho ha htk hst
  go_enter Try.func82, Try.ntmps82
  go_wp2_with fail
  go_region
  go_wp2_with fail
  go_ret
  exact ⟨rfl, _, hfin, rfl, hchg⟩

set_option maxHeartbeats 400000 in
theorem add_none {w : World} (v : Value) (A : Option Addr) (c : Nat) : Calls Try.prog 81 #[v, .slice A 0 c] w fun e w' => e = .returned (.tuple #[]) ∧ w = w' := by
  go_enter Try.func81, Try.ntmps81
  go_wp2_with fail
  go_end0
  exact ⟨rfl, rfl⟩

set_option maxHeartbeats 400000 in
theorem add_some {w : World} {B pb : Nat} {pv : Value} {xs : List Value} {A : Option Addr} {l c : Nat} (hp : IsPath w B pb pv xs) (hB : B ≤ w.heap.size) (hn : xs.length ≤ 1073741824) :
    Calls Try.prog 81 #[.pointer (some ⟨pb, 0, none⟩), .slice A (l + 1) c] w fun e w' => e = .returned (.tuple #[]) ∧
      ∃ pv', IsPath w' B pb pv' (xs ++ [.slice A (l + 1) c]) ∧ (pv'.ownBlock = pv.ownBlock ∨ ∃ g, pv'.ownBlock = some g ∧ w.heap.size ≤ g) ∧ Chg (fun k => k = pb ∨ pv.ownBlock = some k) w w' := by
  obtain ⟨hv, ho, ha⟩ := hp
  obtain ⟨i0, hi0, hz0, hz1, hz2⟩ := info_parts info_terms
  have c0 : w.cell? ⟨pb, 0, none⟩ = some pv := hv.cell 0
  have hW : Below w.heap.size w (w.alloc (.cells #[.slice A (l + 1) c] 37)) := (Below.refl _ _).alloc (Nat.le_refl _) _
  have ho' := own_below ho hW
  have hlt := hv.lt
  have HB := Lib.hid ha
  clear ha
  go_enter Try.func81, Try.ntmps81
  go_wp2_with (at_builtin; refine wpList_append_at _ rfl (.tmp 10) (.tmp 12) _ rfl B 37 i0 _ 1 24 Try.underlying107 hi0 hz0 hz1 hz2 rfl (by omega) pv xs.length xs rfl ho' ⟨w.heap.size, 0, none⟩ 1 1 [.slice A (l + 1) c] rfl rfl (cell_lit w [.slice A (l + 1) c] 37) (by simp [Value.oneCell']) (by simp only [maxLen]; omega) (by omega) (by simp; omega) ?next)
  case next =>
    intro v' w' hov hg hat
    have cp : Plot w' pb 107 #[pv] := (hv.alloc _).grown hg (fun e => HB.out e.symm)
    have c1 : w'.cell? ⟨pb, 0, none⟩ = some pv := cp.cell 0
    have f1 : w'.frozen? ⟨pb, 0, none⟩ = false := cp.frozen 0
    rcases hov.2 with ⟨_, h0⟩ | ⟨g, cap, cur, rfl, hgB, hh, hnc, hcm, hcs, htk⟩
    · omega
    have hne : g ≠ pb := by
      rcases hat with e | e
      · intro e2; subst e2; exact HB.out e.symm
      · simp [Value.ownBlock] at e; omega
    have hfin : IsPath (w'.setCell ⟨pb, 0, none⟩ (.slice (some ⟨g, 0, none⟩) (xs.length + 1) cap)) B pb (.slice (some ⟨g, 0, none⟩) (xs.length + 1) cap) (xs ++ [.slice A (l + 1) c]) := by
      refine ⟨cp.set_ 0 _, ?_, by simpa [Value.ownBlock] using hne⟩
      have := ownsRow_setCell_other hov (a := ⟨pb, 0, none⟩) (by simpa [Value.ownBlock] using hne) (.slice (some ⟨g, 0, none⟩) (xs.length + 1) cap)
      simpa using this
    have hat' : (Value.slice (some ⟨g, 0, none⟩) (xs.length + 1) cap).ownBlock = pv.ownBlock ∨ ∃ g', (Value.slice (some ⟨g, 0, none⟩) (xs.length + 1) cap).ownBlock = some g' ∧ w.heap.size ≤ g' := by
      rcases hat with e | e
      · exact .inl e
      · exact .inr ⟨_, e, by omega⟩
    have hchg : Chg (fun k => k = pb ∨ pv.ownBlock = some k) w (w'.setCell ⟨pb, 0, none⟩ (.slice (some ⟨g, 0, none⟩) (xs.length + 1) cap)) := by
      refine Chg.setCell ?_ (fun _ => .inl rfl) _
      exact ((Chg.refl _ w).alloc _).trans (Chg.of_grown hg) fun k _ e => .inr e
    have HX := Lib.hid hat'
    clear hat hat' htk hov
    go_wp2_with fail
    go_end0
    exact ⟨rfl, _, hfin, HX.out, hchg⟩

/-- The value v is a slice whose cells, four an element, are xs. -/
def Raw (w : World) (v : Value) (l : Nat) (xs : List Value) : Prop :=
  ∃ A c, v = .slice A l c ∧ l ≤ c ∧ xs.length = l * 4 ∧ (∀ u ∈ xs, u.oneCell' = true) ∧ (0 < l → ∃ b o, A = some ⟨b, o, none⟩ ∧ ∀ j u, xs[j]? = some u → w.cell? ⟨b, o + j, none⟩ = some u)
theorem Sl.raw {w : World} {p : Nat → Prop} {v : Value} {T : Ts} (h : Sl w p v T) : ∃ xs, Raw w v T.length xs ∧ Cs w p T xs := by
  obtain ⟨A, c, rfl, hc, hs⟩ := h
  rcases Nat.eq_zero_or_pos T.length with h | h
  · rw [Ts.nil_of_length h]
    exact ⟨[], ⟨A, c, rfl, Nat.zero_le _, rfl, fun u hu => (by cases hu), fun h => absurd h (Nat.lt_irrefl _)⟩, rfl⟩
  · obtain ⟨b, o, e, hseg⟩ := hs h
    obtain ⟨xs, h1, h2⟩ := hseg.cells
    exact ⟨xs, ⟨A, c, rfl, hc, h1.length, h1.one, fun _ => ⟨b, o, e, h2⟩⟩, h1⟩

set_option maxHeartbeats 400000 in
theorem clone_raw {w : World} {v : Value} {l : Nat} {xs : List Value} (hv : Raw w v l xs) (hn : l ≤ 1073741824) :
    Calls Try.prog 80 #[v] w fun e w' => ∃ v', e = .returned v' ∧ w'.ownsRow w.heap.size 39 4 v' l xs ∧ Below w.heap.size w w' := by
  obtain ⟨A, c, rfl, hc, hlen, hone, hs⟩ := hv
  have hnil : ∀ W, (binOp .eql 37 (.slice A l c) (.slice none 0 0)).run Try.prog W = .ok (.bool A.isNone) W := fun W => run_eql_slice_nil W _ _ A _ c Try.underlying37
  cases A with
  | none =>
    have hl : l = 0 := by
      rcases Nat.eq_zero_or_pos l with h | h
      · exact h
      · obtain ⟨b, o, e, _⟩ := hs h; cases e
    subst hl
    have hx : xs = [] := List.eq_nil_of_length_eq_zero (by simpa using hlen)
    subst hx
    clear hlen hs hone
    go_enter Try.func80, Try.ntmps80
    go_wp2_with fail
    go_ret
    exact ⟨_, rfl, World.ownsRow_nil _ _ _ _, Below.refl _ _⟩
  | some a =>
    obtain ⟨i0, hi0, hz0, hz1, hz2⟩ := info_parts info_term
    have hcell : ∀ j u, xs[j]? = some u → w.cell? (a.add j) = some u := by
      rcases Nat.eq_zero_or_pos l with h | h
      · have hx : xs = [] := List.eq_nil_of_length_eq_zero (by simpa [h] using hlen)
        subst hx
        intro j u hu; simp at hu
      · obtain ⟨b, o, e, h2⟩ := hs h
        simp only [Option.some.injEq] at e
        subst e
        intro j u hu
        have := h2 j u hu
        by_cases hj : j = 0
        · subst hj; simpa [Addr.add] using this
        · simpa [Addr.add, hj] using this
    have hW : Below w.heap.size w (w.alloc (.cells #[] 39)) := (Below.refl _ _).alloc (Nat.le_refl _) _
    have ho : (w.alloc (.cells #[] 39)).ownsRow w.heap.size 39 4 (.slice (some ⟨w.heap.size, 0, none⟩) 0 0) 0 [] := by
      simpa using World.ownsRow_lit (base := w.heap.size) (e := 39) (size := 4) w #[] 0 (Nat.le_refl _) (by simp [maxLen]) (by simp)
    have hcell' : ∀ j u, xs[j]? = some u → (w.alloc (.cells #[] 39)).cell? (a.add j) = some u := fun j u hu => (hW.cell (lt_of_cell (hcell j u hu))).trans (hcell j u hu)
    have H1 := Lib.hid hcell'
    have H2 := Lib.hid hone
    have H3 := Lib.hid hlen
    clear hcell hcell' hs hone hlen
    go_enter Try.func80, Try.ntmps80
    go_wp2_with (at_builtin; refine wpList_append_at _ rfl (.tmp 5) (.tmp 6) _ rfl w.heap.size 39 i0 _ 4 56 Try.underlying37 hi0 hz0 hz1 hz2 rfl (by omega) _ 0 [] rfl ho a l c xs rfl H3.out H1.out H2.out (by simp only [maxLen]; omega) (by omega) (by simp) ?next)
    case next =>
      intro v' w' hov hg hat
      have hb : Below w.heap.size w w' := by
        refine hW.grown hg (by simp) fun k hk => ?_
        simp [Value.ownBlock] at hk; omega
      go_wp2_with fail
      go_ret
      exact ⟨_, rfl, by simpa using hov, hb⟩

/-- A list of terms that is still to be visited: from cell o of block b on. -/
structure Lev where
  b : Nat
  o : Nat
  T : Ts
def push (T : Ts) (b o : Nat) (L : List Lev) : List Lev := if T.length = 0 then L else ⟨b, o, T⟩ :: L
def nodesOf (L : List Lev) : Nat := (L.map fun l => l.T.nodes).sum
theorem nodesOf_push (T : Ts) (b o : Nat) (L : List Lev) : nodesOf (push T b o L) = T.nodes + nodesOf L := by
  unfold push
  split
  · rename_i h; rw [Ts.nil_of_length h]; simp [Ts.nodes]
  · simp [nodesOf]
/-- The path's slices, the newest last, are the levels, the newest first. -/
def PV : List Lev → List Value → Prop
  | [], xs => xs = []
  | l :: r, xs => ∃ ys cap, xs = ys ++ [.slice (some ⟨l.b, l.o, none⟩) l.T.length cap] ∧ l.T.length ≤ cap ∧ 0 < l.T.length ∧ PV r ys
theorem PV.length : ∀ {L : List Lev} {xs : List Value}, PV L xs → xs.length = L.length
  | [], xs, h => by rw [show xs = [] from h]; rfl
  | l :: r, xs, ⟨ys, cap, e, _, _, h⟩ => by rw [e]; simp [h.length]
theorem PV.le : ∀ {L : List Lev} {xs : List Value}, PV L xs → L.length ≤ nodesOf L
  | [], xs, h => by simp [nodesOf]
  | l :: r, xs, ⟨ys, cap, e, _, h0, h⟩ => by
    have := h.le
    have := l.T.length_le
    simp only [List.length_cons, nodesOf, List.map_cons, List.sum_cons] at *
    omega

theorem next_lev {w : World} {B pb : Nat} {pv : Value} {xs : List Value} {b o : Nat} {k n : Int} {s : ByteArray} {ar r : Ts} {L : List Lev} (hp : IsPath w B pb pv xs) (hv : PV (⟨b, o, .cons k n s ar r⟩ :: L) xs) (hn : nodesOf (⟨b, o, .cons k n s ar r⟩ :: L) ≤ 1073741824) :
    Calls Try.prog 82 #[.pointer (some ⟨pb, 0, none⟩)] w fun e w' => e = .returned (.pointer (some ⟨b, o, none⟩)) ∧
      ∃ pv' xs', IsPath w' B pb pv' xs' ∧ PV (push r b (o + 4) L) xs' ∧ pv'.ownBlock = pv.ownBlock ∧ Chg (fun k => k = pb ∨ pv.ownBlock = some k) w w' := by
  have hle := hv.le
  obtain ⟨ys, cap, rfl, hcap, _, hys⟩ := hv
  have hyl := hys.length
  have hrl := r.length_le
  simp only [List.length_cons, nodesOf, List.map_cons, List.sum_cons, Ts.nodes] at hle hn
  simp only [Ts.length] at hp hcap
  cases hr : r.length with
  | zero =>
    rw [hr] at hp
    refine (next_last hp (by omega)).mono ?_
    rintro e w' ⟨he, pv', h1, h2, h3⟩
    exact ⟨he, pv', ys, h1, by simpa [push, hr] using hys, h2, h3⟩
  | succ l =>
    rw [hr] at hp hcap
    refine (next_more hp (by omega) (by omega) hcap).mono ?_
    rintro e w' ⟨he, pv', h1, h2, h3⟩
    refine ⟨he, pv', _, h1, ?_, h2, h3⟩
    have e : push r b (o + 4) L = ⟨b, o + 4, r⟩ :: L := by simp [push, hr]
    rw [e]
    exact ⟨ys, cap - 1, by rw [hr], by show r.length ≤ _; omega, by show 0 < r.length; omega, hys⟩

theorem add_lev {w : World} {B pb : Nat} {pv : Value} {xs : List Value} {A : Option Addr} {c : Nat} {T : Ts} {b o : Nat} {L : List Lev} (hp : IsPath w B pb pv xs) (hv : PV L xs) (hB : B ≤ w.heap.size) (hn : nodesOf L ≤ 1073741824) (hc : T.length ≤ c) (hA : 0 < T.length → A = some ⟨b, o, none⟩) :
    Calls Try.prog 81 #[.pointer (some ⟨pb, 0, none⟩), .slice A T.length c] w fun e w' => e = .returned (.tuple #[]) ∧
      ∃ pv' xs', IsPath w' B pb pv' xs' ∧ PV (push T b o L) xs' ∧ (pv'.ownBlock = pv.ownBlock ∨ ∃ g, pv'.ownBlock = some g ∧ w.heap.size ≤ g) ∧ Chg (fun k => k = pb ∨ pv.ownBlock = some k) w w' := by
  have hle := hv.le
  have hyl := hv.length
  cases hl : T.length with
  | zero =>
    refine (add_none _ _ _).mono ?_
    rintro e w' ⟨he, rfl⟩
    exact ⟨he, pv, xs, hp, by simpa [push, hl] using hv, .inl rfl, Chg.refl _ _⟩
  | succ l =>
    refine (add_some hp hB (by omega)).mono ?_
    rintro e w' ⟨he, pv', h1, h2, h3⟩
    refine ⟨he, pv', _, h1, ?_, h2, h3⟩
    have e : push T b o L = ⟨b, o, T⟩ :: L := by simp [push, hl]
    rw [e]
    refine ⟨xs, c, ?_, hc, by show 0 < T.length; omega, hv⟩
    rw [hA (by omega), hl]
end Go.Proofs.Ytdflngjfnpbpmab
namespace Go.Proofs.Ytdflngjfnpbpmab
open Go.RowKit

/-- Block mb is a map with these pairs. -/
def MapIs (w : World) (mb : Nat) (ents : List (Int × Value)) : Prop :=
  ∃ es clock, w.heap[mb]? = some (.map es clock) ∧ es.toList.map (fun e => (e.key, e.val)) = ents.map (fun x => (Value.int .i64 x.1, x.2))

def aget (n : Int) : List (Int × Value) → Option Value
  | [] => none
  | x :: r => if n = x.1 then some x.2 else aget n r
def aput (n : Int) (v : Value) : List (Int × Value) → List (Int × Value)
  | [] => [(n, v)]
  | x :: r => if n = x.1 then (n, v) :: r else x :: aput n v r
def aidx (n : Int) : List (Int × Value) → Nat → Option (Nat × Value)
  | [], _ => none
  | x :: r, i => if n = x.1 then some (i, x.2) else aidx n r (i + 1)

theorem isKey_int (n : Int) : MapKept.IsKey (.int .i64) (.int .i64 n) := by simp [MapKept.IsKey]

theorem findNow_ints (n : Int) : ∀ (es : List MapEntry) (ents : List (Int × Value)) (i : Nat), es.map (fun e => (e.key, e.val)) = ents.map (fun x => (Value.int .i64 x.1, x.2)) →
    Instr.findNow (.int .i64) (.int .i64 n) es i = some (aidx n ents i)
  | [], [], i, _ => rfl
  | [], _ :: _, _, h => by simp at h
  | _ :: _, [], _, h => by simp at h
  | e :: es, x :: ents, i, h => by
    simp only [List.map_cons, List.cons.injEq, Prod.mk.injEq] at h
    obtain ⟨⟨h1, h2⟩, h3⟩ := h
    have ih := findNow_ints n es ents (i + 1) h3
    simp only [Instr.findNow, h1, Instr.sameNow, aidx, if_true]
    by_cases e1 : n = x.1
    · simp [e1, h2]
    · have e2 : (n == x.1) = false := by simpa using e1
      rw [e2, if_neg e1, ← ih]

theorem aidx_none {n : Int} : ∀ {ents : List (Int × Value)} {i : Nat}, aidx n ents i = none ↔ aget n ents = none
  | [], _ => by simp [aidx, aget]
  | x :: r, i => by
    simp only [aidx, aget]
    by_cases e : n = x.1
    · simp [e]
    · simp only [e, if_false]; exact aidx_none
theorem aidx_some {n : Int} : ∀ {ents : List (Int × Value)} {i j : Nat} {v : Value}, aidx n ents i = some (j, v) → aget n ents = some v
  | [], _, _, _, h => by simp [aidx] at h
  | x :: r, i, j, v, h => by
    simp only [aidx, aget] at *
    by_cases e : n = x.1
    · simp only [e, if_true, Option.some.injEq, Prod.mk.injEq] at h ⊢; exact h.2
    · simp only [e, if_false] at h ⊢; exact aidx_some h
theorem aput_none {n : Int} {v : Value} : ∀ {ents : List (Int × Value)}, aget n ents = none → aput n v ents = ents ++ [(n, v)]
  | [], _ => rfl
  | x :: r, h => by
    simp only [aget] at h
    by_cases e : n = x.1
    · simp [e] at h
    · simp only [e, if_false] at h
      simp only [aput, e, if_false, aput_none h, List.cons_append]
theorem aput_some {n : Int} {v u : Value} : ∀ {ents : List (Int × Value)} {i j : Nat}, aidx n ents i = some (j, u) → i ≤ j ∧ (ents[j - i]?).map (·.1) = some n ∧ aput n v ents = ents.set (j - i) (n, v)
  | [], _, _, h => by simp [aidx] at h
  | x :: r, i, j, h => by
    simp only [aidx, aput] at *
    by_cases e : n = x.1
    · simp only [e, if_true, Option.some.injEq, Prod.mk.injEq] at h
      obtain ⟨rfl, _⟩ := h
      simp [e]
    · simp only [e, if_false] at h ⊢
      obtain ⟨h1, h2, h3⟩ := aput_some (v := v) h
      have e1 : j - i = (j - (i + 1)) + 1 := by omega
      refine ⟨by omega, by rw [e1]; simpa using h2, by rw [h3, e1]; rfl⟩

section
variable {P : Program} {w : World} {mb : Nat} {ents : List (Int × Value)} {t kt et : TypeId}
theorem MapIs.lt (h : MapIs w mb ents) : mb < w.heap.size := by
  obtain ⟨es, clock, hb, _⟩ := h
  exact (Array.getElem?_eq_some_iff.1 hb).1
theorem MapIs.keep {w' : World} (h : MapIs w mb ents) (hk : w'.heap[mb]? = w.heap[mb]?) : MapIs w' mb ents := by
  obtain ⟨es, clock, hb, he⟩ := h
  exact ⟨es, clock, hk.trans hb, he⟩
theorem MapIs.chg {S : Nat → Prop} {w' : World} (h : MapIs w mb ents) (hc : Chg S w w') (hS : ¬ S mb) : MapIs w' mb ents := h.keep (hc.block mb h.lt hS)
theorem MapIs.made (w : World) : MapIs (w.alloc (.map #[] 0)) w.heap.size [] := ⟨#[], 0, heap_alloc_new w _, rfl⟩

theorem run_makeMap {P : Program} (t : TypeId) (w : World) : (Instr.makeMap t none).run P w = .ok (.map (some w.heap.size)) (w.alloc (.map #[] 0)) := by
  simp [Instr.makeMap, newObj, Sem.run]
theorem MapIs.lookup (h : MapIs w mb ents) {z : Value} (ht : P.underlying t = some (.map kt et)) (hk : P.underlying kt = some (.int .i64))
    (hz : (zeroValue et).run P w = .ok z w) (n : Int) (c : Bool) :
    (Instr.lookup t (.map (some mb)) (.int .i64 n) c).run P w = .ok (if c then .tuple #[(aget n ents).getD z, .bool (aget n ents).isSome] else (aget n ents).getD z) w := by
  obtain ⟨es, clock, hb, he⟩ := h
  have hf := findNow_ints n es.toList ents 0 he
  cases ha : aidx n ents 0 with
  | none =>
    rw [ha] at hf
    simp [Instr.lookup, run_underlying ht, MapKept.run_getObj_map hb, MapKept.run_checkKey hk (isKey_int n), MapKept.run_findKey hk hf, hz, Result.andThen, aidx_none.1 ha]
  | some x =>
    rw [ha] at hf
    simp [Instr.lookup, run_underlying ht, MapKept.run_getObj_map hb, MapKept.run_checkKey hk (isKey_int n), MapKept.run_findKey hk hf, Result.andThen, aidx_some ha]

theorem MapIs.update (h : MapIs w mb ents) (ht : P.underlying t = some (.map kt et)) (hk : P.underlying kt = some (.int .i64)) (n : Int) (v : Value) :
    ∃ w', (Instr.mapUpdate t (.map (some mb)) (.int .i64 n) v).run P w = .ok () w' ∧ MapIs w' mb (aput n v ents) ∧ Chg (fun k => k = mb) w w' ∧ w'.heap.size = w.heap.size := by
  have hlt := h.lt
  obtain ⟨es, clock, hb, he⟩ := h
  have hf := findNow_ints n es.toList ents 0 he
  cases ha : aidx n ents 0 with
  | none =>
    rw [ha] at hf
    refine ⟨{ w with heap := w.heap.setIfInBounds mb (.map (es.push { key := .int .i64 n, val := v, born := clock }) (clock + 1)) }, ?_, ⟨_, _, (MapKept.heap_set hb).1, ?_⟩, ⟨rfl, rfl, rfl, by simp, fun k _ hn => (MapKept.heap_set hb).2 k hn⟩, by simp⟩
    · simp [Instr.mapUpdate, run_underlying ht, MapKept.run_getObj_map hb, MapKept.run_checkKey hk (isKey_int n), MapKept.run_findKey hk hf, MapKept.run_setObj_map _ hb, Result.andThen]
    · rw [aput_none (aidx_none.1 ha), Array.toList_push, List.map_append, List.map_append, he]; rfl
  | some x =>
    obtain ⟨j, u⟩ := x
    rw [ha] at hf
    obtain ⟨_, h2, h3⟩ := aput_some (v := v) ha
    simp only [Nat.sub_zero] at h2 h3
    have hent : ∃ e, es[j]? = some e ∧ e.key = .int .i64 n := by
      have h4 := congrArg (fun l => l[j]?) he
      simp only [List.getElem?_map] at h4
      cases h5 : ents[j]? with
      | none => rw [h5] at h2; simp at h2
      | some y =>
        rw [h5] at h2 h4
        simp only [Option.map_some, Option.some.injEq] at h2
        cases h6 : es[j]? with
        | none => simp [h6] at h4
        | some e =>
          simp [h6] at h4
          exact ⟨e, rfl, by rw [h4.1, h2]⟩
    obtain ⟨e, hj, hkey⟩ := hent
    refine ⟨{ w with heap := w.heap.setIfInBounds mb (.map (es.modify j fun e => { e with key := .int .i64 n, val := v }) clock) }, ?_, ⟨_, _, (MapKept.heap_set hb).1, ?_⟩, ⟨rfl, rfl, rfl, by simp, fun k _ hn => (MapKept.heap_set hb).2 k hn⟩, by simp⟩
    · simp [Instr.mapUpdate, run_underlying ht, MapKept.run_getObj_map hb, MapKept.run_checkKey hk (isKey_int n), MapKept.run_findKey hk hf, hj, hkey, MapKept.run_keyThatStays (isKey_int n), MapKept.run_setObj_map _ hb, Result.andThen]
    · rw [h3]
      apply List.ext_getElem?
      intro i
      have h4 := congrArg (fun l => l[i]?) he
      simp only [List.getElem?_map, Array.getElem?_toList] at h4
      simp only [List.getElem?_map, Array.getElem?_toList, Array.getElem?_modify, List.getElem?_set]
      by_cases hij : j = i
      · subst hij
        have hjl : j < ents.length := by
          rcases Nat.lt_or_ge j ents.length with hl | hl
          · exact hl
          · rw [List.getElem?_eq_none hl] at h2; simp at h2
        simp [hj, hjl]
      · simp [hij, h4]
theorem MapIs.size (h : MapIs w mb ents) : ∃ es clock, w.heap[mb]? = some (.map es clock) ∧ es.size = ents.length := by
  obtain ⟨es, clock, hb, he⟩ := h
  refine ⟨es, clock, hb, ?_⟩
  have := congrArg List.length he
  simpa using this
theorem MapIs.len (h : MapIs w mb ents) (ht : P.underlying t = some (.map kt et)) (ty : TypeId) : (Builtin.len_ #[t] ty #[.map (some mb)]).run P w = .ok (.int .i64 ents.length) w := by
  obtain ⟨es, clock, hb, hs⟩ := h.size
  simp [Builtin.len_, run_underlying ht, MapKept.run_getObj_map hb, Result.andThen, hs, goInt]
end
end Go.Proofs.Ytdflngjfnpbpmab
namespace Go.Proofs.Ytdflngjfnpbpmab
open Go.RowKit

/-- The remainder modulo 2^40 that is not negative. -/
def low (n : Int) : Int := n % 1099511627776
theorem low_bounds (n : Int) : 0 ≤ low n ∧ low n < 1099511627776 := by unfold low; omega

/-- Where a number stands in a list. -/
def pos (n : Int) : List Int → Option Nat
  | [] => none
  | k :: r => if n = k then some 0 else (pos n r).map (· + 1)
/-- The number of a variable, by the order in which the variables have come; the variables then. -/
def numV (ks : List Int) (n : Int) : Int := ((pos n ks).getD ks.length : Nat)
def numS (ks : List Int) (n : Int) : List Int := if (pos n ks).isSome then ks else ks ++ [n]
def entsFrom (i : Nat) : List Int → List (Int × Value)
  | [] => []
  | k :: r => (k, .int .i64 i) :: entsFrom (i + 1) r
theorem length_entsFrom : ∀ (ks : List Int) (i : Nat), (entsFrom i ks).length = ks.length
  | [], _ => rfl
  | _ :: r, i => by simp [entsFrom, length_entsFrom r (i + 1)]
theorem aget_entsFrom (n : Int) : ∀ (ks : List Int) (i : Nat), aget n (entsFrom i ks) = (pos n ks).map fun j => Value.int .i64 ((i + j : Nat) : Int)
  | [], _ => rfl
  | k :: r, i => by
    simp only [entsFrom, aget, pos]
    by_cases e : n = k
    · simp [e]
    · simp only [e, if_false, aget_entsFrom n r (i + 1), Option.map_map]
      congr 1
      funext j
      simp only [Function.comp]
      congr 2
      omega
theorem entsFrom_snoc (n : Int) : ∀ (ks : List Int) (i : Nat), entsFrom i (ks ++ [n]) = entsFrom i ks ++ [(n, .int .i64 ((i + ks.length : Nat) : Int))]
  | [], i => rfl
  | k :: r, i => by
    simp only [List.cons_append, entsFrom, entsFrom_snoc n r (i + 1), List.length_cons]
    congr 5
    omega
/-- The map in block mb numbers the variables ks. -/
def NumIs (w : World) (mb : Nat) (ks : List Int) : Prop := MapIs w mb (entsFrom 0 ks)
theorem numS_length (ks : List Int) (n : Int) : (numS ks n).length ≤ ks.length + 1 := by
  unfold numS; split <;> simp

theorem pos_snoc {n : Int} : ∀ {ks : List Int}, pos n ks = none → pos n (ks ++ [n]) = some ks.length
  | [], _ => by simp [pos]
  | k :: r, h => by
    simp only [pos] at h
    by_cases e : n = k
    · simp [e] at h
    · simp only [e, if_false, Option.map_eq_none_iff] at h
      simp [pos, e, pos_snoc h]
theorem Plot.not_map {w : World} {g mb : Nat} {t : TypeId} {cs : Array Value} {ents : List (Int × Value)} (h : Plot w g t cs) (hm : MapIs w mb ents) : g ≠ mb := by
  rintro rfl
  obtain ⟨es, clock, hb, _⟩ := hm
  unfold Plot at h
  rw [hb] at h
  cases h

theorem info_int : (Try.prog.info? 3).map (fun i => (i.zero, i.size, i.bytes)) = some (some (.int .i64 0), 1, 8) := by kernel_rfl
theorem zero_int (w : World) : (zeroValue 3).run Try.prog w = .ok (.int .i64 0) w := by
  obtain ⟨i0, hi0, hz0, _⟩ := info_parts info_int
  simp [zeroValue, typeInfo, hi0, hz0]

theorem tmod_bounds (n : Int) : -1099511627776 < n.tmod 1099511627776 ∧ n.tmod 1099511627776 < 1099511627776 := by
  rcases Int.le_total 0 n with h | h
  · rw [Int.tmod_eq_emod_of_nonneg h]; omega
  · have e : n = -(-n) := by omega
    rw [e, Int.neg_tmod, Int.tmod_eq_emod_of_nonneg (by omega)]; omega
theorem low_of_tmod (n : Int) : low n = if 0 ≤ n.tmod 1099511627776 then n.tmod 1099511627776 else n.tmod 1099511627776 + 1099511627776 := by
  unfold low
  rcases Int.le_total 0 n with h | h
  · rw [Int.tmod_eq_emod_of_nonneg h]; omega
  · have e : n.tmod 1099511627776 = -((-n) % 1099511627776) := by
      have e : n = -(-n) := by omega
      rw [e, Int.neg_tmod, Int.tmod_eq_emod_of_nonneg (by omega)]; simp
    rw [e]; omega

set_option maxHeartbeats 400000 in
theorem tidy1_any (n : Int) (ks : List Int) (vb mb : Nat) (w : World) (hv : Plot w vb 93 #[.map (some mb)]) (hm : NumIs w mb ks) :
    Calls Try.prog 65 #[.int .i64 n, .pointer (some ⟨vb, 0, none⟩)] w fun e w' => e = .returned (.int .i64 (numV ks n)) ∧ NumIs w' mb (numS ks n) ∧ Chg (fun k => k = mb) w w' := by
  have c0 : w.cell? ⟨vb, 0, none⟩ = some (.map (some mb)) := hv.cell 0
  have hlook := MapIs.lookup (P := Try.prog) hm Try.underlying93 Try.underlying3 (zero_int w) n true
  rw [aget_entsFrom] at hlook
  have hlen := MapIs.len (P := Try.prog) hm Try.underlying93
  rw [length_entsFrom] at hlen
  obtain ⟨w1, hup, hm1, hc1, hs1⟩ := MapIs.update (P := Try.prog) hm Try.underlying93 Try.underlying3 n (.int .i64 ks.length)
  cases hp : pos n ks with
  | none =>
    rw [hp] at hlook
    simp only [Option.map_none, Option.getD_none, Option.isSome_none, if_true] at hlook
    have h1 : numV ks n = ks.length := by simp [numV, hp]
    have h2 : NumIs w1 mb (numS ks n) := by
      unfold NumIs numS
      rw [hp]
      simp only [Option.isSome_none, Bool.false_eq_true, if_false]
      rw [entsFrom_snoc]
      rw [aput_none (by rw [aget_entsFrom, hp]; rfl)] at hm1
      simpa using hm1
    have H1 := Lib.hid h1
    clear h1 hp
    go_enter Try.func65, Try.ntmps65
    go_wp2_with fail
    go_ret
    exact ⟨by rw [H1.out]; rfl, h2, hc1⟩
  | some j =>
    rw [hp] at hlook
    simp only [Option.map_some, Option.getD_some, Option.isSome_some, if_true] at hlook
    have h1 : numV ks n = j := by simp [numV, hp]
    have h2 : NumIs w mb (numS ks n) := by
      unfold numS
      rw [hp]
      exact hm
    have H1 := Lib.hid h1
    clear h1 hp
    go_enter Try.func65, Try.ntmps65
    go_wp2_with fail
    go_ret
    exact ⟨by rw [H1.out]; rfl, h2, Chg.refl _ _⟩

end Go.Proofs.Ytdflngjfnpbpmab
namespace Go.Proofs.Ytdflngjfnpbpmab
open Go.RowKit
set_option maxRecDepth 100000

/-- What gives the variables their numbers: a function value, and what it knows. -/
structure Num (σ : Type) where
  fid : FuncId
  cap : Array Value
  own : Nat → Prop
  lean : Nat → Prop
  inv : σ → World → Prop
  val : σ → Int → Int
  nxt : σ → Int → σ
structure Num.Ok {σ : Type} (N : Num σ) : Prop where
  keep : ∀ s w w', N.inv s w → (∀ k, N.lean k → w'.heap[k]? = w.heap[k]?) → N.inv s w'
  lt : ∀ s w k, N.inv s w → N.lean k → k < w.heap.size
  sub : ∀ k, N.own k → N.lean k
  bare : ∀ s w k c t f, N.inv s w → N.own k → w.heap[k]? ≠ some (.cells c t f)
  enter : ∀ (args : Array Value) (w : World), (callFunc N.fid args).run Try.prog w = .ok (.enter N.fid args) w
  call : ∀ s n w, N.inv s w → Calls Try.prog N.fid (#[.int .i64 n] ++ N.cap) w fun e w' => e = .returned (.int .i64 (N.val s n)) ∧ N.inv (N.nxt s n) w' ∧ Chg N.own w w'

def Num.v1 {σ : Type} (N : Num σ) (k n : Int) (s : σ) : Int := if k = 0 then N.val s n else n
def Num.s1 {σ : Type} (N : Num σ) (k n : Int) (s : σ) : σ := if k = 0 then N.nxt s n else s
/-- Every variable gets its number, each term ahead of its arguments. -/
def Ts.ren {σ : Type} (N : Num σ) : Ts → σ → Ts × σ
  | .nil, s => (.nil, s)
  | .cons k n b ar r, s => (.cons k (N.v1 k n s) b (ar.ren N (N.s1 k n s)).1 (r.ren N (ar.ren N (N.s1 k n s)).2).1, (r.ren N (ar.ren N (N.s1 k n s)).2).2)
theorem Ts.ren_app {σ : Type} (N : Num σ) (D R : Ts) : ∀ s : σ, (D.app R).ren N s = ((D.ren N s).1.app (R.ren N (D.ren N s).2).1, (R.ren N (D.ren N s).2).2) := by
  induction D with
  | nil => intro s; rfl
  | cons k n b ar r _ ih => intro s; simp only [Ts.app, Ts.ren, ih]
theorem Ts.length_ren {σ : Type} (N : Num σ) (T : Ts) : ∀ s : σ, (T.ren N s).1.length = T.length := by
  induction T with
  | nil => intro s; rfl
  | cons k n b ar r _ ih => intro s; simp only [Ts.ren, Ts.length, ih]
theorem Ts.nodes_ren {σ : Type} (N : Num σ) (T : Ts) : ∀ s : σ, (T.ren N s).1.nodes = T.nodes := by
  induction T with
  | nil => intro s; rfl
  | cons k n b ar r iha ih => intro s; simp only [Ts.ren, Ts.nodes, ih, iha]

section
variable {σ : Type} {N : Num σ}
theorem Num.Ok.cell_none (ok : N.Ok) {w : World} {s : σ} {k o : Nat} (hi : N.inv s w) (ho : N.own k) : w.cell? ⟨k, o, none⟩ = none := by
  have := fun c t f => ok.bare s w k c t f hi ho
  unfold World.cell?
  split
  · rename_i h; exact absurd h (this _ _ _)
  · rfl
theorem Num.Ok.sl (ok : N.Ok) {w w' : World} {p : Nat → Prop} {s : σ} {v : Value} {T : Ts} (h : Sl w p v T) (hi : N.inv s w) (hc : Chg N.own w w') : Sl w' p v T := by
  have h1 : Sl w (fun k => p k ∧ ¬ N.own k) v T := h.imp' fun k hk ⟨j, u, hu⟩ => ⟨hk, fun ho => by rw [ok.cell_none hi ho] at hu; cases hu⟩
  exact (h1.chg hc fun k hk => hk.2).imp fun k hk _ => hk.1
end

end Go.Proofs.Ytdflngjfnpbpmab
namespace Go.Proofs.Ytdflngjfnpbpmab
open Go.RowKit

/-- Is a cell one of those that are still to be visited? -/
def InS (L : List Lev) (k i : Nat) : Prop := ∃ l ∈ L, l.b = k ∧ l.o ≤ i ∧ i < l.o + 4 * l.T.length
/-- Block k is a row of terms' cells. -/
def T24 (w : World) (k : Nat) : Prop := ∃ cur, Plot w k 39 cur
/-- In w' all levels have been visited, from the state s on to the state sf. -/
def RenL {σ : Type} (N : Num σ) (B : Nat) (w' : World) : List Lev → σ → σ → Prop
  | [], s, sf => sf = s
  | l :: r, s, sf => Seg w' (fun k => B ≤ k) (l.T.ren N s).1 l.b l.o ∧ RenL N B w' r (l.T.ren N s).2 sf
/-- What is not to be visited has not turned. -/
def Fr (L : List Lev) (w w' : World) : Prop := ∀ k i v, T24 w k → ¬ InS L k i → w.cell? ⟨k, i, none⟩ = some v → w'.cell? ⟨k, i, none⟩ = some v

/-- A level's cells are those of terms of the first world. -/
def LevIs (w0 w : World) (B : Nat) (l : Lev) : Prop :=
  B ≤ l.b ∧ ∃ cur xs, Plot w l.b 39 cur ∧ Cs w0 (fun _ => True) l.T xs ∧ ∀ j u, xs[j]? = some u → cur[l.o + j]? = some u

structure RnRel {σ : Type} (N : Num σ) (w0 : World) (s0 : σ) (T : Ts) (out : Value) (pb : Nat) (L : List Lev) (s : σ) (pv : Value) (xs : List Value) (w : World) : Prop where
  path : IsPath w w0.heap.size pb pv xs
  pbl : w0.heap.size ≤ pb
  pvs : PV L xs
  lev : ∀ l ∈ L, LevIs w0 w w0.heap.size l
  dis : (L.map Lev.b).Nodup
  inv : N.inv s w
  chg : Chg N.own w0 w
  small : nodesOf L ≤ T.nodes
  wand : ∀ w' sf, RenL N w0.heap.size w' L s sf → Fr L w w' → Sl w' (fun k => w0.heap.size ≤ k) out (T.ren N s0).1 ∧ sf = (T.ren N s0).2


theorem mem_push {T : Ts} {b o : Nat} {L : List Lev} {l : Lev} (h : l ∈ push T b o L) : (0 < T.length ∧ l = ⟨b, o, T⟩) ∨ l ∈ L := by
  unfold push at h
  split at h
  · exact .inr h
  · rcases List.mem_cons.1 h with h | h
    · exact .inl ⟨by omega, h⟩
    · exact .inr h
theorem inS_push {T : Ts} {b o k i : Nat} {L : List Lev} (h : InS (push T b o L) k i) : (b = k ∧ o ≤ i ∧ i < o + 4 * T.length) ∨ InS L k i := by
  obtain ⟨l, hl, h⟩ := h
  rcases mem_push hl with ⟨_, rfl⟩ | hl
  · exact .inl h
  · exact .inr ⟨l, hl, h⟩
theorem renL_push {σ : Type} {N : Num σ} {B : Nat} {w' : World} {T : Ts} {b o : Nat} {L : List Lev} {s sf : σ} (h : RenL N B w' (push T b o L) s sf) : Seg w' (fun k => B ≤ k) (T.ren N s).1 b o ∧ RenL N B w' L (T.ren N s).2 sf := by
  unfold push at h
  split at h
  · rename_i h0
    rw [Ts.nil_of_length h0]
    exact ⟨trivial, h⟩
  · exact h

theorem RnRel.step {σ : Type} {N : Num σ} {w0 wr w5 : World} {s0 s : σ} {T : Ts} {out : Value} {pb b o g : Nat} {k n : Int} {t : ByteArray} {ar r : Ts} {L : List Lev} {pv pv5 v v4 : Value} {xs xs5 ys xs4 : List Value} {cur curg : Array Value}
    (h : RnRel N w0 s0 T out pb (⟨b, o, .cons k n t ar r⟩ :: L) s pv xs wr)
    (hcur : Plot wr b 39 cur) (c0 : cur[o]? = some (.int .i64 k)) (c1 : cur[o + 1]? = some (.int .i64 n)) (c2 : cur[o + 2]? = some (.string t)) (c3 : cur[o + 3]? = some v) (hys : Cs w0 (fun _ => True) r ys) (cys : ∀ (j : Nat) u, ys[j]? = some u → cur[o + 4 + j]? = some u)
    (hpath : IsPath w5 w0.heap.size pb pv5 xs5) (hpv : PV (push ar g 0 (push r b (o + 4) L)) xs5) (hxs4 : Cs w0 (fun _ => True) ar xs4)
    (hother : ∀ k' cur', k' ≠ b → Plot wr k' 39 cur' → Plot w5 k' 39 cur')
    (hb5 : Plot w5 b 39 ((cur.setIfInBounds (o + 1) (.int .i64 (N.v1 k n s))).setIfInBounds (o + 3) v4))
    (hv4 : ∃ A c, v4 = .slice A ar.length c ∧ ar.length ≤ c ∧ (0 < ar.length → A = some ⟨g, 0, none⟩))
    (hg : 0 < ar.length → wr.heap.size ≤ g ∧ Plot w5 g 39 curg ∧ ∀ (j : Nat) u, xs4[j]? = some u → curg[j]? = some u)
    (hI : N.inv (N.s1 k n s) w5) (hC : Chg N.own w0 w5) :
    RnRel N w0 s0 T out pb (push ar g 0 (push r b (o + 4) L)) (N.s1 k n s) pv5 xs5 w5 := by
  have hd := h.dis
  simp only [List.map_cons, List.nodup_cons] at hd
  have hne : ∀ l ∈ L, l.b ≠ b := fun l hl e => hd.1 (by rw [← e]; exact List.mem_map_of_mem hl)
  have hbl := hcur.lt
  have hlev : ∀ l ∈ L, l.b < wr.heap.size := fun l hl => by
    obtain ⟨_, _, _, h1, _⟩ := h.lev l (List.mem_cons_of_mem _ hl)
    exact h1.lt
  have hB : w0.heap.size ≤ b := (h.lev _ (List.mem_cons_self ..)).1
  have hBr := h.chg.size
  have hsz : ((cur.setIfInBounds (o + 1) (.int .i64 (N.v1 k n s))).setIfInBounds (o + 3) v4).size = cur.size := by simp
  have hlt : ∀ {i : Nat} {u : Value}, cur[i]? = some u → i < cur.size := fun hu => (Array.getElem?_eq_some_iff.1 hu).1
  have hset : ∀ i u, i ≠ o + 1 → i ≠ o + 3 → cur[i]? = some u → ((cur.setIfInBounds (o + 1) (.int .i64 (N.v1 k n s))).setIfInBounds (o + 3) v4)[i]? = some u := fun i u h1 h3 hu => by
    rw [Array.getElem?_setIfInBounds_ne (by omega), Array.getElem?_setIfInBounds_ne (by omega)]; exact hu
  have d1 : ((cur.setIfInBounds (o + 1) (.int .i64 (N.v1 k n s))).setIfInBounds (o + 3) v4)[o + 1]? = some (.int .i64 (N.v1 k n s)) := by
    rw [Array.getElem?_setIfInBounds_ne (by omega), Array.getElem?_setIfInBounds_self_of_lt (hlt c1)]
  have d3 : ((cur.setIfInBounds (o + 1) (.int .i64 (N.v1 k n s))).setIfInBounds (o + 3) v4)[o + 3]? = some v4 := by
    rw [Array.getElem?_setIfInBounds_self_of_lt (by simpa using hlt c3)]
  refine ⟨hpath, h.pbl, hpv, ?_, ?_, hI, hC, ?_, ?_⟩
  · intro l hl
    rcases mem_push hl with ⟨hp, rfl⟩ | hl
    · obtain ⟨h1, h2, h3⟩ := hg hp
      exact ⟨by show _ ≤ g; omega, curg, xs4, h2, hxs4, fun j u hu => by rw [Nat.zero_add]; exact h3 j u hu⟩
    · rcases mem_push hl with ⟨hp, rfl⟩ | hl
      · exact ⟨hB, _, ys, hb5, hys, fun j u hu => hset _ _ (by show o + 4 + j ≠ _; omega) (by show o + 4 + j ≠ _; omega) (cys j u hu)⟩
      · obtain ⟨h1, cur', zs, h2, h3, h4⟩ := h.lev l (List.mem_cons_of_mem _ hl)
        exact ⟨h1, cur', zs, hother _ _ (hne l hl) h2, h3, h4⟩
  · have h1 : ((push r b (o + 4) L).map Lev.b).Nodup ∧ ∀ l ∈ push r b (o + 4) L, l.b < wr.heap.size := by
      constructor
      · unfold push
        split
        · exact hd.2
        · simpa using hd
      · intro l hl
        rcases mem_push hl with ⟨_, rfl⟩ | hl
        · exact hbl
        · exact hlev l hl
    unfold push
    split
    · exact h1.1
    · rename_i h0
      refine List.nodup_cons.2 ⟨fun hm => ?_, h1.1⟩
      obtain ⟨l, hl, e⟩ := List.mem_map.1 hm
      have h2 := h1.2 l hl
      have h3 := (hg (by omega)).1
      have e' : l.b = g := e
      omega
  · have := h.small
    rw [nodesOf_push, nodesOf_push]
    simp only [nodesOf, List.map_cons, List.sum_cons, Ts.nodes] at this ⊢
    omega
  · intro w' sf hR hF
    refine h.wand w' sf ?_ ?_
    · obtain ⟨hR1, hR2⟩ := renL_push hR
      obtain ⟨hR3, hR4⟩ := renL_push hR2
      have hcell : ∀ i u, (∀ l ∈ L, l.b ≠ b) → i < o + 4 → ((cur.setIfInBounds (o + 1) (.int .i64 (N.v1 k n s))).setIfInBounds (o + 3) v4)[i]? = some u → w'.cell? ⟨b, i, none⟩ = some u := by
        intro i u hL hi hu
        refine hF b i u ⟨_, hb5⟩ ?_ ((hb5.cell i).trans hu)
        intro hin
        rcases inS_push hin with ⟨e, h1, h2⟩ | hin
        · have := (hg (by omega)).1; omega
        · rcases inS_push hin with ⟨_, h1, _⟩ | ⟨l, hl, e, _⟩
          · omega
          · exact hL l hl e
      refine ⟨?_, hR4⟩
      refine seg_cons.2 ⟨hB, hcell o _ hne (by omega) (hset o _ (by omega) (by omega) c0), hcell (o + 1) _ hne (by omega) d1, hcell (o + 2) _ hne (by omega) (hset (o + 2) _ (by omega) (by omega) c2), ⟨v4, hcell (o + 3) _ hne (by omega) d3, ?_⟩, hR3⟩
      obtain ⟨A, c, e, hc, hA⟩ := hv4
      refine ⟨A, c, by rw [Ts.length_ren]; exact e, by rw [Ts.length_ren]; exact hc, fun hp => ?_⟩
      rw [Ts.length_ren] at hp
      exact ⟨g, 0, hA hp, hR1⟩
    · intro k' i u hT hin hu
      obtain ⟨cur', hk'⟩ := hT
      have hk'l := hk'.lt
      by_cases e : k' = b
      · subst e
        have hcc : cur' = cur := by
          unfold Plot at hk' hcur
          rw [hk'] at hcur
          injection hcur with hcur
          injection hcur
        subst hcc
        rw [hk'.cell i] at hu
        have hnot : ¬ (o ≤ i ∧ i < o + 4 * (Ts.cons k n t ar r).length) := fun hh => hin ⟨_, List.mem_cons_self .., rfl, hh⟩
        simp only [Ts.length] at hnot
        refine hF k' i u ⟨_, hb5⟩ ?_ ((hb5.cell i).trans (hset i u (by omega) (by omega) hu))
        intro hin2
        rcases inS_push hin2 with ⟨e, h1, h2⟩ | hin2
        · have := (hg (by omega)).1; omega
        · rcases inS_push hin2 with ⟨_, h1, h2⟩ | ⟨l, hl, e, _⟩
          · omega
          · exact hne l hl e
      · have h5 := hother k' cur' e hk'
        refine hF k' i u ⟨_, h5⟩ ?_ ((h5.cell i).trans ((hk'.cell i).symm.trans hu))
        intro hin2
        rcases inS_push hin2 with ⟨e2, h1, h2⟩ | hin2
        · have := (hg (by omega)).1; omega
        · rcases inS_push hin2 with ⟨e2, _, _⟩ | ⟨l, hl, hh⟩
          · exact e e2.symm
          · exact hin ⟨l, List.mem_cons_of_mem _ hl, hh⟩

def RnLoop {σ : Type} (N : Num σ) (w0 : World) (s0 : σ) (T : Ts) (out : Value) (pb : Nat) (g : Nat) (w : World) : Prop :=
  ∃ L s pv xs, RnRel N w0 s0 T out pb L s pv xs w ∧ g = nodesOf L

theorem info_path : (Try.prog.info? 107).map (fun i => (i.zero, i.size, i.bytes)) = some (some (.slice none 0 0), 1, 24) := by kernel_rfl

theorem Num.Ok.raw {σ : Type} {N : Num σ} (ok : N.Ok) {w w' : World} {s : σ} {v : Value} {l : Nat} {xs : List Value} (h : Raw w v l xs) (hi : N.inv s w) (hc : Chg N.own w w') : Raw w' v l xs := by
  obtain ⟨A, c, e, h1, h2, h3, h4⟩ := h
  refine ⟨A, c, e, h1, h2, h3, fun hl => ?_⟩
  obtain ⟨b, o, e2, h5⟩ := h4 hl
  refine ⟨b, o, e2, fun j u hu => ?_⟩
  have h6 := h5 j u hu
  rw [World.cell?_of_block (w := w) (w' := w') (a := ⟨b, o + j, none⟩) (hc.block b (lt_of_cell h6) fun ho => by rw [ok.cell_none hi ho] at h6; cases h6)]
  exact h6

structure RnMid {σ : Type} (N : Num σ) (w0 wr : World) (pb b : Nat) (pv : Value) (xs : List Value) (cur : Array Value) (s : σ) (wx : World) : Prop where
  path : IsPath wx w0.heap.size pb pv xs
  cur : Plot wx b 39 cur
  other : ∀ k' cur', k' ≠ b → Plot wr k' 39 cur' → Plot wx k' 39 cur'
  inv : N.inv s wx
  chg : Chg N.own w0 wx
  size : wr.heap.size ≤ wx.heap.size

set_option maxHeartbeats 400000 in
theorem rename_any {σ : Type} {N : Num σ} (ok : N.Ok) (T : Ts) (v : Value) (s : σ) (w : World) (hv : Sl w (fun _ => True) v T) (hi : N.inv s w) (hn : T.nodes ≤ 1073741824) :
    Calls Try.prog 64 #[v, .func (.func N.fid) #[] N.cap] w fun e w' => ∃ v', e = .returned v' ∧ Sl w' (fun k => w.heap.size ≤ k) v' (T.ren N s).1 ∧ N.inv (T.ren N s).2 w' ∧ Chg N.own w w' := by
  obtain ⟨xs0, hraw, hcs0⟩ := hv.raw
  have hle := T.length_le
  have hen := ok.enter
  have HLT : Hid (∀ k, N.lean k → k < w.heap.size) := fun k => ok.lt s w k hi
  go_enter Try.func64, Try.ntmps64
  go_wp2_with fail
  refine (clone_raw hraw (by omega)).mono ?_
  rintro e w1 ⟨v1, rfl, ho1, hb1⟩
  obtain ⟨A1, d1, rfl⟩ := own_form ho1
  obtain ⟨hd1, g, cur, hg⟩ := own_blk ho1
  have hB1 := hb1.size
  have hp0 : IsPath (w1.alloc (.cells #[.slice none 0 0] 107)) w.heap.size w1.heap.size (.slice none 0 0) [] := ⟨Plot.new _ _ _, World.ownsRow_nil _ _ _ _, by simp [Value.ownBlock]⟩
  go_wp2_with fail
  refine (add_lev (b := g) (o := 0) (L := []) hp0 rfl (by simp; omega) (by simp [nodesOf]) hd1 (fun h => (hg h).1)).mono ?_
  rintro e w2 ⟨rfl, pv2, xs2, hp2, hpv2, _, hc2⟩
  have hc02 : Chg N.own w w2 := by
    refine ((Chg.of_fresh hb1).alloc _).trans hc2 fun k hk h => ?_
    rcases h with h | h
    · omega
    · simp [Value.ownBlock] at h
  have h0 : RnLoop N w s T (.slice A1 T.length d1) w1.heap.size T.nodes w2 := by
    refine ⟨push T g 0 [], s, pv2, xs2, ⟨hp2, hB1, hpv2, ?_, ?_, ?_, hc02, ?_, ?_⟩, by rw [nodesOf_push]; simp [nodesOf]⟩
    · intro l hl
      rcases mem_push hl with ⟨h, rfl⟩ | h
      · obtain ⟨h1, h2, h3, h4⟩ := hg h
        refine ⟨h2, cur, xs0, (h3.alloc _).chg hc2 ?_, hcs0, fun j u hu => by rw [Nat.zero_add]; exact h4 j u hu⟩
        have := h3.lt
        intro h; rcases h with h | h
        · omega
        · simp [Value.ownBlock] at h
      · cases h
    · unfold push; split <;> simp
    · refine ok.keep s w _ hi fun k hk => ?_
      have := HLT.out k hk
      rw [hc2.block k (by simp; omega) (by simp [Value.ownBlock]; omega), Below.heap_alloc _ _ _ (by omega), hb1.block k this]
    · rw [nodesOf_push]; simp [nodesOf]
    · intro w' sf hR _
      obtain ⟨h1, h2⟩ := renL_push hR
      refine ⟨⟨A1, d1, by rw [Ts.length_ren], by rw [Ts.length_ren]; exact hd1, fun h => ?_⟩, h2⟩
      rw [Ts.length_ren] at h
      exact ⟨g, 0, (hg h).1, h1⟩
  clear hg ho1 hp0 hp2 hpv2
  go_wp2_with fail
  go_loopg [] T.nodes (RnLoop N w s T (.slice A1 T.length d1) w1.heap.size)
  case atStart => exact h0
  case round =>
    clear h0
    obtain ⟨L, s', pv, xs, hrel, hgk⟩ := hrel
    have hpx := hrel.pvs.length
    have hpl := hrel.pvs.le
    have hsm := hrel.small
    obtain ⟨Ap, cp, hpv⟩ := own_form hrel.path.own
    subst hpv
    have cpb : wr.cell? ⟨w1.heap.size, 0, none⟩ = some (.slice Ap xs.length cp) := hrel.path.var.cell 0
    have HG := Lib.hid hgk
    clear hgk
    cases L with
    | nil =>
      have hx : xs = [] := hrel.pvs
      subst hx
      obtain ⟨hsl, hst⟩ := hrel.wand wr s' rfl (fun _ _ _ _ _ h => h)
      subst hst
      have hI := hrel.inv
      have hC := hrel.chg
      clear hrel hpx
      go_wp2_with fail
      go_ret
      exact ⟨_, rfl, hsl, hI, hC⟩
    | cons l Ls =>
      obtain ⟨b, o, T1⟩ := l
      cases T1 with
      | nil => obtain ⟨_, _, _, _, h, _⟩ := hrel.pvs; simp [Ts.length] at h
      | cons k n t ar r =>
      have hxl : 0 < xs.length := by rw [hpx]; simp
      obtain ⟨hbB, cur, zs, hcur, ⟨v, ys, rfl, hva, hcr⟩, hcells⟩ := hrel.lev _ (List.mem_cons_self ..)
      have c0 : cur[o]? = some (.int .i64 k) := hcells 0 _ rfl
      have c1 : cur[o + 1]? = some (.int .i64 n) := hcells 1 _ rfl
      have c2 : cur[o + 2]? = some (.string t) := hcells 2 _ rfl
      have c3 : cur[o + 3]? = some v := hcells 3 _ rfl
      have cys : ∀ (j : Nat) u, ys[j]? = some u → cur[o + 4 + j]? = some u := fun j u hu => by
        have := hcells (j + 4) u (by simpa using hu)
        rwa [show o + (j + 4) = o + 4 + j by omega] at this
      have CYS := Lib.hid cys
      have C0 := Lib.hid c0
      have C1 := Lib.hid c1
      have C2 := Lib.hid c2
      have C3 := Lib.hid c3
      have hn4 : nodesOf (⟨b, o, .cons k n t ar r⟩ :: Ls) ≤ 1073741824 := by omega
      clear cys hcells c0 c1 c2 c3
      go_wp2_with fail
      refine (next_lev hrel.path hrel.pvs hn4).mono ?_
      rintro e w3 ⟨rfl, pv3, xs3, hp3, hpv3, hop3, hc3⟩
      have hb3 : Plot w3 b 39 cur := hrel.path.keep hc3 hcur
      have hoth3 : ∀ k' cur', Plot wr k' 39 cur' → Plot w3 k' 39 cur' := fun k' cur' h => hrel.path.keep hc3 h
      have hpown : ∀ g, (Value.slice Ap xs.length cp).ownBlock = some g → w.heap.size ≤ g ∧ g < wr.heap.size := fun g hg => hrel.path.own.lt g hg
      have hchg3 : Chg N.own w w3 := hrel.chg.trans hc3 fun k hk h => by
        rcases h with h | h
        · omega
        · have := hpown _ h; omega
      have hlean : ∀ k, N.lean k → w3.heap[k]? = wr.heap[k]? := fun k hk => by
        have hk := HLT.out k hk
        refine hc3.block k (by have := hrel.chg.size; omega) fun h => ?_
        rcases h with h | h
        · omega
        · have := hpown _ h; omega
      have hI3 : N.inv s' w3 := ok.keep s' wr _ hrel.inv hlean
      have hz3 := hc3.size
      have a0 : w3.cell? ⟨b, o, none⟩ = some (.int .i64 k) := (hb3.cell o).trans C0.out
      have a1 : w3.cell? ⟨b, o + 1, none⟩ = some (.int .i64 n) := (hb3.cell (o + 1)).trans C1.out
      have HL := Lib.hid hlean
      have HO := Lib.hid hoth3
      have HP := Lib.hid hpown
      clear hlean hoth3 hpown
      go_upto_if 20 with fail
      go_cut [] (fun wx => RnMid N w wr w1.heap.size b pv3 xs3 (cur.setIfInBounds (o + 1) (.int .i64 (N.v1 k n s'))) (N.s1 k n s') wx)
      case first =>
        by_cases hk : k = 0
        · subst hk
          go_wp2_with fail
          refine (ok.call s' n _ hI3).mono ?_
          rintro e w4 ⟨rfl, hI4, hc4⟩
          have hb4 : Plot w4 b 39 cur := hb3.chg hc4 fun ho => ok.bare _ _ _ _ _ _ hI3 ho hb3
          have a2 : w4.cell? ⟨b, o + 1, none⟩ = some (.int .i64 n) := (hb4.cell (o + 1)).trans C1.out
          have f2 : w4.frozen? ⟨b, o + 1, none⟩ = false := hb4.frozen _
          have hp4 : IsPath w4 w.heap.size w1.heap.size pv3 xs3 := hp3.chg hc4 (fun ho => by have := HLT.out _ (ok.sub _ ho); omega) fun g hg ho => by
            have := HLT.out _ (ok.sub _ ho)
            rw [hop3] at hg
            have := HP.out g hg
            omega
          go_wp2_with fail
          go_meet
          refine ⟨hp4.set hb4, hb4.set_ _ _, fun k' cur' hne h => ?_, ?_, ?_, by have := hc4.size; simp [World.setCell]; omega⟩
          · have h3 := HO.out k' cur' h
            exact (h3.chg hc4 fun ho => ok.bare _ _ _ _ _ _ hI3 ho h3).far hne _
          · refine ok.keep _ w4 _ hI4 fun k hk => ?_
            have := HLT.out k hk
            exact Below.heap_setCell _ _ _ _ (by simp; omega)
          · exact (hchg3.trans hc4 fun _ _ h => h).setCell (fun h => by simp at h; omega) _
        · have hk' : (k == 0) = false := by simp [hk]
          have e1 : N.v1 k n s' = n := by simp [Num.v1, hk]
          have e2 : N.s1 k n s' = s' := by simp [Num.s1, hk]
          have E1 := Lib.hid e1
          have E2 := Lib.hid e2
          clear e1 e2
          go_wp2_with fail
          go_meet
          rw [E1.out, E2.out, set_same C1.out]
          exact ⟨hp3, hb3, fun k' cur' _ h => HO.out k' cur' h, hI3, hchg3, hz3⟩
      case rest =>
        obtain ⟨hp5, hb5, ho5, hI5, hc5, hz5⟩ := hcut
        clear hp3 hc3 hb3 hchg3 hI3 a0 a1
        obtain ⟨xs4, hraw4, hcs4⟩ := hva.raw
        obtain ⟨Av, cv, rfl, hva⟩ := hva.form
        have har : ar.length ≤ 1073741824 := by
          have := ar.length_le
          simp only [nodesOf, List.map_cons, List.sum_cons, Ts.nodes] at hn4
          omega
        have hn5 : nodesOf (push r b (o + 4) Ls) ≤ 1073741824 := by
          rw [nodesOf_push]
          simp only [nodesOf, List.map_cons, List.sum_cons, Ts.nodes] at hn4 ⊢
          omega
        have a3 : wc.cell? ⟨b, o + 3, none⟩ = some (.slice Av ar.length cv) := by
          rw [hb5.cell, Array.getElem?_setIfInBounds_ne (by omega)]; exact C3.out
        go_wp2_with fail
        refine (clone_raw (ok.raw hraw4 hi hc5) har).mono ?_
        rintro e w6 ⟨v4, rfl, ho6, hb6⟩
        obtain ⟨A4, d4, rfl⟩ := own_form ho6
        obtain ⟨hd4, g4, cur4, hg4⟩ := own_blk ho6
        have hz6 := hb6.size
        have hbb6 := hb5.below hb6
        have a6 : w6.cell? ⟨b, o + 3, none⟩ = some (.slice Av ar.length cv) := by
          rw [hbb6.cell, Array.getElem?_setIfInBounds_ne (by omega)]; exact C3.out
        have f6 : w6.frozen? ⟨b, o + 3, none⟩ = false := hbb6.frozen _
        have hp6 : IsPath w6 w.heap.size w1.heap.size pv3 xs3 := hp5.chg (Chg.of_fresh (S := fun _ => False) hb6) (fun h => h) fun _ _ h => h
        have hp7 : IsPath (w6.setCell ⟨b, o + 3, none⟩ (.slice A4 ar.length d4)) w.heap.size w1.heap.size pv3 xs3 := hp6.set hbb6
        have hbb7 := hbb6.set_ (o + 3) (.slice A4 ar.length d4)
        have hwz := hrel.chg.size
        have HG4 := Lib.hid hg4
        clear hg4
        go_wp2_with fail
        refine (add_lev (b := g4) (o := 0) hp7 hpv3 (by simp [World.setCell]; omega) hn5 hd4 (fun h => (HG4.out h).1)).mono ?_
        rintro e w8 ⟨rfl, pv8, xs8, hp8, hpv8, hat8, hc8⟩
        have hpown3 : ∀ g, pv3.ownBlock = some g → w.heap.size ≤ g := fun g hg => by rw [hop3] at hg; exact (HP.out g hg).1
        have hstep := RnRel.step (g := g4) (xs4 := xs4) (v4 := .slice A4 ar.length d4) (curg := cur4) hrel hcur C0.out C1.out C2.out C3.out hcr CYS.out hp8 hpv8 hcs4
          (fun k' cur' hne h => hp7.keep hc8 (((ho5 k' cur' hne h).below hb6).far hne _)) (hp7.keep hc8 hbb7) ⟨A4, d4, rfl, hd4, fun h => (HG4.out h).1⟩
          (fun h => by
            obtain ⟨_, h2, h3, h4⟩ := HG4.out h
            have := h3.lt
            exact ⟨by omega, hp7.keep hc8 (h3.far (by simp; intro e; have := hb5.lt; omega) _), h4⟩)
          (ok.keep _ wc _ hI5 fun k hk => by
            have := HLT.out k hk
            rw [hc8.block k (by simp [World.setCell]; omega) (fun h => by rcases h with h | h
                                                                          · omega
                                                                          · have := hpown3 _ h; omega), Below.heap_setCell _ _ _ _ (by simp; omega), hb6.block k (by omega)])
          (((hc5.trans (Chg.of_fresh (S := fun _ => False) hb6) fun _ _ h => h.elim).setCell (fun h => by simp at h; omega) _).trans hc8 fun k hk h => by
            rcases h with h | h
            · omega
            · have := hpown3 _ h; omega)
        clear hat8
        go_wp2_with fail
        go_roundg (nodesOf (push ar g4 0 (push r b (o + 4) Ls)))
        case measure =>
          rw [HG.out, nodesOf_push, nodesOf_push]
          simp only [nodesOf, List.map_cons, List.sum_cons, Ts.nodes]
          omega
        case rel => exact ⟨_, _, _, _, hstep, rfl⟩
end Go.Proofs.Ytdflngjfnpbpmab
namespace Go.Proofs.Ytdflngjfnpbpmab
open Go.RowKit

theorem Ts.ren_congr {σ : Type} {N M : Num σ} (hv : ∀ s n, N.val s n = M.val s n) (hx : ∀ s n, N.nxt s n = M.nxt s n) (T : Ts) : ∀ s, T.ren N s = T.ren M s := by
  have h1 : ∀ k n s, N.v1 k n s = M.v1 k n s := fun k n s => by simp [Num.v1, hv]
  have h2 : ∀ k n s, N.s1 k n s = M.s1 k n s := fun k n s => by simp [Num.s1, hx]
  induction T with
  | nil => intro s; rfl
  | cons k n b ar r iha ihr => intro s; simp only [Ts.ren, h1, h2, iha, ihr]

def numTidy (vb mb : Nat) : Num (List Int) :=
  { fid := 65, cap := #[.pointer (some ⟨vb, 0, none⟩)], own := fun k => k = mb, lean := fun k => k = vb ∨ k = mb,
    inv := fun ks w => Plot w vb 93 #[.map (some mb)] ∧ NumIs w mb ks, val := numV, nxt := numS }
theorem numTidy_ok (vb mb : Nat) : (numTidy vb mb).Ok where
  keep := fun _ w w' h hk => ⟨(hk vb (.inl rfl)).trans h.1, MapIs.keep h.2 (hk mb (.inr rfl))⟩
  lt := fun _ w k h hk => by
    have e : k = vb ∨ k = mb := hk
    rcases e with rfl | rfl
    · exact Plot.lt h.1
    · exact MapIs.lt h.2
  sub := fun _ h => .inr h
  bare := fun ks w k c t f h ho e => by
    have e1 : k = mb := ho
    subst e1
    obtain ⟨es, clock, hb, _⟩ := h.2
    rw [hb] at e
    cases e
  enter := fun args w => by simp [numTidy, go_sem]
  call := fun ks n w h => by
    refine (tidy1_any n ks vb mb w h.1 h.2).mono ?_
    rintro e w' ⟨rfl, h1, h2⟩
    exact ⟨rfl, ⟨h.1.chg h2 fun e => Plot.not_map h.1 h.2 e, h1⟩, h2⟩

/-- The terms, their variables numbered in the order in which they come. -/
def Ts.tidyFrom (T : Ts) (ks : List Int) : Ts × List Int := T.ren (numTidy 0 0) ks
def Ts.tidy (T : Ts) : Ts := (T.tidyFrom []).1
theorem ren_tidy (vb mb : Nat) (T : Ts) (ks : List Int) : T.ren (numTidy vb mb) ks = T.tidyFrom ks := Ts.ren_congr (N := numTidy vb mb) (M := numTidy 0 0) (fun _ _ => rfl) (fun _ _ => rfl) T ks
set_option maxHeartbeats 400000 in
theorem tidy_any (T : Ts) (v : Value) (w : World) (hv : Sl w (fun _ => True) v T) (hn : T.nodes ≤ 1073741824) :
    Calls Try.prog 37 #[v] w fun e w' => ∃ v', e = .returned v' ∧ Sl w' (fun k => w.heap.size ≤ k) v' T.tidy ∧ Below w.heap.size w w' := by
  have hi : (numTidy (w.heap.size + 1) w.heap.size).inv [] ((w.alloc (.map #[] 0)).alloc (.cells #[.map (some w.heap.size)] 93)) := by
    refine ⟨?_, ?_⟩
    · have := Plot.new (w.alloc (.map #[] 0)) 93 #[.map (some w.heap.size)]
      simpa using this
    · exact (MapIs.made w).keep (Below.heap_alloc _ _ _ (by simp))
  have hW : Below w.heap.size w ((w.alloc (.map #[] 0)).alloc (.cells #[.map (some w.heap.size)] 93)) := ((Below.refl _ _).alloc (Nat.le_refl _) _).alloc (by simp) _
  have hsl := hv.below hW
  have hmk := run_makeMap (P := Try.prog) 93
  go_enter Try.func37, Try.ntmps37
  go_wp2_with fail
  refine (rename_any (numTidy_ok (w.heap.size + 1) w.heap.size) T v [] _ hsl hi hn).mono ?_
  rintro e w' ⟨v', rfl, h1, _, h3⟩
  rw [ren_tidy] at h1
  go_wp2_with fail
  go_ret
  refine ⟨_, rfl, h1.imp (fun k hk _ => by simp at hk; omega), hW.trans (h3.below (by simp; omega) fun k hk _ => ?_)⟩
  have e : k = w.heap.size := hk
  omega

theorem Ts.tidyFrom_app (D R : Ts) (ks : List Int) : (D.app R).tidyFrom ks = ((D.tidyFrom ks).1.app (R.tidyFrom (D.tidyFrom ks).2).1, (R.tidyFrom (D.tidyFrom ks).2).2) := Ts.ren_app _ D R ks

def tV (k n : Int) (ks : List Int) : Int := if k = 0 then numV ks n else n
def tS (k n : Int) (ks : List Int) : List Int := if k = 0 then numS ks n else ks
theorem Ts.tidyFrom_cons (k n : Int) (s : ByteArray) (ar r : Ts) (ks : List Int) : (Ts.cons k n s ar r).tidyFrom ks = (.cons k (tV k n ks) s (ar.tidyFrom (tS k n ks)).1 (r.tidyFrom (ar.tidyFrom (tS k n ks)).2).1, (r.tidyFrom (ar.tidyFrom (tS k n ks)).2).2) := rfl

end Go.Proofs.Ytdflngjfnpbpmab
namespace Go.Proofs.Ytdflngjfnpbpmab

/-- Each variable's number is one of P's. -/
def Ts.vars (P : Int → Prop) : Ts → Prop
  | .nil => True
  | .cons k n _ ar r => (k = 0 → P n) ∧ ar.vars P ∧ r.vars P
/-- Each variable's number, by f. -/
def Ts.by_ (f : Int → Int) : Ts → Ts
  | .nil => .nil
  | .cons k n s ar r => .cons k (if k = 0 then f n else n) s (ar.by_ f) (r.by_ f)
theorem pos_by {P : Int → Prop} {f : Int → Int} (hf : ∀ a b, P a → P b → f a = f b → a = b) {n : Int} (hn : P n) : ∀ ks : List Int, (∀ k ∈ ks, P k) → pos (f n) (ks.map f) = pos n ks
  | [], _ => rfl
  | k :: r, h => by
    simp only [List.map_cons, pos]
    rw [pos_by hf hn r fun x hx => h x (List.mem_cons_of_mem _ hx)]
    by_cases e : n = k
    · rw [if_pos e, if_pos (by rw [e])]
    · rw [if_neg e, if_neg fun e2 => e (hf n k hn (h k (List.mem_cons_self ..)) e2)]
theorem numS_mem {P : Int → Prop} {n : Int} {ks : List Int} (hn : P n) (h : ∀ k ∈ ks, P k) : ∀ k ∈ numS ks n, P k := by
  intro k hk
  unfold numS at hk
  split at hk
  · exact h k hk
  · rcases List.mem_append.1 hk with h1 | h1
    · exact h k h1
    · rw [List.mem_singleton.1 h1]; exact hn

theorem Ts.tidyFrom_by {P : Int → Prop} {f : Int → Int} (hf : ∀ a b, P a → P b → f a = f b → a = b) (T : Ts) : ∀ ks : List Int, (∀ k ∈ ks, P k) → T.vars P →
    (T.by_ f).tidyFrom (ks.map f) = ((T.tidyFrom ks).1, (T.tidyFrom ks).2.map f) ∧ ∀ k ∈ (T.tidyFrom ks).2, P k := by
  induction T with
  | nil => intro ks h _; exact ⟨rfl, h⟩
  | cons k n s ar r iha ihr =>
    intro ks h ⟨h0, ha, hr⟩
    have hv : tV k (if k = 0 then f n else n) (ks.map f) = tV k n ks ∧ tS k (if k = 0 then f n else n) (ks.map f) = (tS k n ks).map f ∧ ∀ x ∈ tS k n ks, P x := by
      by_cases e : k = 0
      · have hn := h0 e
        simp only [tV, tS, e, if_true, numV, numS, pos_by hf hn ks h, List.length_map]
        refine ⟨trivial, ?_, ?_⟩
        · split <;> simp
        · have := numS_mem hn h
          unfold numS at this
          exact this
      · simp only [tV, tS, e, if_false]
        exact ⟨trivial, trivial, h⟩
    obtain ⟨i1, i2⟩ := iha _ hv.2.2 ha
    obtain ⟨j1, j2⟩ := ihr _ i2 hr
    refine ⟨?_, j2⟩
    rw [Ts.by_, Ts.tidyFrom_cons, hv.1, hv.2.1, i1, Ts.tidyFrom_cons, j1]

end Go.Proofs.Ytdflngjfnpbpmab
namespace Go.Proofs.Ytdflngjfnpbpmab
open Go.RowKit

def lowerB (c : UInt8) : Bool := decide (97 ≤ c.toNat) && decide (c.toNat ≤ 122)
/-- Is it a name? -/
def nameB (s : ByteArray) : Bool := decide (s.data.toList = [33]) || (decide (1 ≤ s.size) && decide (s.size ≤ 8) && s.data.toList.all lowerB)
/-- The first k + 1 letters are the first k and the next one. -/
theorem letters_succ (s : ByteArray) (k : Nat) (h : k < s.size) : s.data.toList.take (k + 1) = s.data.toList.take k ++ [s[k]] :=
  List.take_succ_eq_append_getElem (l := s.data.toList) (i := k) (by simpa using h)

theorem all_false {s : ByteArray} {k : Nat} {c : UInt8} (h : s.data.toList.take (k + 1) = s.data.toList.take k ++ [c]) (hc : lowerB c = false) : s.data.toList.all lowerB = false := by
  have e : s.data.toList = s.data.toList.take (k + 1) ++ s.data.toList.drop (k + 1) := (List.take_append_drop _ _).symm
  rw [e, List.all_append, h, List.all_append]
  simp [hc]

set_option maxHeartbeats 400000 in
theorem named_any (s : ByteArray) (w : World) : Calls Try.prog 97 #[.string s] w fun e w' => e = .returned (.bool (nameB s)) ∧ w = w' := by
  by_cases h0 : s.data.toList = [33]
  · have r : nameB s = true := by simp [nameB, h0]
    have h1 : s.toList = [33] := by rw [ByteArray.toList_eq]; exact h0
    rw [r]
    clear r h0
    go_enter Try.func97, Try.ntmps97
    go_wp2_with fail
    go_ret
    exact ⟨rfl, rfl⟩
  have h1 : (s.toList == [33]) = false := by rw [ByteArray.toList_eq]; simpa using h0
  by_cases h2 : s.size < 1
  · have r : nameB s = false := by simp [nameB, h0]; omega
    rw [r]
    clear r h0
    go_enter Try.func97, Try.ntmps97
    go_wp2_with fail
    go_ret
    exact ⟨rfl, rfl⟩
  by_cases h3 : 8 < s.size
  · have r : nameB s = false := by simp [nameB, h0]; omega
    rw [r]
    clear r h0
    go_enter Try.func97, Try.ntmps97
    go_wp2_with fail
    go_ret
    exact ⟨rfl, rfl⟩
  have r : nameB s = s.data.toList.all lowerB := by
    have a : 1 ≤ s.size := by omega
    have b : s.size ≤ 8 := by omega
    simp [nameB, h0, a, b]
  have R := Lib.hid r
  clear r h0
  go_enter Try.func97, Try.ntmps97
  go_wp2_with fail
  go_loopg [16] s.size (fun g i wr => w = wr ∧ ∃ k : Nat, k ≤ s.size ∧ g = s.size - k ∧ i = .int .i64 k ∧ (s.data.toList.take k).all lowerB = true)
  case atStart => exact ⟨rfl, 0, Nat.zero_le _, rfl, rfl, rfl⟩
  case round =>
    obtain ⟨rfl, k, hk, hg, rfl, ha⟩ := hrel
    have HA := Lib.hid ha
    have HG := Lib.hid hg
    clear ha hg
    by_cases hlt : k < s.size
    · have hts := letters_succ s k hlt
      have hbig := s[k].toNat_lt
      by_cases hlo : (s[k].toNat : Int) < 97
      · have hf := Lib.hid (all_false hts (show lowerB s[k] = false by simp [lowerB]; omega))
        clear hts
        go_wp2_with fail
        go_ret
        exact ⟨by rw [R.out, hf.out]; rfl, rfl⟩
      by_cases hhi : (122 : Int) < (s[k].toNat : Int)
      · have hf := Lib.hid (all_false hts (show lowerB s[k] = false by simp [lowerB]; omega))
        clear hts
        go_wp2_with fail
        go_ret
        exact ⟨by rw [R.out, hf.out]; rfl, rfl⟩
      · have hf : Hid ((s.data.toList.take (k + 1)).all lowerB = true) := Lib.hid (by
          rw [hts, List.all_append, HA.out]
          simp [lowerB]; omega)
        clear hts
        go_wp2_with fail
        go_roundg (s.size - (k + 1))
        case measure => rw [HG.out]; omega
        case rel => exact ⟨rfl, k + 1, by omega, rfl, rfl, hf.out⟩
    · go_wp2_with fail
      go_ret
      refine ⟨?_, rfl⟩
      have h4 := HA.out
      rw [List.take_of_length_le (by simp; omega)] at h4
      rw [R.out, h4]; rfl
end Go.Proofs.Ytdflngjfnpbpmab
namespace Go.Proofs.Ytdflngjfnpbpmab
open Go.RowKit

/-- Is a term good, whatever its arguments are? -/
def nodeB (vars k n : Int) (s : ByteArray) (l : Nat) : Bool :=
  if k = 0 then decide (0 ≤ n) && decide (n < vars) && decide (s.toList = []) && decide (l = 0)
  else if k = 1 then decide (n = 0) && nameB s && decide (l = 0)
  else if k = 2 then decide (-1099511627776 ≤ n) && decide (n ≤ 1099511627776) && decide (s.toList = []) && decide (l = 0)
  else if k = 3 then decide (n = 0) && nameB s && decide (¬ s.toList = [33]) && decide (1 ≤ l) && decide (l ≤ 4)
  else false

theorem ret_bool {a b : Bool} (h : a = b) : Ending.returned (.bool a) = .returned (.bool b) := by rw [h]

set_option maxHeartbeats 1000000 in
theorem goodNode_any (vars k n : Int) (s : ByteArray) (A : Option Addr) (l c : Nat) (w : World) :
    Calls Try.prog 96 #[.agg #[.int .i64 k, .int .i64 n, .string s, .slice A l c], .int .i64 vars] w fun e w' => e = .returned (.bool (nodeB vars k n s l)) ∧ Below w.heap.size w w' := by
  by_cases h0 : k = 0
  · subst h0
    have R := Lib.hid (show nodeB vars 0 n s l = (decide (0 ≤ n) && decide (n < vars) && decide (s.toList = []) && decide (l = 0)) by simp [nodeB])
    go_enter Try.func96, Try.ntmps96
    go_wp2_with fail
    all_goals go_ret
    all_goals refine ⟨?_, (Below.refl _ _).alloc (Nat.le_refl _) _⟩
    all_goals rw [R.out]
    all_goals refine ret_bool ?_
    all_goals rw [Bool.eq_iff_iff]
    all_goals simp [*]
    all_goals try omega
  have g0 : (k == 0) = false := by simpa using h0
  by_cases h1 : k = 1
  · subst h1
    have R := Lib.hid (show nodeB vars 1 n s l = (decide (n = 0) && nameB s && decide (l = 0)) by simp [nodeB])
    clear h0 g0
    cases hb : nameB s
    all_goals
      have HB := Lib.hid hb
      clear hb
      go_enter Try.func96, Try.ntmps96
      go_wp2_with (go_at_call 97; refine (named_any _ _).mono ?_; rintro e w' ⟨rfl, rfl⟩; rw [HB.out])
      all_goals go_ret
      all_goals refine ⟨?_, (Below.refl _ _).alloc (Nat.le_refl _) _⟩
      all_goals rw [R.out, HB.out]
      all_goals refine ret_bool ?_
      all_goals rw [Bool.eq_iff_iff]
      all_goals simp [*]
      all_goals try omega
  have g1 : (k == 1) = false := by simpa using h1
  by_cases h2 : k = 2
  · subst h2
    have R := Lib.hid (show nodeB vars 2 n s l = (decide (-1099511627776 ≤ n) && decide (n ≤ 1099511627776) && decide (s.toList = []) && decide (l = 0)) by simp [nodeB])
    clear h0 g0 h1 g1
    go_enter Try.func96, Try.ntmps96
    go_wp2_with fail
    all_goals go_ret
    all_goals refine ⟨?_, (Below.refl _ _).alloc (Nat.le_refl _) _⟩
    all_goals rw [R.out]
    all_goals refine ret_bool ?_
    all_goals rw [Bool.eq_iff_iff]
    all_goals simp [*]
    all_goals try omega
  have g2 : (k == 2) = false := by simpa using h2
  by_cases h3 : k = 3
  · subst h3
    clear h0 g0 h1 g1 h2 g2
    by_cases hn : n = 0
    · subst hn
      have R := Lib.hid (show nodeB vars 3 0 s l = (nameB s && decide (¬ s.toList = [33]) && decide (1 ≤ l) && decide (l ≤ 4)) by simp [nodeB])
      cases hb : nameB s
      all_goals
        have HB := Lib.hid hb
        clear hb
        go_enter Try.func96, Try.ntmps96
        go_wp2_with (go_at_call 97; refine (named_any _ _).mono ?_; rintro e w' ⟨rfl, rfl⟩; rw [HB.out])
        all_goals go_ret
        all_goals refine ⟨?_, (Below.refl _ _).alloc (Nat.le_refl _) _⟩
        all_goals rw [R.out, HB.out]
        all_goals refine ret_bool ?_
        all_goals rw [Bool.eq_iff_iff]
        all_goals simp [*]
        all_goals try omega
    · have hn' : (n == 0) = false := by simpa using hn
      have R := Lib.hid (show nodeB vars 3 n s l = false by simp [nodeB, hn])
      clear hn
      go_enter Try.func96, Try.ntmps96
      go_wp2_with fail
      go_ret
      exact ⟨by rw [R.out]; rfl, (Below.refl _ _).alloc (Nat.le_refl _) _⟩
  have g3 : (k == 3) = false := by simpa using h3
  have R := Lib.hid (show nodeB vars k n s l = false by simp [nodeB, h0, h1, h2, h3])
  clear h0 h1 h2 h3
  go_enter Try.func96, Try.ntmps96
  go_wp2_with fail
  go_ret
  exact ⟨by rw [R.out]; rfl, (Below.refl _ _).alloc (Nat.le_refl _) _⟩
end Go.Proofs.Ytdflngjfnpbpmab
