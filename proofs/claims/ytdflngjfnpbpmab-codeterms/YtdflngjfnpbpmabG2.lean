/- HChain, HOne, HUndo, HTerm, Copy, Path, Named, Node, Visit, Built, Fits, Goals, Query, Clause: texts that follow one another, laid into one file. -/
import Derived.Test.YtdflngjfnpbpmabG1
import Derived.Test.YtdflngjfnpbpmabRows
import Derived.Deep.LoopGhost
import Derived.Lib.Hide
import Derived.StillTailTactics
import Derived.RegionTactic
import Derived.OneCell
import Derived.Test.YtdflngjfnpbpmabG0
import Derived.Deep.QuietTactic
import Derived.BigQuiet
namespace Go.Proofs.Ytdflngjfnpbpmab
open Go.RowKit
set_option linter.unusedVariables false
set_option linter.unusedSimpArgs false

/-- From a, over n Refs, one comes to x, and there is no further way. -/
inductive EndsN (L : List HC) : Nat → Int → Int → Prop
  | here {a : Int} {c : HC} : hat L a = some c → ¬ (c.k = 0 ∧ c.n ≠ a) → EndsN L 0 a a
  | there {n : Nat} {a x : Int} {c : HC} : hat L a = some c → c.k = 0 → c.n ≠ a → EndsN L n c.n x → EndsN L (n + 1) a x
def End (L : List HC) (a x : Int) : Prop := ∃ n, EndsN L n a x
theorem EndsN.det {L : List HC} {n m : Nat} {a x y : Int} (h : EndsN L n a x) : EndsN L m a y → n = m ∧ x = y := by
  induction h generalizing m with
  | here h0 h1 =>
    intro g
    cases g with
    | here g0 g1 => exact ⟨rfl, rfl⟩
    | there g0 g1 g2 _ => rw [h0] at g0; cases g0; exact absurd ⟨g1, g2⟩ h1
  | there h0 h1 h2 _ ih =>
    intro g
    cases g with
    | here g0 g1 => rw [h0] at g0; cases g0; exact absurd ⟨h1, h2⟩ g1
    | there g0 g1 g2 g3 =>
      rw [h0] at g0; cases g0
      obtain ⟨e1, e2⟩ := ih g3
      exact ⟨by omega, e2⟩
theorem End.det {L : List HC} {a x y : Int} (h : End L a x) (g : End L a y) : x = y := by
  obtain ⟨_, h⟩ := h
  obtain ⟨_, g⟩ := g
  exact (h.det g).2
theorem EndsN.last {L : List HC} {n : Nat} {a x : Int} (h : EndsN L n a x) : ∃ c, hat L x = some c ∧ ¬ (c.k = 0 ∧ c.n ≠ x) := by
  induction h with
  | here h0 h1 => exact ⟨_, h0, h1⟩
  | there _ _ _ _ ih => exact ih
theorem End.last {L : List HC} {a x : Int} (h : End L a x) : ∃ c, hat L x = some c ∧ ¬ (c.k = 0 ∧ c.n ≠ x) := by
  obtain ⟨_, h⟩ := h; exact h.last
theorem End.self {L : List HC} {a x : Int} (h : End L a x) : End L x x := by
  obtain ⟨c, h0, h1⟩ := h.last
  exact ⟨0, .here h0 h1⟩
theorem End.of_nonvar {L : List HC} {x : Int} {c : HC} (h : hat L x = some c) (hk : c.k ≠ 0) : End L x x := ⟨0, .here h fun e => hk e.1⟩
theorem End.first {L : List HC} {a x : Int} (h : End L a x) : ∃ c, hat L a = some c := by
  obtain ⟨_, h⟩ := h
  cases h with
  | here h0 _ => exact ⟨_, h0⟩
  | there h0 _ _ _ => exact ⟨_, h0⟩
/-- A list of different numbers below n has at most n. -/
theorem nodup_len : ∀ (n : Nat) (l : List Nat), l.Nodup → (∀ y ∈ l, y < n) → l.length ≤ n
  | 0, l, _, h => by
    cases l with
    | nil => simp
    | cons y l => exact absurd (h y (by simp)) (by omega)
  | n + 1, l, hn, h => by
    by_cases hm : n ∈ l
    · have h1 := nodup_len n (l.erase n) (hn.erase n) fun y hy => by
        have h2 := (hn.mem_erase_iff).1 hy
        have h3 := h y h2.2
        have h4 := h2.1
        omega
      rw [List.length_erase_of_mem hm] at h1
      omega
    · have := nodup_len n l hn fun y hy => by
        have h3 := h y hy
        have h4 : y ≠ n := fun e => hm (e ▸ hy)
        omega
      omega
theorem EndsN.list {L : List HC} {n : Nat} {a x : Int} (h : EndsN L n a x) : ∃ l : List Nat, l.length = n + 1 ∧ l.Nodup ∧ (∀ y ∈ l, y < L.length) ∧ ∀ y ∈ l, ∃ j, j ≤ n ∧ EndsN L j (y : Int) x := by
  induction h with
  | @here a c h0 h1 =>
    obtain ⟨g0, g1, _⟩ := hatS.1 h0
    refine ⟨[a.toNat], rfl, by simp, fun y hy => ?_, fun y hy => ⟨0, Nat.le_refl _, ?_⟩⟩
    · simp at hy; omega
    · simp at hy
      rw [show ((y : Nat) : Int) = a by omega]
      exact .here h0 h1
  | @there n a x c h0 h1 h2 h3 ih =>
    obtain ⟨g0, g1, _⟩ := hatS.1 h0
    obtain ⟨l, l1, l2, l3, l4⟩ := ih
    have ha : ((a.toNat : Nat) : Int) = a := by omega
    refine ⟨a.toNat :: l, by simp [l1], List.nodup_cons.2 ⟨fun hm => ?_, l2⟩, fun y hy => ?_, fun y hy => ?_⟩
    · obtain ⟨j, hj, he⟩ := l4 _ hm
      rw [ha] at he
      have := (he.det (.there h0 h1 h2 h3)).1
      omega
    · rcases List.mem_cons.1 hy with rfl | hy
      · omega
      · exact l3 y hy
    · rcases List.mem_cons.1 hy with rfl | hy
      · rw [ha]; exact ⟨n + 1, Nat.le_refl _, .there h0 h1 h2 h3⟩
      · obtain ⟨j, hj, he⟩ := l4 y hy
        exact ⟨j, by omega, he⟩
theorem EndsN.lt {L : List HC} {n : Nat} {a x : Int} (h : EndsN L n a x) : n < L.length := by
  obtain ⟨l, l1, l2, l3, _⟩ := h.list
  have := nodup_len L.length l l2 l3
  omega
theorem hlookF_of {L : List HC} {n : Nat} {a x : Int} (h : EndsN L n a x) : ∀ f, n < f → hlookF L f a = x := by
  induction h with
  | here h0 h1 =>
    intro f hf
    obtain ⟨f, rfl⟩ : ∃ g, f = g + 1 := ⟨f - 1, by omega⟩
    simp only [hlookF, h0, if_neg h1]
  | there h0 h1 h2 _ ih =>
    intro f hf
    obtain ⟨f, rfl⟩ : ∃ g, f = g + 1 := ⟨f - 1, by omega⟩
    simp only [hlookF, h0, if_pos (And.intro h1 h2)]
    exact ih f (by omega)
theorem end_of_hlookF {L : List HC} : ∀ (f : Nat) (a : Int), ¬ hlookF L f a < 0 → ∃ n, EndsN L n a (hlookF L f a)
  | 0, a, h => absurd (show hlookF L 0 a < 0 by simp [hlookF]) h
  | f + 1, a, h => by
    cases hc : hat L a with
    | none => simp only [hlookF, hc] at h; exact absurd (by decide) h
    | some c =>
      by_cases hb : c.k = 0 ∧ c.n ≠ a
      · simp only [hlookF, hc, if_pos hb] at h ⊢
        obtain ⟨n, hn⟩ := end_of_hlookF f c.n h
        exact ⟨n + 1, .there hc hb.1 hb.2 hn⟩
      · simp only [hlookF, hc, if_neg hb]
        exact ⟨0, .here hc hb⟩
theorem End.look {L : List HC} {a x : Int} (h : End L a x) : hlook L a = x := by
  obtain ⟨n, h⟩ := h
  exact hlookF_of h _ h.lt
theorem end_look {L : List HC} {a : Int} (h : ¬ hlook L a < 0) : End L a (hlook L a) := end_of_hlookF _ _ h
theorem End.nonneg {L : List HC} {a x : Int} (h : End L a x) : 0 ≤ x := by
  obtain ⟨c, h0, _⟩ := h.last; exact (hatS.1 h0).1
theorem hlook_none {L : List HC} {a : Int} (h : ¬ ∃ x, End L a x) : hlook L a = -1 := by
  rcases hlookF_end (L := L) L.length a with h1 | ⟨c, h1, _⟩
  · exact h1
  · refine absurd ⟨hlook L a, end_look ?_⟩ h
    have := (hatS.1 h1).1
    unfold hlook; omega
/-- A cell's number set: what is there then. -/
theorem hat_setN {L : List HC} {r : Int} {c : HC} (hr : hat L r = some c) (y a : Int) : hat (setN L r.toNat y) a = if a = r then some ⟨c.k, y, c.s⟩ else hat L a := by
  obtain ⟨r0, r1, r2⟩ := hatS.1 hr
  unfold hat
  by_cases ha : 0 ≤ a
  · rw [if_pos ha, if_pos ha, setN_get]
    by_cases he : a = r
    · rw [if_pos he, if_pos (by rw [he]), he, r2]; rfl
    · rw [if_neg he, if_neg (by omega)]
  · rw [if_neg ha, if_neg ha, if_neg (by omega)]
/-- What more bindings leave. -/
structure Up (L L' : List HC) : Prop where
  ends : ∀ a x, End L a x → ∃ y, End L' a y ∧ End L' x y
  cell : ∀ a c, hat L a = some c → c.k ≠ 0 → hat L' a = some c
theorem Up.refl (L : List HC) : Up L L := ⟨fun a x h => ⟨x, h, h.self⟩, fun _ _ h _ => h⟩
theorem Up.trans {L L' L'' : List HC} (h : Up L L') (g : Up L' L'') : Up L L'' := by
  refine ⟨fun a x hx => ?_, fun a c hc hk => g.cell a c (h.cell a c hc hk) hk⟩
  obtain ⟨y, h1, h2⟩ := h.ends a x hx
  obtain ⟨z, g1, g2⟩ := g.ends a y h1
  obtain ⟨z', g3, g4⟩ := g.ends x y h2
  have := g2.det g4
  subst this
  exact ⟨z, g1, g3⟩
theorem Up.nonvar {L L' : List HC} (h : Up L L') {a x : Int} {c : HC} (ha : End L a x) (hx : hat L x = some c) (hk : c.k ≠ 0) : End L' a x := by
  obtain ⟨y, h1, h2⟩ := h.ends a x ha
  have := h2.det (End.of_nonvar (h.cell x c hx hk) hk)
  subst this; exact h1
/-- A variable bound to what ends elsewhere. -/
theorem end_bind {L : List HC} {r y : Int} {c : HC} (hr : hat L r = some c) (hk : c.k = 0) (hn : c.n = r) (hy : End L y y) (hne : y ≠ r) :
    (∀ a x, End L a x → x ≠ r → End (setN L r.toNat y) a x) ∧ (∀ a, End L a r → End (setN L r.toNat y) a y) := by
  have hyy : End (setN L r.toNat y) y y := by
    obtain ⟨d, d0, d1⟩ := hy.last
    exact ⟨0, .here (by rw [hat_setN hr, if_neg hne]; exact d0) d1⟩
  have key : ∀ n a x, EndsN L n a x → End (setN L r.toNat y) a (if x = r then y else x) := by
    intro n a x h
    induction h with
    | @here a d h0 h1 =>
      by_cases ha : a = r
      · rw [if_pos ha]
        obtain ⟨m, hm⟩ := hyy
        exact ⟨m + 1, .there (c := ⟨c.k, y, c.s⟩) (by rw [hat_setN hr, if_pos ha]) hk (by rw [ha]; exact hne) hm⟩
      · rw [if_neg ha]
        exact ⟨0, .here (by rw [hat_setN hr, if_neg ha]; exact h0) h1⟩
    | @there n a x d h0 h1 h2 _ ih =>
      have ha : a ≠ r := fun e => by
        rw [e, hr] at h0; cases h0
        rw [e] at h2; exact h2 hn
      obtain ⟨m, hm⟩ := ih
      exact ⟨m + 1, .there (by rw [hat_setN hr, if_neg ha]; exact h0) h1 h2 hm⟩
  refine ⟨fun a x ⟨n, h⟩ hx => ?_, fun a ⟨n, h⟩ => ?_⟩
  · have := key n a x h; rwa [if_neg hx] at this
  · have := key n a r h; rwa [if_pos rfl] at this
theorem up_bind {L : List HC} {r y : Int} {c : HC} (hr : hat L r = some c) (hk : c.k = 0) (hn : c.n = r) (hy : End L y y) (hne : y ≠ r) : Up L (setN L r.toNat y) := by
  obtain ⟨h1, h2⟩ := end_bind hr hk hn hy hne
  refine ⟨fun a x hx => ?_, fun a d hd hdk => ?_⟩
  · by_cases he : x = r
    · subst he; exact ⟨y, h2 a hx, h2 _ hx.self⟩
    · exact ⟨x, h1 a x hx he, h1 x x hx.self he⟩
  · rw [hat_setN hr, if_neg]
    · exact hd
    · intro e; rw [e, hr] at hd; cases hd; exact hdk hk
/-- A relation between places under which ends are the same, or cells are, with their arguments. -/
def Bis (L : List HC) (R : Int → Int → Prop) : Prop := ∀ a b, R a b → a = b ∨ ∃ x y, End L a x ∧ End L b y ∧ (x = y ∨ ∃ c, hat L x = some c ∧ hat L y = some c ∧ c.k ≠ 0 ∧ ∀ i : Int, 0 ≤ i → i < argsC c → R (x + 1 + i) (y + 1 + i))
/-- Two places that are one. -/
def Sm (L : List HC) (a b : Int) : Prop := ∃ R, Bis L R ∧ R a b
theorem Sm.ends {L : List HC} {a b : Int} (h : Sm L a b) : a = b ∨ ∃ x y, End L a x ∧ End L b y ∧ (x = y ∨ ∃ c, hat L x = some c ∧ hat L y = some c ∧ c.k ≠ 0 ∧ ∀ i : Int, 0 ≤ i → i < argsC c → Sm L (x + 1 + i) (y + 1 + i)) := by
  obtain ⟨R, hR, hab⟩ := h
  rcases hR a b hab with e | ⟨x, y, hx, hy, e | ⟨c, h1, h2, h3, h4⟩⟩
  · exact .inl e
  · exact .inr ⟨x, y, hx, hy, .inl e⟩
  · exact .inr ⟨x, y, hx, hy, .inr ⟨c, h1, h2, h3, fun i i0 i1 => ⟨R, hR, h4 i i0 i1⟩⟩⟩
theorem Sm.step {L : List HC} {a b : Int} (h : Sm L a b) {x y : Int} (hx : End L a x) (hy : End L b y) : x = y ∨ ∃ c, hat L x = some c ∧ hat L y = some c ∧ c.k ≠ 0 ∧ ∀ i : Int, 0 ≤ i → i < argsC c → Sm L (x + 1 + i) (y + 1 + i) := by
  rcases h.ends with e | ⟨x', y', hx', hy', e⟩
  · subst e; exact .inl (hx.det hy)
  · have e1 := hx.det hx'
    have e2 := hy.det hy'
    subst e1 e2; exact e
theorem Sm.of {L : List HC} {a b x y : Int} (hx : End L a x) (hy : End L b y) (h : x = y ∨ ∃ c, hat L x = some c ∧ hat L y = some c ∧ c.k ≠ 0 ∧ ∀ i : Int, 0 ≤ i → i < argsC c → Sm L (x + 1 + i) (y + 1 + i)) : Sm L a b := by
  refine ⟨fun p q => Sm L p q ∨ (p = a ∧ q = b), fun p q hpq => ?_, .inr ⟨rfl, rfl⟩⟩
  have : p = q ∨ ∃ x y, End L p x ∧ End L q y ∧ (x = y ∨ ∃ c, hat L x = some c ∧ hat L y = some c ∧ c.k ≠ 0 ∧ ∀ i : Int, 0 ≤ i → i < argsC c → Sm L (x + 1 + i) (y + 1 + i)) := by
    rcases hpq with h1 | ⟨rfl, rfl⟩
    · exact h1.ends
    · exact .inr ⟨x, y, hx, hy, h⟩
  rcases this with e | ⟨x, y, hx, hy, e | ⟨c, h1, h2, h3, h4⟩⟩
  · exact .inl e
  · exact .inr ⟨x, y, hx, hy, .inl e⟩
  · exact .inr ⟨x, y, hx, hy, .inr ⟨c, h1, h2, h3, fun i i0 i1 => .inl (h4 i i0 i1)⟩⟩
theorem Sm.refl (L : List HC) (a : Int) : Sm L a a := ⟨fun p q => p = q, fun p q e => .inl e, rfl⟩
theorem Sm.symm {L : List HC} {a b : Int} (h : Sm L a b) : Sm L b a := by
  obtain ⟨R, hR, hab⟩ := h
  refine ⟨fun p q => R q p, fun p q hpq => ?_, hab⟩
  rcases hR q p hpq with e | ⟨x, y, hx, hy, e | ⟨c, h1, h2, h3, h4⟩⟩
  · exact .inl e.symm
  · exact .inr ⟨y, x, hy, hx, .inl e.symm⟩
  · exact .inr ⟨y, x, hy, hx, .inr ⟨c, h2, h1, h3, h4⟩⟩
theorem Sm.meet {L : List HC} {a b x : Int} (ha : End L a x) (hb : End L b x) : Sm L a b := Sm.of ha hb (.inl rfl)
end Go.Proofs.Ytdflngjfnpbpmab
namespace Go.Proofs.Ytdflngjfnpbpmab
open Go.RowKit
set_option linter.unusedVariables false
set_option linter.unusedSimpArgs false

theorem stepLong {u : HU} (h : 400 ≤ u.w) : u.step.lg = true := by
  simp only [HU.step]; rw [decide_eq_true (by omega)]; simp
/-- Two looks, one after the other. -/
theorem looks_ok {u : HU} {a b : Int} (h : ((u.step.look a).2.look b).2.lg = false) :
    u.step.lg = false ∧ (u.step.look a).1 = hlook u.cs a ∧ ((u.step.look a).2.look b).1 = hlook u.cs b ∧ End u.cs a (hlook u.cs a) ∧ End u.cs b (hlook u.cs b) ∧ ((u.step.look a).2.look b).2.cs = u.cs ∧ ((u.step.look a).2.look b).2.tr = u.tr ∧ ((u.step.look a).2.look b).2.w = u.w + 1 := by
  have hwa := look_w u.step a
  have hwb := look_w (u.step.look a).2 b
  obtain ⟨hla, hb1, hb2⟩ := look_ok h
  obtain ⟨hls, ha1, ha2⟩ := look_ok hla
  rw [hwa.2.1] at hb1 hb2
  exact ⟨hls, ha1, hb1, end_look ha2, end_look hb2, by rw [hwb.2.1, hwa.2.1]; rfl, by rw [hwb.2.2, hwa.2.2]; rfl, by rw [hwb.1, hwa.1]; rfl⟩
/-- What a run that comes to an end without being long has made of two places. -/
structure One (a b : Int) (u : HU) (v : HU) : Prop where
  up : Up u.cs v.cs
  sm : ∀ L, Up v.cs L → Sm L a b
theorem all_one {n : Nat} {g : Int → Int → HU → Bool × HU} (hu : ∀ x y u, GU n u → u.lg = false → UU n u (g x y u)) (hg : ∀ x y u, GU n u → u.lg = false → (g x y u).1 = true → One x y u (g x y u).2) :
    ∀ (m : Nat) (x y : Int) (u : HU), GU n u → u.lg = false → (allU g m x y u).1 = true → Up u.cs (allU g m x y u).2.cs ∧ ∀ L, Up (allU g m x y u).2.cs L → ∀ i : Int, 0 ≤ i → i < m → Sm L (x + i) (y + i)
  | 0, x, y, u, h, hl, _ => ⟨Up.refl _, fun L _ i i0 i1 => by omega⟩
  | m + 1, x, y, u, h, hl, hr => by
    have h1 := hu x y u h hl
    simp only [allU] at hr ⊢
    by_cases hok : (g x y u).1 = true
    · rw [if_pos hok] at hr ⊢
      have o1 := hg x y u h hl hok
      obtain ⟨u1, u2⟩ := all_one hu hg m (x + 1) (y + 1) (g x y u).2 h1.gu (h1.ok hok) hr
      refine ⟨o1.up.trans u1, fun L hL i i0 i1 => ?_⟩
      by_cases hi : i = 0
      · subst hi
        have := o1.sm L (u1.trans hL)
        simpa using this
      · have := u2 L hL (i - 1) (by omega) (by omega)
        rw [show x + 1 + (i - 1) = x + i by omega, show y + 1 + (i - 1) = y + i by omega] at this
        exact this
    · rw [if_neg hok] at hr; exact absurd hr hok
theorem asg_one {n : Nat} {u : HU} (h : GU n u) {p q : Int} {x y : HC} (hx : hat u.cs p = some x) (hxk : x.k = 0) (hxe : x.n = p) (hy : hat u.cs q = some y) (hyk : y.k ≠ 0) (hr : (asgU p q u).1 = true) :
    (asgU p q u).2.cs = setN u.cs p.toNat q ∧ (asgU p q u).2.tr = u.tr ++ [p] ∧ q ≠ p := by
  have ho := occ_up (n := n) p 401 q u h.good h.wk
  unfold asgU at hr ⊢
  split at hr
  · cases hr
  · rename_i hn
    rw [if_neg hn]
    refine ⟨by simp only [HU.bind]; rw [ho.cs], by simp only [HU.bind]; rw [ho.tr], fun e => ?_⟩
    rw [e, hx] at hy; cases hy; exact hyk hxk
theorem uni_one {n : Nat} : ∀ (f : Nat) (a b : Int) (u : HU), GU n u → u.lg = false → (uniU f a b u).1 = true → One a b u (uniU f a b u).2
  | 0, a, b, u, h, hl, hr => by simp [uniU] at hr
  | f + 1, a, b, u, h, hl, hr => by
    have hg2 : GU n ((u.step.look a).2.look b).2 := (h.step.look a).look b
    simp only [uniU] at hr ⊢
    by_cases hl2 : ((u.step.look a).2.look b).2.lg = true
    · rw [if_pos hl2] at hr; cases hr
    have hl3 : ((u.step.look a).2.look b).2.lg = false := by simpa using hl2
    rw [if_neg hl2] at hr ⊢
    obtain ⟨_, ha, hb, ea, eb, hcs, htr, _⟩ := looks_ok hl3
    rw [ha, hb] at hr ⊢
    obtain ⟨x, hx, hxe⟩ := ea.last
    obtain ⟨y, hy, hye⟩ := eb.last
    generalize hp : hlook u.cs a = p at *
    generalize hq : hlook u.cs b = q at *
    generalize ((u.step.look a).2.look b).2 = v at *
    rw [show kindAt u.cs p = x.k by unfold kindAt; rw [hx], show kindAt u.cs q = y.k by unfold kindAt; rw [hy]] at hr ⊢
    have fin : ∀ {L1 : List HC} {z : Int}, Up u.cs L1 → End L1 a z → End L1 b z → ∀ {v' : HU}, v'.cs = L1 → One a b u v' := fun hU h1 h2 v' e => ⟨by rw [e]; exact hU, fun L hL => by
      rw [e] at hL
      obtain ⟨s, s1, s2⟩ := hL.ends _ _ h1
      obtain ⟨t, t1, t2⟩ := hL.ends _ _ h2
      have := s2.det t2
      subst this
      exact Sm.meet s1 t1⟩
    have bindOne : ∀ {r z : Int} {c : HC}, hat u.cs r = some c → c.k = 0 → c.n = r → End u.cs z z → z ≠ r → (∀ a', End u.cs a' r ∨ End u.cs a' z → End (setN u.cs r.toNat z) a' z) := fun hr' hk' hn' hz hne a' ha' => by
      obtain ⟨k1, k2⟩ := end_bind hr' hk' hn' hz hne
      rcases ha' with g | g
      · exact k2 _ g
      · exact k1 _ _ g hne
    by_cases hxk : x.k = 0
    · have hxn : x.n = p := Classical.byContradiction fun e => hxe ⟨hxk, e⟩
      rw [if_pos hxk] at hr ⊢
      by_cases hyk : y.k = 0
      · have hyn : y.n = q := Classical.byContradiction fun e => hye ⟨hyk, e⟩
        rw [if_pos hyk] at hr ⊢
        by_cases hpq : p = q
        · rw [if_pos hpq]
          subst hpq
          exact fin (Up.refl _) ea eb hcs
        · rw [if_neg hpq]
          rcases Int.le_total p q with hle | hle
          · rw [Int.max_eq_right hle, Int.min_eq_left hle]
            have := bindOne hy hyk hyn ea.self hpq
            exact fin (up_bind hy hyk hyn ea.self hpq) (this a (.inr ea)) (this b (.inl eb)) (by simp only [HU.bind]; rw [hcs])
          · rw [Int.max_eq_left hle, Int.min_eq_right hle]
            have := bindOne hx hxk hxn eb.self (Ne.symm hpq)
            exact fin (up_bind hx hxk hxn eb.self (Ne.symm hpq)) (this a (.inl ea)) (this b (.inr eb)) (by simp only [HU.bind]; rw [hcs])
      · rw [if_neg hyk] at hr ⊢
        obtain ⟨e1, _, hne⟩ := asg_one hg2 (p := p) (q := q) (by rw [hcs]; exact hx) hxk hxn (by rw [hcs]; exact hy) hyk hr
        rw [hcs] at e1
        have := bindOne hx hxk hxn eb.self hne
        exact fin (up_bind hx hxk hxn eb.self hne) (this a (.inl ea)) (this b (.inr eb)) e1
    · rw [if_neg hxk] at hr ⊢
      by_cases hyk : y.k = 0
      · have hyn : y.n = q := Classical.byContradiction fun e => hye ⟨hyk, e⟩
        rw [if_pos hyk] at hr ⊢
        obtain ⟨e1, _, hne⟩ := asg_one hg2 (p := q) (q := p) (by rw [hcs]; exact hy) hyk hyn (by rw [hcs]; exact hx) hxk hr
        rw [hcs] at e1
        have := bindOne hy hyk hyn ea.self hne
        exact fin (up_bind hy hyk hyn ea.self hne) (this a (.inr ea)) (this b (.inl eb)) e1
      · rw [if_neg hyk] at hr ⊢
        unfold partsU at hr ⊢
        by_cases hxy : hat v.cs p = hat v.cs q
        · rw [if_pos hxy] at hr ⊢
          obtain ⟨u1, u2⟩ := all_one (n := n) (fun x y u => uni_up f x y u) (fun x y u h hl hr => uni_one f x y u h hl hr) _ _ _ v hg2 hl3 hr
          replace u1 : Up u.cs (allU (uniU f) (argsAt v.cs p) (p + 1) (q + 1) v).2.cs := by rw [← hcs]; exact u1
          rw [hcs] at hxy
          rw [hx, hy] at hxy
          obtain rfl := Option.some.inj hxy
          have hA : argsAt v.cs p = (argsC x).toNat := by unfold argsAt; rw [hcs, hx]
          refine ⟨u1, fun L hL => ?_⟩
          have hU := u1.trans hL
          exact Sm.of (hU.nonvar ea hx hxk) (hU.nonvar eb hy hyk) (.inr ⟨x, hU.cell _ _ hx hxk, hU.cell _ _ hy hyk, hxk, fun i i0 i1 => u2 L hL i i0 (by rw [hA]; omega)⟩)
        · rw [if_neg hxy] at hr; cases hr
/-- What is one needs nothing more. -/
def Still (u : HU) (r : Bool × HU) : Prop := r.2.lg = true ∨ (r.1 = true ∧ r.2.cs = u.cs ∧ r.2.tr = u.tr ∧ u.w ≤ r.2.w ∧ r.2.lg = false)
theorem all_still {n : Nat} {g : Int → Int → HU → Bool × HU} {L : List HC} {k : Nat} (hu : ∀ x y u, GU n u → u.lg = false → UU n u (g x y u)) (hg : ∀ x y u, GU n u → u.lg = false → u.cs = L → k ≤ u.w → Sm L x y → Still u (g x y u)) :
    ∀ (m : Nat) (x y : Int) (u : HU), GU n u → u.lg = false → u.cs = L → k ≤ u.w → (∀ i : Int, 0 ≤ i → i < m → Sm L (x + i) (y + i)) → Still u (allU g m x y u)
  | 0, x, y, u, h, hl, hc, hw, _ => .inr ⟨rfl, rfl, rfl, Nat.le_refl _, hl⟩
  | m + 1, x, y, u, h, hl, hc, hw, hs => by
    have h1 := hu x y u h hl
    simp only [allU]
    rcases hg x y u h hl hc hw (by simpa using hs 0 (by omega) (by omega)) with h2 | ⟨h2, h3, h4, h5, h6⟩
    · by_cases hok : (g x y u).1 = true
      · rw [h1.ok hok] at h2; cases h2
      · rw [if_neg hok]; exact .inl h2
    · rw [if_pos h2]
      rcases all_still hu hg m (x + 1) (y + 1) (g x y u).2 h1.gu h6 (h3.trans hc) (by omega) (fun i i0 i1 => by
        have := hs (i + 1) (by omega) (by omega)
        rw [show x + 1 + i = x + (i + 1) by omega, show y + 1 + i = y + (i + 1) by omega]; exact this) with g2 | ⟨g2, g3, g4, g5, g6⟩
      · exact .inl g2
      · exact .inr ⟨g2, g3.trans h3, g4.trans h4, by omega, g6⟩
theorem uni_still {n : Nat} {L : List HC} : ∀ (f : Nat) (a b : Int) (u : HU), GU n u → u.lg = false → u.cs = L → 400 ≤ u.w + f → Sm L a b → Still u (uniU f a b u)
  | 0, a, b, u, h, hl, hc, hw, hs => by
    left
    simp only [uniU]
    cases hq : ((u.step.look a).2.look b).2.lg with
    | true => rfl
    | false => have := (looks_ok hq).1; rw [stepLong (by omega)] at this; cases this
  | f + 1, a, b, u, h, hl, hc, hw, hs => by
    have hg2 : GU n ((u.step.look a).2.look b).2 := (h.step.look a).look b
    simp only [uniU]
    by_cases hl2 : ((u.step.look a).2.look b).2.lg = true
    · rw [if_pos hl2]; exact .inl hl2
    have hl3 : ((u.step.look a).2.look b).2.lg = false := by simpa using hl2
    rw [if_neg hl2]
    obtain ⟨_, ha, hb, ea, eb, hcs, htr, hw2⟩ := looks_ok hl3
    rw [ha, hb]
    obtain ⟨x, hx, hxe⟩ := ea.last
    obtain ⟨y, hy, hye⟩ := eb.last
    have hstep := hs.step (by rw [← hc]; exact ea) (by rw [← hc]; exact eb)
    rw [← hc] at hstep
    generalize hlook u.cs a = p at *
    generalize hlook u.cs b = q at *
    generalize ((u.step.look a).2.look b).2 = v at *
    rw [show kindAt u.cs p = x.k by unfold kindAt; rw [hx], show kindAt u.cs q = y.k by unfold kindAt; rw [hy]]
    have parts : (∀ i : Int, 0 ≤ i → i < argsC x → Sm L (p + 1 + i) (q + 1 + i)) → hat u.cs p = hat u.cs q → Still u (partsU (uniU f) p q v) := fun hch he => by
      unfold partsU
      rw [if_pos (by rw [hcs]; exact he)]
      have hA : argsAt v.cs p = (argsC x).toNat := by unfold argsAt; rw [hcs, hx]
      rcases all_still (n := n) (L := L) (k := v.w) (fun x y u => uni_up f x y u) (fun x y u g1 g2 g3 g4 g5 => uni_still f x y u g1 g2 g3 (by omega) g5) (argsAt v.cs p) (p + 1) (q + 1) v hg2 hl3 (hcs.trans hc) (Nat.le_refl _) (fun i i0 i1 => hch i i0 (by rw [hA] at i1; omega)) with g2 | ⟨g2, g3, g4, g5, g6⟩
      · exact .inl g2
      · exact .inr ⟨g2, g3.trans hcs, g4.trans htr, by omega, g6⟩
    rcases hstep with e | ⟨c, h1, h2, h3, h4⟩
    · subst e
      rw [hx] at hy; cases hy
      by_cases hk : x.k = 0
      · rw [if_pos hk, if_pos hk, if_pos rfl]
        exact .inr ⟨rfl, hcs, htr, by show u.w ≤ v.w; omega, hl3⟩
      · rw [if_neg hk, if_neg hk]
        exact parts (fun i _ _ => Sm.refl L _) rfl
    · rw [hx] at h1; cases h1
      rw [hy] at h2; cases h2
      rw [if_neg h3, if_neg h3]
      exact parts (fun i i0 i1 => by rw [← hc]; exact h4 i i0 i1) (by rw [hx, hy])
end Go.Proofs.Ytdflngjfnpbpmab
namespace Go.Proofs.Ytdflngjfnpbpmab
open Go.RowKit
set_option linter.unusedVariables false
set_option linter.unusedSimpArgs false

/-- Of the cells of L just those at N, all unbound, have been told another number. -/
def Bd (N : List Int) (L L' : List HC) : Prop := (∀ r ∈ N, 0 ≤ r) ∧ ∀ i : Nat, ((i : Int) ∈ N → ∃ c n, L[i]? = some c ∧ c.k = 0 ∧ c.n = (i : Int) ∧ L'[i]? = some ⟨c.k, n, c.s⟩) ∧ ((i : Int) ∉ N → L'[i]? = L[i]?)
theorem Bd.refl (L : List HC) : Bd [] L L := ⟨fun r h => by simp at h, fun i => ⟨fun h => by simp at h, fun _ => rfl⟩⟩
theorem Bd.trans {N N' : List Int} {L L' L'' : List HC} (h : Bd N L L') (g : Bd N' L' L'') : Bd (N ++ N') L L'' := by
  refine ⟨fun r hr => (List.mem_append.1 hr).elim (h.1 r) (g.1 r), fun i => ⟨fun hi => ?_, fun hi => ?_⟩⟩
  · by_cases h1 : (i : Int) ∈ N
    · obtain ⟨c, n, c1, c2, c3, c4⟩ := (h.2 i).1 h1
      by_cases h2 : (i : Int) ∈ N'
      · obtain ⟨d, m, d1, d2, d3, d4⟩ := (g.2 i).1 h2
        rw [c4] at d1; cases d1
        exact ⟨c, m, c1, c2, c3, d4⟩
      · rw [← (g.2 i).2 h2] at c4
        exact ⟨c, n, c1, c2, c3, c4⟩
    · have h2 : (i : Int) ∈ N' := by rcases List.mem_append.1 hi with h | h; exact absurd h h1; exact h
      obtain ⟨d, m, d1, d2, d3, d4⟩ := (g.2 i).1 h2
      rw [(h.2 i).2 h1] at d1
      exact ⟨d, m, d1, d2, d3, d4⟩
  · rw [(g.2 i).2 (fun h' => hi (List.mem_append_right _ h')), (h.2 i).2 (fun h' => hi (List.mem_append_left _ h'))]
theorem Bd.one {L : List HC} {r y : Int} {c : HC} (hr : hat L r = some c) (hk : c.k = 0) (hn : c.n = r) : Bd [r] L (setN L r.toNat y) := by
  obtain ⟨r0, r1, r2⟩ := hatS.1 hr
  refine ⟨fun s hs => by simp at hs; omega, fun i => ⟨fun hi => ?_, fun hi => ?_⟩⟩
  · simp at hi
    have e : r.toNat = i := by omega
    rw [e] at r2 ⊢
    exact ⟨c, y, r2, hk, by omega, by rw [setN_get, if_pos rfl, r2]; rfl⟩
  · simp at hi
    rw [setN_get, if_neg (by omega)]
theorem undoL_get : ∀ (N : List Int) (L : List HC), (∀ r ∈ N, 0 ≤ r) → ∀ i : Nat, (undoL L N)[i]? = if (i : Int) ∈ N then (L[i]?).map (fun c => ⟨c.k, i, c.s⟩) else L[i]?
  | [], L, _, i => by simp [undoL]
  | r :: N, L, h, i => by
    have r0 := h r (by simp)
    unfold undoL
    rw [undoL_get N _ (fun s hs => h s (.tail _ hs)) i, setN_get]
    by_cases e : r.toNat = i
    · have e2 : (i : Int) = r := by omega
      have hm : (i : Int) ∈ r :: N := by rw [e2]; exact .head _
      rw [if_pos e, if_pos hm]
      by_cases h2 : (i : Int) ∈ N
      · rw [if_pos h2, Option.map_map]; rfl
      · rw [if_neg h2, e2]
    · rw [if_neg e]
      have : (i : Int) ∈ r :: N ↔ (i : Int) ∈ N := by
        simp only [List.mem_cons]
        constructor
        · rintro (h | h)
          · omega
          · exact h
        · exact .inr
      simp only [this]
theorem Bd.undo {N : List Int} {L L' : List HC} (h : Bd N L L') : undoL L' N = L := by
  refine List.ext_getElem? fun i => ?_
  rw [undoL_get N L' h.1 i]
  by_cases hi : (i : Int) ∈ N
  · rw [if_pos hi]
    obtain ⟨c, n, c1, c2, c3, c4⟩ := (h.2 i).1 hi
    rw [c4, c1, Option.map_some, ← c3]
  · rw [if_neg hi]; exact (h.2 i).2 hi
theorem Bd.kind {N : List Int} {L L' : List HC} (h : Bd N L L') {r : Int} {c : HC} (hr : hat L r = some c) : ∃ d, hat L' r = some d ∧ d.k = c.k := by
  obtain ⟨r0, r1, r2⟩ := hatS.1 hr
  have e : ((r.toNat : Nat) : Int) = r := by omega
  have key : ∃ d, L'[r.toNat]? = some d ∧ d.k = c.k := by
    by_cases hi : ((r.toNat : Nat) : Int) ∈ N
    · obtain ⟨d, n, c1, c2, c3, c4⟩ := (h.2 r.toNat).1 hi
      rw [r2] at c1; cases c1
      exact ⟨_, c4, rfl⟩
    · exact ⟨c, by rw [(h.2 r.toNat).2 hi]; exact r2, rfl⟩
  obtain ⟨d, d1, d2⟩ := key
  exact ⟨d, by unfold hat; rw [if_pos r0]; exact d1, d2⟩
/-- The trail says what has been bound. -/
def Trl (u v : HU) : Prop := ∃ N, v.tr = u.tr ++ N ∧ Bd N u.cs v.cs
theorem Trl.same {u v : HU} (h1 : v.cs = u.cs) (h2 : v.tr = u.tr) : Trl u v := ⟨[], by simp [h2], by rw [h1]; exact Bd.refl _⟩
theorem Trl.trans {u v w : HU} (h : Trl u v) (g : Trl v w) : Trl u w := by
  obtain ⟨N, h1, h2⟩ := h
  obtain ⟨N', g1, g2⟩ := g
  exact ⟨N ++ N', by rw [g1, h1, List.append_assoc], h2.trans g2⟩
theorem Trl.bind {u v : HU} {r y : Int} {c : HC} (hr : hat u.cs r = some c) (hk : c.k = 0) (hn : c.n = r) (h1 : v.cs = setN u.cs r.toNat y) (h2 : v.tr = u.tr ++ [r]) : Trl u v := ⟨[r], h2, by rw [h1]; exact Bd.one hr hk hn⟩
theorem all_trl {n : Nat} {g : Int → Int → HU → Bool × HU} (hu : ∀ x y u, GU n u → u.lg = false → UU n u (g x y u)) (hg : ∀ x y u, GU n u → u.lg = false → Trl u (g x y u).2) :
    ∀ (m : Nat) (x y : Int) (u : HU), GU n u → u.lg = false → Trl u (allU g m x y u).2
  | 0, x, y, u, h, hl => Trl.same rfl rfl
  | m + 1, x, y, u, h, hl => by
    have h1 := hu x y u h hl
    simp only [allU]
    split
    · rename_i hok
      exact (hg x y u h hl).trans (all_trl hu hg m (x + 1) (y + 1) _ h1.gu (h1.ok hok))
    · exact hg x y u h hl
theorem asg_trl {n : Nat} {u : HU} (h : GU n u) {p q : Int} {x : HC} (hx : hat u.cs p = some x) (hxk : x.k = 0) (hxe : x.n = p) : Trl u (asgU p q u).2 := by
  have ho := occ_up (n := n) p 401 q u h.good h.wk
  unfold asgU
  split
  · exact Trl.same ho.cs ho.tr
  · exact Trl.bind hx hxk hxe (by simp only [HU.bind]; rw [ho.cs]) (by simp only [HU.bind]; rw [ho.tr])
theorem uni_trl {n : Nat} : ∀ (f : Nat) (a b : Int) (u : HU), GU n u → u.lg = false → Trl u (uniU f a b u).2
  | f, a, b, u, h, hl => by
    have hg2 : GU n ((u.step.look a).2.look b).2 := (h.step.look a).look b
    have hwa := look_w u.step a
    have hwb := look_w (u.step.look a).2 b
    have hcs2 : ((u.step.look a).2.look b).2.cs = u.cs := by rw [hwb.2.1, hwa.2.1]; rfl
    have htr2 : ((u.step.look a).2.look b).2.tr = u.tr := by rw [hwb.2.2, hwa.2.2]; rfl
    have hfail : Trl u ((u.step.look a).2.look b).2 := Trl.same hcs2 htr2
    cases f with
    | zero => exact hfail
    | succ f =>
    simp only [uniU]
    by_cases hl2 : ((u.step.look a).2.look b).2.lg = true
    · rw [if_pos hl2]; exact hfail
    have hl3 : ((u.step.look a).2.look b).2.lg = false := by simpa using hl2
    rw [if_neg hl2]
    obtain ⟨_, ha, hb, ea, eb, hcs, htr, _⟩ := looks_ok hl3
    rw [ha, hb]
    obtain ⟨x, hx, hxe⟩ := ea.last
    obtain ⟨y, hy, hye⟩ := eb.last
    generalize hlook u.cs a = p at *
    generalize hlook u.cs b = q at *
    generalize ((u.step.look a).2.look b).2 = v at *
    rw [show kindAt u.cs p = x.k by unfold kindAt; rw [hx], show kindAt u.cs q = y.k by unfold kindAt; rw [hy]]
    by_cases hxk : x.k = 0
    · have hxn : x.n = p := Classical.byContradiction fun e => hxe ⟨hxk, e⟩
      rw [if_pos hxk]
      by_cases hyk : y.k = 0
      · have hyn : y.n = q := Classical.byContradiction fun e => hye ⟨hyk, e⟩
        rw [if_pos hyk]
        by_cases hpq : p = q
        · rw [if_pos hpq]; exact hfail
        · rw [if_neg hpq]
          rcases Int.le_total p q with hle | hle
          · rw [Int.max_eq_right hle, Int.min_eq_left hle]
            exact Trl.bind hy hyk hyn (by simp only [HU.bind]; rw [hcs]) (by simp only [HU.bind]; rw [htr])
          · rw [Int.max_eq_left hle, Int.min_eq_right hle]
            exact Trl.bind hx hxk hxn (by simp only [HU.bind]; rw [hcs]) (by simp only [HU.bind]; rw [htr])
      · rw [if_neg hyk]
        exact hfail.trans (asg_trl hg2 (by rw [hcs]; exact hx) hxk hxn)
    · rw [if_neg hxk]
      by_cases hyk : y.k = 0
      · have hyn : y.n = q := Classical.byContradiction fun e => hye ⟨hyk, e⟩
        rw [if_pos hyk]
        exact hfail.trans (asg_trl hg2 (by rw [hcs]; exact hy) hyk hyn)
      · rw [if_neg hyk]
        unfold partsU
        split
        · exact hfail.trans (all_trl (n := n) (fun x y u => uni_up f x y u) (fun x y u h hl => uni_trl f x y u h hl) _ _ _ v hg2 hl3)
        · exact hfail
theorem hpure_gu {h : HH} (hg : goodH h = true) : GU h.cs.length ⟨h.cs, h.tr, 0, false⟩ := by
  unfold goodH goodCs goodTr at hg
  simp only [Bool.and_eq_true, decide_eq_true_eq] at hg
  exact ⟨rfl, hg.1.2, fun _ => by show (0 : Nat) ≤ 400; omega, by show h.tr.length ≤ 65536 + 0; omega⟩
/-- What Unify gives when two places could be made one. -/
theorem unify_ok {h u : HH} {a b : Int} {e : Int} (hu : unifyH h a b = (u, true, e)) : goodH h = true ∧ e = 0 ∧ goodH u = true ∧ Sm u.cs a b ∧ undoH u (h.tr.length : Nat) = (h, 0) ∧ isAddr u.cs a = true ∧ isAddr u.cs b = true ∧ u.tr.length ≤ 65536 := by
  unfold unifyH at hu
  by_cases hg : goodH h = false
  · rw [if_pos hg] at hu; simp at hu
  rw [if_neg hg] at hu
  have hg : goodH h = true := by simpa using hg
  by_cases hab : (isAddr h.cs a && isAddr h.cs b) = false
  · rw [if_pos hab] at hu; simp at hu
  rw [if_neg hab] at hu
  have hab : isAddr h.cs a = true ∧ isAddr h.cs b = true := by simpa using hab
  have hG := hpure_gu hg
  have huu := uni_up 401 a b _ hG rfl
  have hone := uni_one 401 a b _ hG rfl
  have htrl := uni_trl 401 a b _ hG rfl
  generalize uniU 401 a b ⟨h.cs, h.tr, 0, false⟩ = r at *
  split at hu
  · simp at hu
  rename_i hn
  split at hu
  · simp at hu
  rename_i hok
  simp only [Prod.mk.injEq, true_and] at hu
  obtain ⟨rfl, rfl⟩ := hu
  have hok : r.1 = true := by simpa using hok
  have hlen : r.2.tr.length ≤ 65536 := by
    rcases Nat.lt_or_ge 65536 r.2.tr.length with h1 | h1
    · exact absurd (.inr ⟨hok, h1⟩) hn
    · exact h1
  obtain ⟨N, t1, t2⟩ := htrl
  replace t1 : r.2.tr = h.tr ++ N := t1
  replace t2 : Bd N h.cs r.2.cs := t2
  have hln := huu.gu.len
  have hgu : goodH ⟨r.2.cs, r.2.tr⟩ = true := by
    have hg' := hg
    unfold goodH goodCs goodTr at hg ⊢
    simp only [Bool.and_eq_true, decide_eq_true_eq, List.all_eq_true] at hg ⊢
    refine ⟨⟨by rw [hln]; exact hg.1.1, by rw [hln]; exact huu.gu.good⟩, hlen, fun s hs => ?_⟩
    rw [t1] at hs
    unfold goodTr1
    rcases List.mem_append.1 hs with hs | hs
    · have := hg.2.2 s hs
      unfold goodTr1 at this
      split at this
      · rename_i c hc
        obtain ⟨d, d1, d2⟩ := t2.kind hc
        rw [d1]; dsimp only; rw [d2]; exact this
      · cases this
    · have s0 := t2.1 s hs
      have e : ((s.toNat : Nat) : Int) = s := by omega
      obtain ⟨c, n, c1, c2, c3, c4⟩ := (t2.2 s.toNat).1 (by rw [e]; exact hs)
      rw [show hat r.2.cs s = some ⟨c.k, n, c.s⟩ by unfold hat; rw [if_pos s0]; exact c4]
      simp [c2]
  refine ⟨hg, rfl, hgu, (hone hok).sm _ (Up.refl _), ?_, ?_, ?_, hlen⟩
  · unfold undoH
    rw [if_neg (by rw [hgu]; decide), if_neg (by dsimp only; rw [t1]; simp; omega)]
    dsimp only
    rw [t1, show ((h.tr.length : Nat) : Int).toNat = h.tr.length by omega, List.drop_left, List.take_left, t2.undo]
  · have := hab.1; unfold isAddr at this ⊢; rw [hln]; exact this
  · have := hab.2; unfold isAddr at this ⊢; rw [hln]; exact this
theorem unify_not {h u : HH} {a b : Int} {e : Int} (hu : unifyH h a b = (u, false, e)) : u = h := by
  unfold unifyH at hu
  by_cases h1 : goodH h = false
  · rw [if_pos h1] at hu; simp at hu; exact hu.1.symm
  rw [if_neg h1] at hu
  by_cases h2 : (isAddr h.cs a && isAddr h.cs b) = false
  · rw [if_pos h2] at hu; simp at hu; exact hu.1.symm
  rw [if_neg h2] at hu
  split at hu
  · simp at hu; exact hu.1.symm
  · split at hu
    · simp at hu; exact hu.1.symm
    · simp at hu
/-- What is one is one again, unless that takes too long. -/
theorem unify_again {u : HH} {a b : Int} (hg : goodH u = true) (ha : isAddr u.cs a = true) (hb : isAddr u.cs b = true) (hs : Sm u.cs a b) : unifyH u a b = (u, false, 3) ∨ unifyH u a b = (u, true, 0) := by
  have hG := hpure_gu hg
  have htl : u.tr.length ≤ 65536 := by
    unfold goodH goodTr at hg
    simp only [Bool.and_eq_true, decide_eq_true_eq] at hg
    exact hg.2.1
  have hst := uni_still (L := u.cs) 401 a b _ hG rfl rfl (by show 400 ≤ 0 + 401; omega) hs
  unfold unifyH
  rw [if_neg (by rw [hg]; decide), ha, hb, if_neg (by decide)]
  generalize uniU 401 a b ⟨u.cs, u.tr, 0, false⟩ = r at *
  rcases hst with h1 | ⟨h1, h2, h3, h4, h5⟩
  · rw [if_pos (.inl h1)]; exact .inl rfl
  · replace h2 : r.2.cs = u.cs := h2
    replace h3 : r.2.tr = u.tr := h3
    rw [if_neg (by rw [h5, h3]; simp; omega), if_neg (by rw [h1]; decide), h2, h3]
    exact .inr rfl
end Go.Proofs.Ytdflngjfnpbpmab
namespace Go.Proofs.Ytdflngjfnpbpmab
open Go.RowKit
set_option linter.unusedVariables false
set_option linter.unusedSimpArgs false

/-- The terms at m places from a on: g gives the one at a place. -/
def listT (g : Int → Nat → Option (Tm × Nat)) : Nat → Int → Nat → Option (Ts × Nat)
  | 0, _, l => some (.nil, l)
  | m + 1, a, l => (g a l).bind fun p => (listT g m (a + 1) p.2).map fun q => (.cons p.1.k p.1.n p.1.s p.1.ar q.1, q.2)
/-- The term at a place, and how many nodes are left; none: there are not enough, or a Ref leads nowhere. -/
def tmAt (L : List HC) : Nat → Int → Nat → Option (Tm × Nat)
  | 0, _, _ => none
  | f + 1, a, l => if l = 0 then none else match hat L (hlook L a) with
    | none => none
    | some c => if c.k = 0 then some (⟨0, hlook L a, eS, .nil⟩, l - 1)
      else if c.k = 1 then some (⟨1, 0, c.s, .nil⟩, l - 1)
      else if c.k = 2 then some (⟨2, c.n, eS, .nil⟩, l - 1)
      else (listT (tmAt L f) (argsC c).toNat (hlook L a + 1) (l - 1)).map fun p => (⟨3, 0, c.s, p.1⟩, p.2)
def zeroTm : Tm := ⟨0, 0, eS, .nil⟩
def mostN (most : Int) : Nat := (min most 65536).toNat
def termH (h : HH) (a most : Int) : Tm × Nat × Int :=
  if goodH h = false then (zeroTm, 0, 1)
  else if isAddr h.cs a = false then (zeroTm, 0, 4)
  else match tmAt h.cs (mostN most) a (mostN most) with
    | none => (zeroTm, 0, 3)
    | some (t, l) => (t, mostN most - l, 0)
theorem tmAt_hat {L : List HC} {f : Nat} {a : Int} {l : Nat} {c : HC} (hl : l ≠ 0) (hc : hat L (hlook L a) = some c) : tmAt L (f + 1) a l = if c.k = 0 then some (⟨0, hlook L a, eS, .nil⟩, l - 1)
      else if c.k = 1 then some (⟨1, 0, c.s, .nil⟩, l - 1)
      else if c.k = 2 then some (⟨2, c.n, eS, .nil⟩, l - 1)
      else (listT (tmAt L f) (argsC c).toNat (hlook L a + 1) (l - 1)).map fun p => (⟨3, 0, c.s, p.1⟩, p.2) := by
  simp only [tmAt]; rw [if_neg hl, hc]
theorem tmAt_none {L : List HC} {f : Nat} {a : Int} {l : Nat} (hc : hlook L a < 0) : tmAt L f a l = none := by
  cases f with
  | zero => rfl
  | succ f =>
    simp only [tmAt]
    split
    · rfl
    · rw [show hat L (hlook L a) = none by unfold hat; rw [if_neg (by omega)]]
theorem listT_sm {L : List HC} {g : Int → Nat → Option (Tm × Nat)} (hg : ∀ a b l, Sm L a b → g a l = g b l) : ∀ (m : Nat) (a b : Int) (l : Nat), (∀ i : Int, 0 ≤ i → i < m → Sm L (a + i) (b + i)) → listT g m a l = listT g m b l
  | 0, a, b, l, _ => rfl
  | m + 1, a, b, l, h => by
    simp only [listT]
    have h0 := h 0 (by omega) (by omega)
    rw [hg a b l (by simpa using h0)]
    congr 1
    funext p
    rw [listT_sm hg m (a + 1) (b + 1) p.2 fun i i0 i1 => by
      have := h (i + 1) (by omega) (by omega)
      rw [show a + 1 + i = a + (i + 1) by omega, show b + 1 + i = b + (i + 1) by omega]; exact this]
theorem tmAt_sm {L : List HC} : ∀ (f : Nat) (a b : Int) (l : Nat), Sm L a b → tmAt L f a l = tmAt L f b l
  | 0, a, b, l, _ => rfl
  | f + 1, a, b, l, h => by
    by_cases hl : l = 0
    · simp only [tmAt]; rw [if_pos hl, if_pos hl]
    rcases h.ends with e | ⟨x, y, hx, hy, e⟩
    · rw [e]
    obtain ⟨c, c1, _⟩ := hx.last
    obtain ⟨d, d1, _⟩ := hy.last
    rw [tmAt_hat hl (by rw [hx.look]; exact c1), tmAt_hat hl (by rw [hy.look]; exact d1), hx.look, hy.look]
    rcases e with e | ⟨z, z1, z2, z3, z4⟩
    · subst e; rw [c1] at d1; cases d1; rfl
    · rw [c1] at z1; cases z1
      rw [d1] at z2; cases z2
      rw [if_neg z3, if_neg z3]
      by_cases k1 : c.k = 1
      · rw [if_pos k1, if_pos k1]
      by_cases k2 : c.k = 2
      · rw [if_neg k1, if_neg k1, if_pos k2, if_pos k2]
      rw [if_neg k1, if_neg k1, if_neg k2, if_neg k2]
      rw [listT_sm (fun a b l => tmAt_sm f a b l) (argsC c).toNat (x + 1) (y + 1) (l - 1) fun i i0 i1 => z4 i i0 (by omega)]
theorem listT_nodes {g : Int → Nat → Option (Tm × Nat)} (hg : ∀ a l p, g a l = some p → p.1.ar.nodes + 1 + p.2 = l) : ∀ (m : Nat) (a : Int) (l : Nat) (p : Ts × Nat), listT g m a l = some p → p.1.nodes + p.2 = l ∧ p.1.length = m
  | 0, a, l, p, h => by simp only [listT, Option.some.injEq] at h; subst h; simp [Ts.nodes, Ts.length]
  | m + 1, a, l, p, h => by
    simp only [listT] at h
    cases h1 : g a l with
    | none => rw [h1] at h; simp at h
    | some q =>
      rw [h1, Option.bind_some] at h
      cases h2 : listT g m (a + 1) q.2 with
      | none => rw [h2] at h; simp at h
      | some r =>
        rw [h2, Option.map_some, Option.some.injEq] at h
        subst h
        have e1 := hg a l q h1
        obtain ⟨e2, e3⟩ := listT_nodes hg m (a + 1) q.2 r h2
        simp only [Ts.nodes, Ts.length]
        omega
theorem tmAt_nodes {L : List HC} : ∀ (f : Nat) (a : Int) (l : Nat) (p : Tm × Nat), tmAt L f a l = some p → p.1.ar.nodes + 1 + p.2 = l
  | 0, a, l, p, h => by cases h
  | f + 1, a, l, p, h => by
    by_cases hl : l = 0
    · simp only [tmAt] at h; rw [if_pos hl] at h; cases h
    cases hc : hat L (hlook L a) with
    | none => simp only [tmAt] at h; rw [if_neg hl, hc] at h; cases h
    | some c =>
      rw [tmAt_hat hl hc] at h
      split at h
      · cases h; simp only [Ts.nodes]; omega
      split at h
      · cases h; simp only [Ts.nodes]; omega
      split at h
      · cases h; simp only [Ts.nodes]; omega
      cases h2 : listT (tmAt L f) (argsC c).toNat (hlook L a + 1) (l - 1) with
      | none => rw [h2] at h; cases h
      | some r =>
        rw [h2, Option.map_some, Option.some.injEq] at h
        subst h
        have := (listT_nodes (fun a l p => tmAt_nodes f a l p) _ _ _ _ h2).1
        show r.1.nodes + 1 + r.2 = l
        omega
end Go.Proofs.Ytdflngjfnpbpmab
namespace Go.Proofs.Ytdflngjfnpbpmab
open Go.RowKit

theorem info_term : (Try.prog.info? 39).map (fun i => (i.zero, i.size, i.bytes)) = some (some (.agg #[.int .i64 0, .int .i64 0, .string .empty, .slice none 0 0]), 4, 56) := by kernel_rfl

end Go.Proofs.Ytdflngjfnpbpmab
namespace Go.Proofs.Ytdflngjfnpbpmab
open Go.RowKit

theorem info_terms : (Try.prog.info? 37).map (fun i => (i.zero, i.size, i.bytes)) = some (some (.slice none 0 0), 1, 24) := by kernel_rfl

theorem run_equalIn_slice_nil {P : Program} (w : World) (d : Nat) (t e : TypeId) (a : Option Addr) (l c : Nat) (h : P.underlying t = some (.slice e)) : (Op.equalIn (d + 1) t (.slice a l c) (.slice none 0 0)).run P w = .ok a.isNone w := by
  cases a <;> simp [Op.equalIn, run_underlying h]
theorem run_equal_slice_nil {P : Program} (w : World) (t e : TypeId) (a : Option Addr) (l c : Nat) (h : P.underlying t = some (.slice e)) : (Op.equal t (.slice a l c) (.slice none 0 0)).run P w = .ok a.isNone w := run_equalIn_slice_nil w 9999 t e a l c h
theorem run_eql_slice_nil {P : Program} (w : World) (t e : TypeId) (a : Option Addr) (l c : Nat) (h : P.underlying t = some (.slice e)) : (binOp .eql t (.slice a l c) (.slice none 0 0)).run P w = .ok (.bool a.isNone) w := by
  simp [binOp, run_equal_slice_nil w t e a l c h]

/-- The variable in block pb is a path: a row of the call's own of the slices xs. -/
structure IsPath (w : World) (B pb : Nat) (pv : Value) (xs : List Value) : Prop where
  var : Plot w pb 107 #[pv]
  own : w.ownsRow B 37 1 pv xs.length xs
  apart : pv.ownBlock ≠ some pb

theorem Plot.ne_ {w : World} {g g' : Nat} {t t' : TypeId} {cs cs' : Array Value} (h : Plot w g t cs) (h' : Plot w g' t' cs') (hne : t ≠ t') : g ≠ g' := by
  rintro rfl
  unfold Plot at h h'
  rw [h] at h'
  injection h' with h'
  injection h' with _ ht
  exact hne ht
theorem IsPath.chg {S : Nat → Prop} {w w' : World} {B pb : Nat} {pv : Value} {xs : List Value} (h : IsPath w B pb pv xs) (hc : Chg S w w') (h1 : ¬ S pb) (h2 : ∀ g, pv.ownBlock = some g → ¬ S g) : IsPath w' B pb pv xs :=
  ⟨h.var.chg hc h1, own_chg h.own hc h2, h.apart⟩
theorem IsPath.other {w : World} {B pb b : Nat} {pv : Value} {xs : List Value} {cur : Array Value} (h : IsPath w B pb pv xs) (hb : Plot w b 39 cur) : b ≠ pb ∧ pv.ownBlock ≠ some b := by
  refine ⟨hb.ne_ h.var (by decide), fun e => ?_⟩
  rcases h.own.2 with ⟨e1, _⟩ | ⟨g, cap, cur', e1, _, hh, _⟩
  · rw [e1] at e; simp [Value.ownBlock] at e
  · rw [e1] at e
    simp only [Value.ownBlock, Option.some.injEq] at e
    subst e
    exact hb.ne_ (t' := 37) hh (by decide) rfl
theorem IsPath.set {w : World} {B pb b i : Nat} {pv u : Value} {xs : List Value} {cur : Array Value} (h : IsPath w B pb pv xs) (hb : Plot w b 39 cur) : IsPath (w.setCell ⟨b, i, none⟩ u) B pb pv xs := by
  obtain ⟨h1, h2⟩ := h.other hb
  exact h.chg ((Chg.refl (fun k => k = b) w).setCell (fun _ => rfl) u) (fun e => h1 e.symm) fun g hg e => h2 (by rw [hg, e])
theorem IsPath.keep {w w' : World} {B pb k : Nat} {pv : Value} {xs : List Value} {cur : Array Value} (h : IsPath w B pb pv xs) (hc : Chg (fun k => k = pb ∨ pv.ownBlock = some k) w w') (hk : Plot w k 39 cur) : Plot w' k 39 cur := by
  obtain ⟨h1, h2⟩ := h.other hk
  exact hk.chg hc fun hS => hS.elim h1 h2

set_option maxHeartbeats 400000 in
theorem newPath_any (k n : Int) (s : ByteArray) (A : Option Addr) (l c : Nat) (w : World) :
    Calls Try.prog 95 #[.agg #[.int .i64 k, .int .i64 n, .string s, .slice A l c]] w fun e w' => e = .returned (.slice (some ⟨w.heap.size + 2, 0, none⟩) 1 1) ∧
      w' = ((w.alloc (.cells #[.int .i64 k, .int .i64 n, .string s, .slice A l c] 39)).alloc (.cells #[.int .i64 k, .int .i64 n, .string s, .slice A l c] 39)).alloc (.cells #[.slice (some ⟨w.heap.size + 1, 0, none⟩) 1 1] 37) := by
  go_enter Try.func95, Try.ntmps95
  go_wp2_with fail
  go_ret
  exact ⟨rfl, rfl⟩

set_option maxHeartbeats 400000 in
theorem next_last {w : World} {B pb : Nat} {pv : Value} {ys : List Value} {b o cap : Nat} (hp : IsPath w B pb pv (ys ++ [.slice (some ⟨b, o, none⟩) 1 cap])) (hn : ys.length ≤ 1073741824) :
    Calls Try.prog 82 #[.pointer (some ⟨pb, 0, none⟩)] w fun e w' => e = .returned (.pointer (some ⟨b, o, none⟩)) ∧
      ∃ pv', IsPath w' B pb pv' ys ∧ pv'.ownBlock = pv.ownBlock ∧ Chg (fun k => k = pb ∨ pv.ownBlock = some k) w w' := by
  obtain ⟨hv, ho, ha⟩ := hp
  rcases ho.2 with ⟨_, h0⟩ | ⟨g, cp, cur, rfl, hg, hh, hnc, hcm, hcs, htk⟩
  · simp at h0
  have c0 : w.cell? ⟨pb, 0, none⟩ = some (.slice (some ⟨g, 0, none⟩) (ys ++ [Value.slice (some ⟨b, o, none⟩) 1 cap]).length cp) := hv.cell 0
  have f0 : w.frozen? ⟨pb, 0, none⟩ = false := hv.frozen 0
  have c1 : w.cell? ⟨g, ys.length, none⟩ = some (.slice (some ⟨b, o, none⟩) 1 cap) := by
    rw [ho.cellAt _ (by simp)]; simp
  simp only [List.length_append, List.length_cons, List.length_nil, Nat.zero_add] at c0 hnc
  have hgp : g ≠ pb := fun e => ha (by rw [e]; rfl)
  have hfin : IsPath (w.setCell ⟨pb, 0, none⟩ (.slice (some ⟨g, 0, none⟩) ys.length cp)) B pb (.slice (some ⟨g, 0, none⟩) ys.length cp) ys := by
    refine ⟨hv.set_ 0 _, ⟨by simp, .inr ⟨g, cp, cur, rfl, hg, (Below.heap_setCell _ _ _ _ hgp).trans hh, by omega, hcm, hcs, ?_⟩⟩, by simpa [Value.ownBlock] using hgp⟩
    have := congrArg (List.take (ys.length * 1)) htk
    rw [List.take_take] at this
    simpa [Nat.min_eq_left] using this
  have hchg : Chg (fun k => k = pb ∨ (Value.slice (some ⟨g, 0, none⟩) (ys ++ [Value.slice (some ⟨b, o, none⟩) 1 cap]).length cp).ownBlock = some k) w (w.setCell ⟨pb, 0, none⟩ (.slice (some ⟨g, 0, none⟩) ys.length cp)) :=
    (Chg.refl _ _).setCell (fun _ => .inl rfl) _
  clear hv ho ha htk
  go_enter Try.func82, Try.ntmps82
  go_wp2_with fail
  go_ret
  exact ⟨rfl, _, hfin, rfl, hchg⟩

set_option maxHeartbeats 400000 in
theorem next_more {w : World} {B pb : Nat} {pv : Value} {ys : List Value} {b o l cap : Nat} (hp : IsPath w B pb pv (ys ++ [.slice (some ⟨b, o, none⟩) (l + 2) cap])) (hn : ys.length ≤ 1073741824) (hl : l ≤ 1073741824) (hc : l + 2 ≤ cap) :
    Calls Try.prog 82 #[.pointer (some ⟨pb, 0, none⟩)] w fun e w' => e = .returned (.pointer (some ⟨b, o, none⟩)) ∧
      ∃ pv', IsPath w' B pb pv' (ys ++ [.slice (some ⟨b, o + 4, none⟩) (l + 1) (cap - 1)]) ∧ pv'.ownBlock = pv.ownBlock ∧ Chg (fun k => k = pb ∨ pv.ownBlock = some k) w w' := by
  obtain ⟨hv, ho, ha⟩ := hp
  rcases ho.2 with ⟨_, h0⟩ | ⟨g, cp, cur, rfl, hg, hh, hnc, hcm, hcs, htk⟩
  · simp at h0
  have c0 : w.cell? ⟨pb, 0, none⟩ = some (.slice (some ⟨g, 0, none⟩) (ys ++ [Value.slice (some ⟨b, o, none⟩) (l + 2) cap]).length cp) := hv.cell 0
  have c1 : w.cell? ⟨g, ys.length, none⟩ = some (.slice (some ⟨b, o, none⟩) (l + 2) cap) := by
    rw [ho.cellAt _ (by simp)]; simp
  have f1 : w.frozen? ⟨g, ys.length, none⟩ = false := ho.frozenAt _
  simp only [List.length_append, List.length_cons, List.length_nil, Nat.zero_add] at c0 hnc
  have hgp : g ≠ pb := fun e => ha (by rw [e]; rfl)
  have hst := (ho.stored ys.length (.slice (some ⟨b, o + 4, none⟩) (l + 1) (cap - 1))).1
  have hfin : IsPath (w.setCell ⟨g, ys.length, none⟩ (.slice (some ⟨b, o + 4, none⟩) (l + 1) (cap - 1))).drew B pb (.slice (some ⟨g, 0, none⟩) (ys.length + 1) cp) (ys ++ [.slice (some ⟨b, o + 4, none⟩) (l + 1) (cap - 1)]) := by
    refine ⟨?_, ?_, by simpa [Value.ownBlock] using hgp⟩
    · have := hv.far (p := ⟨g, ys.length, none⟩) (Ne.symm hgp) (.slice (some ⟨b, o + 4, none⟩) (l + 1) (cap - 1))
      simp only [List.length_append, List.length_cons, List.length_nil, Nat.zero_add] at this
      exact this
    · simp at hst
      have e : (ys ++ [Value.slice (some ⟨b, o + 4, none⟩) (l + 1) (cap - 1)]).length = ys.length + 1 := by simp
      rw [e]
      exact hst
  have hchg : Chg (fun k => k = pb ∨ (Value.slice (some ⟨g, 0, none⟩) (ys ++ [Value.slice (some ⟨b, o, none⟩) (l + 2) cap]).length cp).ownBlock = some k) w (w.setCell ⟨g, ys.length, none⟩ (.slice (some ⟨b, o + 4, none⟩) (l + 1) (cap - 1))).drew :=
    ((Chg.refl _ _).setCell (fun _ => .inr rfl) _).drew
  have hl1 : (((l + 2 : Nat) : Int) == 1) = false := by rw [beq_eq_false_iff_ne]; omega
  clear hv ho ha htk hst
  go_enter Try.func82, Try.ntmps82
  go_wp2_with fail
  go_region
  go_wp2_with fail
  go_ret
  exact ⟨rfl, _, hfin, rfl, hchg⟩

set_option maxHeartbeats 400000 in
theorem add_none {w : World} (v : Value) (A : Option Addr) (c : Nat) : Calls Try.prog 81 #[v, .slice A 0 c] w fun e w' => e = .returned (.tuple #[]) ∧ w = w' := by
  go_enter Try.func81, Try.ntmps81
  go_wp2_with fail
  go_end0
  exact ⟨rfl, rfl⟩

set_option maxHeartbeats 400000 in
theorem add_some {w : World} {B pb : Nat} {pv : Value} {xs : List Value} {A : Option Addr} {l c : Nat} (hp : IsPath w B pb pv xs) (hB : B ≤ w.heap.size) (hn : xs.length ≤ 1073741824) :
    Calls Try.prog 81 #[.pointer (some ⟨pb, 0, none⟩), .slice A (l + 1) c] w fun e w' => e = .returned (.tuple #[]) ∧
      ∃ pv', IsPath w' B pb pv' (xs ++ [.slice A (l + 1) c]) ∧ (pv'.ownBlock = pv.ownBlock ∨ ∃ g, pv'.ownBlock = some g ∧ w.heap.size ≤ g) ∧ Chg (fun k => k = pb ∨ pv.ownBlock = some k) w w' := by
  obtain ⟨hv, ho, ha⟩ := hp
  obtain ⟨i0, hi0, hz0, hz1, hz2⟩ := info_parts info_terms
  have c0 : w.cell? ⟨pb, 0, none⟩ = some pv := hv.cell 0
  have hW : Below w.heap.size w (w.alloc (.cells #[.slice A (l + 1) c] 37)) := (Below.refl _ _).alloc (Nat.le_refl _) _
  have ho' := own_below ho hW
  have hlt := hv.lt
  have HB := Lib.hid ha
  clear ha
  go_enter Try.func81, Try.ntmps81
  go_wp2_with (at_builtin; refine wpList_append_at _ rfl (.tmp 10) (.tmp 12) _ rfl B 37 i0 _ 1 24 Try.underlying107 hi0 hz0 hz1 hz2 rfl (by omega) pv xs.length xs rfl ho' ⟨w.heap.size, 0, none⟩ 1 1 [.slice A (l + 1) c] rfl rfl (cell_lit w [.slice A (l + 1) c] 37) (by simp [Value.oneCell']) (by simp only [maxLen]; omega) (by omega) (by simp; omega) ?next)
  case next =>
    intro v' w' hov hg hat
    have cp : Plot w' pb 107 #[pv] := (hv.alloc _).grown hg (fun e => HB.out e.symm)
    have c1 : w'.cell? ⟨pb, 0, none⟩ = some pv := cp.cell 0
    have f1 : w'.frozen? ⟨pb, 0, none⟩ = false := cp.frozen 0
    rcases hov.2 with ⟨_, h0⟩ | ⟨g, cap, cur, rfl, hgB, hh, hnc, hcm, hcs, htk⟩
    · omega
    have hne : g ≠ pb := by
      rcases hat with e | e
      · intro e2; subst e2; exact HB.out e.symm
      · simp [Value.ownBlock] at e; omega
    have hfin : IsPath (w'.setCell ⟨pb, 0, none⟩ (.slice (some ⟨g, 0, none⟩) (xs.length + 1) cap)) B pb (.slice (some ⟨g, 0, none⟩) (xs.length + 1) cap) (xs ++ [.slice A (l + 1) c]) := by
      refine ⟨cp.set_ 0 _, ?_, by simpa [Value.ownBlock] using hne⟩
      have := ownsRow_setCell_other hov (a := ⟨pb, 0, none⟩) (by simpa [Value.ownBlock] using hne) (.slice (some ⟨g, 0, none⟩) (xs.length + 1) cap)
      simpa using this
    have hat' : (Value.slice (some ⟨g, 0, none⟩) (xs.length + 1) cap).ownBlock = pv.ownBlock ∨ ∃ g', (Value.slice (some ⟨g, 0, none⟩) (xs.length + 1) cap).ownBlock = some g' ∧ w.heap.size ≤ g' := by
      rcases hat with e | e
      · exact .inl e
      · exact .inr ⟨_, e, by omega⟩
    have hchg : Chg (fun k => k = pb ∨ pv.ownBlock = some k) w (w'.setCell ⟨pb, 0, none⟩ (.slice (some ⟨g, 0, none⟩) (xs.length + 1) cap)) := by
      refine Chg.setCell ?_ (fun _ => .inl rfl) _
      exact ((Chg.refl _ w).alloc _).trans (Chg.of_grown hg) fun k _ e => .inr e
    have HX := Lib.hid hat'
    clear hat hat' htk hov
    go_wp2_with fail
    go_end0
    exact ⟨rfl, _, hfin, HX.out, hchg⟩

/-- The value v is a slice whose cells, four an element, are xs. -/
def Raw (w : World) (v : Value) (l : Nat) (xs : List Value) : Prop :=
  ∃ A c, v = .slice A l c ∧ l ≤ c ∧ xs.length = l * 4 ∧ (∀ u ∈ xs, u.oneCell' = true) ∧ (0 < l → ∃ b o, A = some ⟨b, o, none⟩ ∧ ∀ j u, xs[j]? = some u → w.cell? ⟨b, o + j, none⟩ = some u)
theorem Sl.raw {w : World} {p : Nat → Prop} {v : Value} {T : Ts} (h : Sl w p v T) : ∃ xs, Raw w v T.length xs ∧ Cs w p T xs := by
  obtain ⟨A, c, rfl, hc, hs⟩ := h
  rcases Nat.eq_zero_or_pos T.length with h | h
  · rw [Ts.nil_of_length h]
    exact ⟨[], ⟨A, c, rfl, Nat.zero_le _, rfl, fun u hu => (by cases hu), fun h => absurd h (Nat.lt_irrefl _)⟩, rfl⟩
  · obtain ⟨b, o, e, hseg⟩ := hs h
    obtain ⟨xs, h1, h2⟩ := hseg.cells
    exact ⟨xs, ⟨A, c, rfl, hc, h1.length, h1.one, fun _ => ⟨b, o, e, h2⟩⟩, h1⟩

set_option maxHeartbeats 400000 in
theorem clone_raw {w : World} {v : Value} {l : Nat} {xs : List Value} (hv : Raw w v l xs) (hn : l ≤ 1073741824) :
    Calls Try.prog 80 #[v] w fun e w' => ∃ v', e = .returned v' ∧ w'.ownsRow w.heap.size 39 4 v' l xs ∧ Below w.heap.size w w' := by
  obtain ⟨A, c, rfl, hc, hlen, hone, hs⟩ := hv
  have hnil : ∀ W, (binOp .eql 37 (.slice A l c) (.slice none 0 0)).run Try.prog W = .ok (.bool A.isNone) W := fun W => run_eql_slice_nil W _ _ A _ c Try.underlying37
  cases A with
  | none =>
    have hl : l = 0 := by
      rcases Nat.eq_zero_or_pos l with h | h
      · exact h
      · obtain ⟨b, o, e, _⟩ := hs h; cases e
    subst hl
    have hx : xs = [] := List.eq_nil_of_length_eq_zero (by simpa using hlen)
    subst hx
    clear hlen hs hone
    go_enter Try.func80, Try.ntmps80
    go_wp2_with fail
    go_ret
    exact ⟨_, rfl, World.ownsRow_nil _ _ _ _, Below.refl _ _⟩
  | some a =>
    obtain ⟨i0, hi0, hz0, hz1, hz2⟩ := info_parts info_term
    have hcell : ∀ j u, xs[j]? = some u → w.cell? (a.add j) = some u := by
      rcases Nat.eq_zero_or_pos l with h | h
      · have hx : xs = [] := List.eq_nil_of_length_eq_zero (by simpa [h] using hlen)
        subst hx
        intro j u hu; simp at hu
      · obtain ⟨b, o, e, h2⟩ := hs h
        simp only [Option.some.injEq] at e
        subst e
        intro j u hu
        have := h2 j u hu
        by_cases hj : j = 0
        · subst hj; simpa [Addr.add] using this
        · simpa [Addr.add, hj] using this
    have hW : Below w.heap.size w (w.alloc (.cells #[] 39)) := (Below.refl _ _).alloc (Nat.le_refl _) _
    have ho : (w.alloc (.cells #[] 39)).ownsRow w.heap.size 39 4 (.slice (some ⟨w.heap.size, 0, none⟩) 0 0) 0 [] := by
      simpa using World.ownsRow_lit (base := w.heap.size) (e := 39) (size := 4) w #[] 0 (Nat.le_refl _) (by simp [maxLen]) (by simp)
    have hcell' : ∀ j u, xs[j]? = some u → (w.alloc (.cells #[] 39)).cell? (a.add j) = some u := fun j u hu => (hW.cell (lt_of_cell (hcell j u hu))).trans (hcell j u hu)
    have H1 := Lib.hid hcell'
    have H2 := Lib.hid hone
    have H3 := Lib.hid hlen
    clear hcell hcell' hs hone hlen
    go_enter Try.func80, Try.ntmps80
    go_wp2_with (at_builtin; refine wpList_append_at _ rfl (.tmp 5) (.tmp 6) _ rfl w.heap.size 39 i0 _ 4 56 Try.underlying37 hi0 hz0 hz1 hz2 rfl (by omega) _ 0 [] rfl ho a l c xs rfl H3.out H1.out H2.out (by simp only [maxLen]; omega) (by omega) (by simp) ?next)
    case next =>
      intro v' w' hov hg hat
      have hb : Below w.heap.size w w' := by
        refine hW.grown hg (by simp) fun k hk => ?_
        simp [Value.ownBlock] at hk; omega
      go_wp2_with fail
      go_ret
      exact ⟨_, rfl, by simpa using hov, hb⟩

/-- A list of terms that is still to be visited: from cell o of block b on. -/
structure Lev where
  b : Nat
  o : Nat
  T : Ts
def push (T : Ts) (b o : Nat) (L : List Lev) : List Lev := if T.length = 0 then L else ⟨b, o, T⟩ :: L
def nodesOf (L : List Lev) : Nat := (L.map fun l => l.T.nodes).sum
theorem nodesOf_push (T : Ts) (b o : Nat) (L : List Lev) : nodesOf (push T b o L) = T.nodes + nodesOf L := by
  unfold push
  split
  · rename_i h; rw [Ts.nil_of_length h]; simp [Ts.nodes]
  · simp [nodesOf]
/-- The path's slices, the newest last, are the levels, the newest first. -/
def PV : List Lev → List Value → Prop
  | [], xs => xs = []
  | l :: r, xs => ∃ ys cap, xs = ys ++ [.slice (some ⟨l.b, l.o, none⟩) l.T.length cap] ∧ l.T.length ≤ cap ∧ 0 < l.T.length ∧ PV r ys
theorem PV.length : ∀ {L : List Lev} {xs : List Value}, PV L xs → xs.length = L.length
  | [], xs, h => by rw [show xs = [] from h]; rfl
  | l :: r, xs, ⟨ys, cap, e, _, _, h⟩ => by rw [e]; simp [h.length]
theorem PV.le : ∀ {L : List Lev} {xs : List Value}, PV L xs → L.length ≤ nodesOf L
  | [], xs, h => by simp [nodesOf]
  | l :: r, xs, ⟨ys, cap, e, _, h0, h⟩ => by
    have := h.le
    have := l.T.length_le
    simp only [List.length_cons, nodesOf, List.map_cons, List.sum_cons] at *
    omega

theorem next_lev {w : World} {B pb : Nat} {pv : Value} {xs : List Value} {b o : Nat} {k n : Int} {s : ByteArray} {ar r : Ts} {L : List Lev} (hp : IsPath w B pb pv xs) (hv : PV (⟨b, o, .cons k n s ar r⟩ :: L) xs) (hn : nodesOf (⟨b, o, .cons k n s ar r⟩ :: L) ≤ 1073741824) :
    Calls Try.prog 82 #[.pointer (some ⟨pb, 0, none⟩)] w fun e w' => e = .returned (.pointer (some ⟨b, o, none⟩)) ∧
      ∃ pv' xs', IsPath w' B pb pv' xs' ∧ PV (push r b (o + 4) L) xs' ∧ pv'.ownBlock = pv.ownBlock ∧ Chg (fun k => k = pb ∨ pv.ownBlock = some k) w w' := by
  have hle := hv.le
  obtain ⟨ys, cap, rfl, hcap, _, hys⟩ := hv
  have hyl := hys.length
  have hrl := r.length_le
  simp only [List.length_cons, nodesOf, List.map_cons, List.sum_cons, Ts.nodes] at hle hn
  simp only [Ts.length] at hp hcap
  cases hr : r.length with
  | zero =>
    rw [hr] at hp
    refine (next_last hp (by omega)).mono ?_
    rintro e w' ⟨he, pv', h1, h2, h3⟩
    exact ⟨he, pv', ys, h1, by simpa [push, hr] using hys, h2, h3⟩
  | succ l =>
    rw [hr] at hp hcap
    refine (next_more hp (by omega) (by omega) hcap).mono ?_
    rintro e w' ⟨he, pv', h1, h2, h3⟩
    refine ⟨he, pv', _, h1, ?_, h2, h3⟩
    have e : push r b (o + 4) L = ⟨b, o + 4, r⟩ :: L := by simp [push, hr]
    rw [e]
    exact ⟨ys, cap - 1, by rw [hr], by show r.length ≤ _; omega, by show 0 < r.length; omega, hys⟩

theorem add_lev {w : World} {B pb : Nat} {pv : Value} {xs : List Value} {A : Option Addr} {c : Nat} {T : Ts} {b o : Nat} {L : List Lev} (hp : IsPath w B pb pv xs) (hv : PV L xs) (hB : B ≤ w.heap.size) (hn : nodesOf L ≤ 1073741824) (hc : T.length ≤ c) (hA : 0 < T.length → A = some ⟨b, o, none⟩) :
    Calls Try.prog 81 #[.pointer (some ⟨pb, 0, none⟩), .slice A T.length c] w fun e w' => e = .returned (.tuple #[]) ∧
      ∃ pv' xs', IsPath w' B pb pv' xs' ∧ PV (push T b o L) xs' ∧ (pv'.ownBlock = pv.ownBlock ∨ ∃ g, pv'.ownBlock = some g ∧ w.heap.size ≤ g) ∧ Chg (fun k => k = pb ∨ pv.ownBlock = some k) w w' := by
  have hle := hv.le
  have hyl := hv.length
  cases hl : T.length with
  | zero =>
    refine (add_none _ _ _).mono ?_
    rintro e w' ⟨he, rfl⟩
    exact ⟨he, pv, xs, hp, by simpa [push, hl] using hv, .inl rfl, Chg.refl _ _⟩
  | succ l =>
    refine (add_some hp hB (by omega)).mono ?_
    rintro e w' ⟨he, pv', h1, h2, h3⟩
    refine ⟨he, pv', _, h1, ?_, h2, h3⟩
    have e : push T b o L = ⟨b, o, T⟩ :: L := by simp [push, hl]
    rw [e]
    refine ⟨xs, c, ?_, hc, by show 0 < T.length; omega, hv⟩
    rw [hA (by omega), hl]
end Go.Proofs.Ytdflngjfnpbpmab
namespace Go.Proofs.Ytdflngjfnpbpmab
open Go.RowKit

def lowerB (c : UInt8) : Bool := decide (97 ≤ c.toNat) && decide (c.toNat ≤ 122)
/-- Is it a name? -/
def nameB (s : ByteArray) : Bool := decide (s.data.toList = [33]) || (decide (1 ≤ s.size) && decide (s.size ≤ 8) && s.data.toList.all lowerB)
/-- The first k + 1 letters are the first k and the next one. -/
theorem letters_succ (s : ByteArray) (k : Nat) (h : k < s.size) : s.data.toList.take (k + 1) = s.data.toList.take k ++ [s[k]] :=
  List.take_succ_eq_append_getElem (l := s.data.toList) (i := k) (by simpa using h)

theorem all_false {s : ByteArray} {k : Nat} {c : UInt8} (h : s.data.toList.take (k + 1) = s.data.toList.take k ++ [c]) (hc : lowerB c = false) : s.data.toList.all lowerB = false := by
  have e : s.data.toList = s.data.toList.take (k + 1) ++ s.data.toList.drop (k + 1) := (List.take_append_drop _ _).symm
  rw [e, List.all_append, h, List.all_append]
  simp [hc]

set_option maxHeartbeats 400000 in
theorem named_any (s : ByteArray) (w : World) : Calls Try.prog 97 #[.string s] w fun e w' => e = .returned (.bool (nameB s)) ∧ w = w' := by
  by_cases h0 : s.data.toList = [33]
  · have r : nameB s = true := by simp [nameB, h0]
    have h1 : s.toList = [33] := by rw [ByteArray.toList_eq]; exact h0
    rw [r]
    clear r h0
    go_enter Try.func97, Try.ntmps97
    go_wp2_with fail
    go_ret
    exact ⟨rfl, rfl⟩
  have h1 : (s.toList == [33]) = false := by rw [ByteArray.toList_eq]; simpa using h0
  by_cases h2 : s.size < 1
  · have r : nameB s = false := by simp [nameB, h0]; omega
    rw [r]
    clear r h0
    go_enter Try.func97, Try.ntmps97
    go_wp2_with fail
    go_ret
    exact ⟨rfl, rfl⟩
  by_cases h3 : 8 < s.size
  · have r : nameB s = false := by simp [nameB, h0]; omega
    rw [r]
    clear r h0
    go_enter Try.func97, Try.ntmps97
    go_wp2_with fail
    go_ret
    exact ⟨rfl, rfl⟩
  have r : nameB s = s.data.toList.all lowerB := by
    have a : 1 ≤ s.size := by omega
    have b : s.size ≤ 8 := by omega
    simp [nameB, h0, a, b]
  have R := Lib.hid r
  clear r h0
  go_enter Try.func97, Try.ntmps97
  go_wp2_with fail
  go_loopg [16] s.size (fun g i wr => w = wr ∧ ∃ k : Nat, k ≤ s.size ∧ g = s.size - k ∧ i = .int .i64 k ∧ (s.data.toList.take k).all lowerB = true)
  case atStart => exact ⟨rfl, 0, Nat.zero_le _, rfl, rfl, rfl⟩
  case round =>
    obtain ⟨rfl, k, hk, hg, rfl, ha⟩ := hrel
    have HA := Lib.hid ha
    have HG := Lib.hid hg
    clear ha hg
    by_cases hlt : k < s.size
    · have hts := letters_succ s k hlt
      have hbig := s[k].toNat_lt
      by_cases hlo : (s[k].toNat : Int) < 97
      · have hf := Lib.hid (all_false hts (show lowerB s[k] = false by simp [lowerB]; omega))
        clear hts
        go_wp2_with fail
        go_ret
        exact ⟨by rw [R.out, hf.out]; rfl, rfl⟩
      by_cases hhi : (122 : Int) < (s[k].toNat : Int)
      · have hf := Lib.hid (all_false hts (show lowerB s[k] = false by simp [lowerB]; omega))
        clear hts
        go_wp2_with fail
        go_ret
        exact ⟨by rw [R.out, hf.out]; rfl, rfl⟩
      · have hf : Hid ((s.data.toList.take (k + 1)).all lowerB = true) := Lib.hid (by
          rw [hts, List.all_append, HA.out]
          simp [lowerB]; omega)
        clear hts
        go_wp2_with fail
        go_roundg (s.size - (k + 1))
        case measure => rw [HG.out]; omega
        case rel => exact ⟨rfl, k + 1, by omega, rfl, rfl, hf.out⟩
    · go_wp2_with fail
      go_ret
      refine ⟨?_, rfl⟩
      have h4 := HA.out
      rw [List.take_of_length_le (by simp; omega)] at h4
      rw [R.out, h4]; rfl
end Go.Proofs.Ytdflngjfnpbpmab
namespace Go.Proofs.Ytdflngjfnpbpmab
open Go.RowKit

/-- Is a term good, whatever its arguments are? -/
def nodeB (vars k n : Int) (s : ByteArray) (l : Nat) : Bool :=
  if k = 0 then decide (0 ≤ n) && decide (n < vars) && decide (s.toList = []) && decide (l = 0)
  else if k = 1 then decide (n = 0) && nameB s && decide (l = 0)
  else if k = 2 then decide (-1099511627776 ≤ n) && decide (n ≤ 1099511627776) && decide (s.toList = []) && decide (l = 0)
  else if k = 3 then decide (n = 0) && nameB s && decide (¬ s.toList = [33]) && decide (1 ≤ l) && decide (l ≤ 4)
  else false

theorem ret_bool {a b : Bool} (h : a = b) : Ending.returned (.bool a) = .returned (.bool b) := by rw [h]

set_option maxHeartbeats 1000000 in
theorem goodNode_any (vars k n : Int) (s : ByteArray) (A : Option Addr) (l c : Nat) (w : World) :
    Calls Try.prog 96 #[.agg #[.int .i64 k, .int .i64 n, .string s, .slice A l c], .int .i64 vars] w fun e w' => e = .returned (.bool (nodeB vars k n s l)) ∧ Below w.heap.size w w' := by
  by_cases h0 : k = 0
  · subst h0
    have R := Lib.hid (show nodeB vars 0 n s l = (decide (0 ≤ n) && decide (n < vars) && decide (s.toList = []) && decide (l = 0)) by simp [nodeB])
    go_enter Try.func96, Try.ntmps96
    go_wp2_with fail
    all_goals go_ret
    all_goals refine ⟨?_, (Below.refl _ _).alloc (Nat.le_refl _) _⟩
    all_goals rw [R.out]
    all_goals refine ret_bool ?_
    all_goals rw [Bool.eq_iff_iff]
    all_goals simp [*]
    all_goals try omega
  have g0 : (k == 0) = false := by simpa using h0
  by_cases h1 : k = 1
  · subst h1
    have R := Lib.hid (show nodeB vars 1 n s l = (decide (n = 0) && nameB s && decide (l = 0)) by simp [nodeB])
    clear h0 g0
    cases hb : nameB s
    all_goals
      have HB := Lib.hid hb
      clear hb
      go_enter Try.func96, Try.ntmps96
      go_wp2_with (go_at_call 97; refine (named_any _ _).mono ?_; rintro e w' ⟨rfl, rfl⟩; rw [HB.out])
      all_goals go_ret
      all_goals refine ⟨?_, (Below.refl _ _).alloc (Nat.le_refl _) _⟩
      all_goals rw [R.out, HB.out]
      all_goals refine ret_bool ?_
      all_goals rw [Bool.eq_iff_iff]
      all_goals simp [*]
      all_goals try omega
  have g1 : (k == 1) = false := by simpa using h1
  by_cases h2 : k = 2
  · subst h2
    have R := Lib.hid (show nodeB vars 2 n s l = (decide (-1099511627776 ≤ n) && decide (n ≤ 1099511627776) && decide (s.toList = []) && decide (l = 0)) by simp [nodeB])
    clear h0 g0 h1 g1
    go_enter Try.func96, Try.ntmps96
    go_wp2_with fail
    all_goals go_ret
    all_goals refine ⟨?_, (Below.refl _ _).alloc (Nat.le_refl _) _⟩
    all_goals rw [R.out]
    all_goals refine ret_bool ?_
    all_goals rw [Bool.eq_iff_iff]
    all_goals simp [*]
    all_goals try omega
  have g2 : (k == 2) = false := by simpa using h2
  by_cases h3 : k = 3
  · subst h3
    clear h0 g0 h1 g1 h2 g2
    by_cases hn : n = 0
    · subst hn
      have R := Lib.hid (show nodeB vars 3 0 s l = (nameB s && decide (¬ s.toList = [33]) && decide (1 ≤ l) && decide (l ≤ 4)) by simp [nodeB])
      cases hb : nameB s
      all_goals
        have HB := Lib.hid hb
        clear hb
        go_enter Try.func96, Try.ntmps96
        go_wp2_with (go_at_call 97; refine (named_any _ _).mono ?_; rintro e w' ⟨rfl, rfl⟩; rw [HB.out])
        all_goals go_ret
        all_goals refine ⟨?_, (Below.refl _ _).alloc (Nat.le_refl _) _⟩
        all_goals rw [R.out, HB.out]
        all_goals refine ret_bool ?_
        all_goals rw [Bool.eq_iff_iff]
        all_goals simp [*]
        all_goals try omega
    · have hn' : (n == 0) = false := by simpa using hn
      have R := Lib.hid (show nodeB vars 3 n s l = false by simp [nodeB, hn])
      clear hn
      go_enter Try.func96, Try.ntmps96
      go_wp2_with fail
      go_ret
      exact ⟨by rw [R.out]; rfl, (Below.refl _ _).alloc (Nat.le_refl _) _⟩
  have g3 : (k == 3) = false := by simpa using h3
  have R := Lib.hid (show nodeB vars k n s l = false by simp [nodeB, h0, h1, h2, h3])
  clear h0 h1 h2 h3
  go_enter Try.func96, Try.ntmps96
  go_wp2_with fail
  go_ret
  exact ⟨by rw [R.out]; rfl, (Below.refl _ _).alloc (Nat.le_refl _) _⟩
end Go.Proofs.Ytdflngjfnpbpmab
namespace Go.Proofs.Ytdflngjfnpbpmab
open Go.RowKit

/-- Blocks that were there when the call began, or are one of G. -/
def oldOr (w : World) (G : List Nat) (k : Nat) : Prop := k < w.heap.size ∨ k ∈ G
/-- One path of the call's own, whose levels lie in old blocks or in G's. -/
structure V1 (w : World) (G : List Nat) (pb : Nat) (L : List Lev) (pv : Value) (xs : List Value) (wr : World) : Prop where
  path : IsPath wr w.heap.size pb pv xs
  pbl : w.heap.size ≤ pb
  pvs : PV L xs
  lev : ∀ l ∈ L, Seg wr (oldOr w G) l.T l.b l.o
  rows : ∀ g ∈ G, ∃ c, Plot wr g 39 c
  chg : Below w.heap.size w wr

section
variable {w wr w' : World} {G : List Nat} {pb : Nat} {L : List Lev} {pv : Value} {xs : List Value}
theorem V1.keep (h : V1 w G pb L pv xs wr) (hc : Chg (fun k => k = pb ∨ pv.ownBlock = some k) wr w') : ∀ k, oldOr w G k → k < wr.heap.size → w'.heap[k]? = wr.heap[k]? := by
  intro k hk hl
  refine hc.block k hl fun hS => ?_
  rcases hk with hk | hk
  · rcases hS with e | e
    · have := h.pbl; omega
    · have := (h.path.own.lt _ e).1; omega
  · obtain ⟨c, hb⟩ := h.rows k hk
    obtain ⟨h1, h2⟩ := h.path.other hb
    exact hS.elim h1 h2
theorem V1.chg' (h : V1 w G pb L pv xs wr) (hc : Chg (fun k => k = pb ∨ pv.ownBlock = some k) wr w') : Below w.heap.size w w' ∧ (∀ g ∈ G, ∃ c, Plot w' g 39 c) := by
  refine ⟨h.chg.trans (hc.below h.chg.size fun k hk _ => ?_), fun g hg => ?_⟩
  · rcases hk with e | e
    · have := h.pbl; omega
    · exact (h.path.own.lt _ e).1
  · obtain ⟨c, hb⟩ := h.rows g hg
    exact ⟨c, h.path.keep hc hb⟩
/-- Any other change that leaves the path and the levels alone. -/
theorem V1.aside (h : V1 w G pb L pv xs wr) (hb : Below wr.heap.size wr w') : V1 w G pb L pv xs w' where
  path := h.path.chg (Chg.of_fresh (S := fun _ => False) hb) (fun h => h) fun _ _ h => h
  pbl := h.pbl
  pvs := h.pvs
  lev := fun l hl => (h.lev l hl).below hb
  rows := fun g hg => by
    obtain ⟨c, h1⟩ := h.rows g hg
    exact ⟨c, h1.below hb⟩
  chg := h.chg.trans (hb.mono h.chg.size)

theorem lev_push {T : Ts} {b o : Nat} {p : Nat → Prop} (hT : 0 < T.length → Seg wr p T b o) (hL : ∀ l ∈ L, Seg wr p l.T l.b l.o) : ∀ l ∈ push T b o L, Seg wr p l.T l.b l.o := by
  intro l hl
  unfold push at hl
  split at hl
  · exact hL l hl
  · rcases List.mem_cons.1 hl with rfl | hl
    · exact hT (by omega)
    · exact hL l hl

theorem V1.next {b o : Nat} {k n : Int} {s : ByteArray} {ar r : Ts} (h : V1 w G pb (⟨b, o, .cons k n s ar r⟩ :: L) pv xs wr) (hn : nodesOf (⟨b, o, .cons k n s ar r⟩ :: L) ≤ 1048576) :
    Calls Try.prog 82 #[.pointer (some ⟨pb, 0, none⟩)] wr fun e w' => e = .returned (.pointer (some ⟨b, o, none⟩)) ∧
      ∃ pv' xs', V1 w G pb (push r b (o + 4) L) pv' xs' w' ∧ Seg w' (oldOr w G) (.cons k n s ar r) b o ∧ pv'.ownBlock = pv.ownBlock ∧ Chg (fun k => k = pb ∨ pv.ownBlock = some k) wr w' := by
  refine (next_lev h.path h.pvs (Nat.le_trans hn (by omega))).mono ?_
  rintro e w' ⟨he, pv', xs', h1, h2, h3, h4⟩
  have hk := h.keep h4
  have hs : Seg w' (oldOr w G) (.cons k n s ar r) b o := (h.lev _ (List.mem_cons_self ..)).keep hk
  obtain ⟨h5, h6⟩ := h.chg' h4
  refine ⟨he, pv', xs', ⟨h1, h.pbl, h2, ?_, h6, h5⟩, hs, h3, h4⟩
  exact lev_push (fun _ => (seg_cons.1 hs).2.2.2.2.2) fun l hl => (h.lev l (List.mem_cons_of_mem _ hl)).keep hk

theorem V1.add {T : Ts} {A : Option Addr} {c : Nat} (h : V1 w G pb L pv xs wr) (hv : Sl wr (oldOr w G) (.slice A T.length c) T) (hn : nodesOf L ≤ 1048576) :
    Calls Try.prog 81 #[.pointer (some ⟨pb, 0, none⟩), .slice A T.length c] wr fun e w' => e = .returned (.tuple #[]) ∧
      ∃ pv' xs' b o, V1 w G pb (push T b o L) pv' xs' w' ∧ (pv'.ownBlock = pv.ownBlock ∨ ∃ g, pv'.ownBlock = some g ∧ wr.heap.size ≤ g) ∧ Chg (fun k => k = pb ∨ pv.ownBlock = some k) wr w' := by
  obtain ⟨A', c', e, hc, hs⟩ := hv
  simp only [Value.slice.injEq, true_and] at e
  obtain ⟨rfl, rfl⟩ := e
  obtain ⟨b, o, hA⟩ : ∃ b o, 0 < T.length → A = some ⟨b, o, none⟩ ∧ Seg wr (oldOr w G) T b o := by
    rcases Nat.eq_zero_or_pos T.length with h | h
    · exact ⟨0, 0, fun h' => absurd h' (by omega)⟩
    · obtain ⟨b, o, h1, h2⟩ := hs h
      exact ⟨b, o, fun _ => ⟨h1, h2⟩⟩
  refine (add_lev (b := b) (o := o) h.path h.pvs h.chg.size (Nat.le_trans hn (by omega)) hc fun h => (hA h).1).mono ?_
  rintro e w' ⟨he, pv', xs', h1, h2, h3, h4⟩
  have hk := h.keep h4
  obtain ⟨h5, h6⟩ := h.chg' h4
  refine ⟨he, pv', xs', b, o, ⟨h1, h.pbl, h2, ?_, h6, h5⟩, h3, h4⟩
  exact lev_push (fun hp => (hA hp).2.keep hk) fun l hl => (h.lev l hl).keep hk
end

theorem V1.start {w W : World} {G : List Nat} {ga gp pb : Nat} {k n : Int} {s : ByteArray} {A : Option Addr} {c : Nat} {ar : Ts} (hv : Sl w (fun _ => True) (.slice A ar.length c) ar) (hW : Below w.heap.size w W)
    (h1 : Plot W ga 39 #[.int .i64 k, .int .i64 n, .string s, .slice A ar.length c]) (h2 : Plot W gp 37 #[.slice (some ⟨ga, 0, none⟩) 1 1]) (h3 : Plot W pb 107 #[.slice (some ⟨gp, 0, none⟩) 1 1])
    (hG : ga ∈ G) (hr : ∀ g ∈ G, ∃ c, Plot W g 39 c) (hgp : w.heap.size ≤ gp) (hpb : w.heap.size ≤ pb) :
    V1 w G pb [⟨ga, 0, .cons k n s ar .nil⟩] (.slice (some ⟨gp, 0, none⟩) 1 1) [.slice (some ⟨ga, 0, none⟩) 1 1] W := by
  refine ⟨⟨h3, ⟨rfl, .inr ⟨gp, 1, _, rfl, hgp, h2, Nat.le_refl _, by simp [maxLen], rfl, rfl⟩⟩, ?_⟩, hpb, ⟨[], 1, rfl, Nat.le_refl _, Nat.zero_lt_one, rfl⟩, ?_, hr, hW⟩
  · simp only [Value.ownBlock, ne_eq, Option.some.injEq]
    exact h2.ne_ h3 (by decide)
  · intro l hl
    have e : l = ⟨ga, 0, .cons k n s ar .nil⟩ := by simpa using hl
    subst e
    refine seg_cons.2 ⟨.inr hG, h1.cell 0, h1.cell 1, h1.cell 2, ⟨_, h1.cell 3, ?_⟩, trivial⟩
    exact (hv.imp (q := oldOr w G) fun k _ h => .inl h).below hW

/-- Is every term good, to the bottom? -/
def Ts.good (vars : Int) : Ts → Bool
  | .nil => true
  | .cons k n s ar r => nodeB vars k n s ar.length && ar.good vars && r.good vars
def goodLv (vars : Int) (L : List Lev) : Bool := L.all fun l => l.T.good vars
theorem goodL_push (vars : Int) (T : Ts) (b o : Nat) (L : List Lev) : goodLv vars (push T b o L) = (T.good vars && goodLv vars L) := by
  unfold push
  split
  · rename_i h; rw [Ts.nil_of_length h]; simp [Ts.good]
  · simp [goodLv]

def GoodLoop (w : World) (G : List Nat) (pb : Nat) (T : Ts) (vars : Int) (g : Nat) (wr : World) : Prop :=
  ∃ L pv xs, V1 w G pb L pv xs wr ∧ g = nodesOf L ∧ nodesOf L ≤ T.nodes ∧ T.good vars = goodLv vars L

set_option maxHeartbeats 400000 in
theorem goodTerm_any (k n vars : Int) (s : ByteArray) (ar : Ts) (v : Value) (w : World) (hv : Sl w (fun _ => True) v ar) (hn : ar.nodes < 1048576) :
    Calls Try.prog 93 #[.agg #[.int .i64 k, .int .i64 n, .string s, v], .int .i64 vars] w fun e w' => e = .returned (.bool ((Ts.cons k n s ar .nil).good vars)) ∧ Below w.heap.size w w' := by
  obtain ⟨A, c, rfl, hs⟩ := hv.form
  go_enter Try.func93, Try.ntmps93
  go_wp2_with (go_at_call 95; refine (newPath_any _ _ _ _ _ _ _).mono ?_; rintro e w1 ⟨rfl, rfl⟩)
  have hW : Below w.heap.size w (((((w.alloc (.cells #[.int .i64 k, .int .i64 n, .string s, .slice A ar.length c] 39)).alloc (.cells #[.int .i64 k, .int .i64 n, .string s, .slice A ar.length c] 39)).alloc (.cells #[.int .i64 k, .int .i64 n, .string s, .slice A ar.length c] 39)).alloc (.cells #[.slice (some ⟨w.heap.size + 1 + 1, 0, none⟩) 1 1] 37)).alloc (.cells #[.slice (some ⟨w.heap.size + 1 + 1 + 1, 0, none⟩) 1 1] 107)) := (((((Below.refl _ _).alloc (Nat.le_refl _) _).alloc (by simp) _).alloc (by simp; omega) _).alloc (by simp; omega) _).alloc (by simp; omega) _
  have hv0 : V1 w [w.heap.size + 1 + 1] (w.heap.size + 1 + 1 + 1 + 1) [⟨w.heap.size + 1 + 1, 0, .cons k n s ar .nil⟩] (.slice (some ⟨w.heap.size + 1 + 1 + 1, 0, none⟩) 1 1) [.slice (some ⟨w.heap.size + 1 + 1, 0, none⟩) 1 1] (((((w.alloc (.cells #[.int .i64 k, .int .i64 n, .string s, .slice A ar.length c] 39)).alloc (.cells #[.int .i64 k, .int .i64 n, .string s, .slice A ar.length c] 39)).alloc (.cells #[.int .i64 k, .int .i64 n, .string s, .slice A ar.length c] 39)).alloc (.cells #[.slice (some ⟨w.heap.size + 1 + 1, 0, none⟩) 1 1] 37)).alloc (.cells #[.slice (some ⟨w.heap.size + 1 + 1 + 1, 0, none⟩) 1 1] 107)) := by
    have b1 := ((Plot.new ((w.alloc (.cells #[.int .i64 k, .int .i64 n, .string s, .slice A ar.length c] 39)).alloc (.cells #[.int .i64 k, .int .i64 n, .string s, .slice A ar.length c] 39)) 39 #[.int .i64 k, .int .i64 n, .string s, .slice A ar.length c]).alloc (.cells #[.slice (some ⟨w.heap.size + 1 + 1, 0, none⟩) 1 1] 37)).alloc (.cells #[.slice (some ⟨w.heap.size + 1 + 1 + 1, 0, none⟩) 1 1] 107)
    have b2 := ((Plot.new (((w.alloc (.cells #[.int .i64 k, .int .i64 n, .string s, .slice A ar.length c] 39)).alloc (.cells #[.int .i64 k, .int .i64 n, .string s, .slice A ar.length c] 39)).alloc (.cells #[.int .i64 k, .int .i64 n, .string s, .slice A ar.length c] 39)) 37 #[.slice (some ⟨w.heap.size + 1 + 1, 0, none⟩) 1 1])).alloc (.cells #[.slice (some ⟨w.heap.size + 1 + 1 + 1, 0, none⟩) 1 1] 107)
    have b3 := Plot.new ((((w.alloc (.cells #[.int .i64 k, .int .i64 n, .string s, .slice A ar.length c] 39)).alloc (.cells #[.int .i64 k, .int .i64 n, .string s, .slice A ar.length c] 39)).alloc (.cells #[.int .i64 k, .int .i64 n, .string s, .slice A ar.length c] 39)).alloc (.cells #[.slice (some ⟨w.heap.size + 1 + 1, 0, none⟩) 1 1] 37)) 107 #[.slice (some ⟨w.heap.size + 1 + 1 + 1, 0, none⟩) 1 1]
    simp only [World.size_alloc] at b1 b2 b3
    exact V1.start hs hW b1 b2 b3 (by simp) (fun g hg => by
      have e : g = w.heap.size + 1 + 1 := by simpa using hg
      subst e; exact ⟨_, b1⟩) (by omega) (by omega)
  have h0 : GoodLoop w [w.heap.size + 1 + 1] (w.heap.size + 1 + 1 + 1 + 1) (.cons k n s ar .nil) vars (ar.nodes + 1) (((((w.alloc (.cells #[.int .i64 k, .int .i64 n, .string s, .slice A ar.length c] 39)).alloc (.cells #[.int .i64 k, .int .i64 n, .string s, .slice A ar.length c] 39)).alloc (.cells #[.int .i64 k, .int .i64 n, .string s, .slice A ar.length c] 39)).alloc (.cells #[.slice (some ⟨w.heap.size + 1 + 1, 0, none⟩) 1 1] 37)).alloc (.cells #[.slice (some ⟨w.heap.size + 1 + 1 + 1, 0, none⟩) 1 1] 107)) :=
    ⟨_, _, _, hv0, by simp [nodesOf, Ts.nodes], by simp [nodesOf], by simp [goodLv]⟩
  clear hv0
  go_loopg [] (ar.nodes + 1) (GoodLoop w [w.heap.size + 1 + 1] (w.heap.size + 1 + 1 + 1 + 1) (.cons k n s ar .nil) vars)
  case atStart => exact h0
  case round =>
    clear h0
    obtain ⟨L, pv, xs, hrel, hg, hsm, hgd⟩ := hrel
    have HG := Lib.hid hg
    have HD := Lib.hid hgd
    have hpx := hrel.pvs.length
    simp only [Ts.nodes] at hsm
    obtain ⟨Ap, cp, hpv⟩ := own_form hrel.path.own
    subst hpv
    have cpb : wr.cell? ⟨w.heap.size + 1 + 1 + 1 + 1, 0, none⟩ = some (.slice Ap xs.length cp) := hrel.path.var.cell 0
    clear hg hgd
    cases L with
    | nil =>
      have hx : xs = [] := hrel.pvs
      subst hx
      have hb := hrel.chg
      clear hrel hpx
      go_wp2_with fail
      go_ret
      exact ⟨by rw [HD.out]; rfl, hb⟩
    | cons l Ls =>
      obtain ⟨b, o, T1⟩ := l
      cases T1 with
      | nil => obtain ⟨_, _, _, _, h, _⟩ := hrel.pvs; simp [Ts.length] at h
      | cons k1 n1 s1 a1 r1 =>
      have hxl : 0 < xs.length := by rw [hpx]; simp
      have hn4 : nodesOf (⟨b, o, .cons k1 n1 s1 a1 r1⟩ :: Ls) ≤ 1048576 := by omega
      have hn5 : nodesOf (push r1 b (o + 4) Ls) ≤ 1048576 := by
        rw [nodesOf_push]
        simp only [nodesOf, List.map_cons, List.sum_cons, Ts.nodes] at hn4 ⊢
        omega
      go_wp2_with fail
      refine (hrel.next hn4).mono ?_
      rintro e w2 ⟨rfl, pv2, xs2, h2, hseg, _, _⟩
      obtain ⟨_, c0, c1, c2, ⟨v1, c3, hv1⟩, _⟩ := seg_cons.1 hseg
      obtain ⟨A1, d1, rfl, hv1⟩ := hv1.form
      go_wp2_with fail
      refine (goodNode_any vars k1 n1 s1 A1 a1.length d1 _).mono ?_
      rintro e w3 ⟨rfl, hb3⟩
      have h3 := h2.aside hb3
      have e3 : w3.cell? ⟨b, o + 3, none⟩ = some (.slice A1 a1.length d1) := (hb3.cell (lt_of_cell c3)).trans c3
      have hv3 := hv1.below hb3
      cases hnode : nodeB vars k1 n1 s1 a1.length with
      | false =>
        have hres : Hid ((Ts.cons k n s ar .nil).good vars = false) := Lib.hid (by rw [HD.out]; simp [goodLv, Ts.good, hnode])
        clear hnode
        go_wp2_with fail
        go_ret
        exact ⟨by rw [hres.out]; rfl, h3.chg⟩
      | true =>
        have hres : Hid ((Ts.cons k n s ar .nil).good vars = (a1.good vars && (r1.good vars && goodLv vars Ls))) := Lib.hid (by rw [HD.out]; simp [goodLv, Ts.good, hnode, Bool.and_assoc])
        clear hnode
        go_wp2_with fail
        refine (h3.add hv3 hn5).mono ?_
        rintro e w4 ⟨rfl, pv4, xs4, b4, o4, h4, _, _⟩
        go_wp2_with fail
        go_roundg (nodesOf (push a1 b4 o4 (push r1 b (o + 4) Ls)))
        case measure =>
          rw [HG.out, nodesOf_push, nodesOf_push]
          simp only [nodesOf, List.map_cons, List.sum_cons, Ts.nodes]
          omega
        case rel =>
          refine ⟨_, _, _, h4, rfl, ?_, ?_⟩
          · rw [nodesOf_push, nodesOf_push]
            simp only [nodesOf, List.map_cons, List.sum_cons, Ts.nodes] at hsm ⊢
            omega
          · rw [hres.out, goodL_push, goodL_push]

def NodesLoop (w : World) (G : List Nat) (pb : Nat) (T : Ts) (g : Nat) (s3 : Value) (wr : World) : Prop :=
  ∃ (L : List Lev) (pv : Value) (xs : List Value) (cnt : Nat), V1 w G pb L pv xs wr ∧ g = nodesOf L ∧ T.nodes = cnt + nodesOf L ∧ s3 = .int .i64 cnt

end Go.Proofs.Ytdflngjfnpbpmab
namespace Go.Proofs.Ytdflngjfnpbpmab
open Go.RowKit

def goalB (k : Int) : Bool := decide (k = 1) || decide (k = 3)
/-- Is it the S and the number of arguments of a built-in predicate? -/
def builtB (t : List UInt8) (l : Nat) : Bool :=
  if t = [33] then decide (l = 0) else if t = [116, 114, 117, 101] then decide (l = 0) else if t = [102, 97, 105, 108] then decide (l = 0)
  else if t = [101, 113] then decide (l = 2) else if t = [108, 101, 115, 115] then decide (l = 2) else if t = [97, 100, 100] then decide (l = 3) else false

theorem goal_any (k n : Int) (s : ByteArray) (v : Value) (w : World) : Calls Try.prog 91 #[.agg #[.int .i64 k, .int .i64 n, .string s, v]] w fun e w' => e = .returned (.bool (goalB k)) ∧ Below w.heap.size w w' := by
  by_cases h1 : k = 1
  · subst h1
    go_enter Try.func91, Try.ntmps91
    go_wp2_with fail
    go_ret
    exact ⟨rfl, (Below.refl _ _).alloc (Nat.le_refl _) _⟩
  by_cases h3 : k = 3
  · subst h3
    go_enter Try.func91, Try.ntmps91
    go_wp2_with fail
    go_ret
    exact ⟨rfl, (Below.refl _ _).alloc (Nat.le_refl _) _⟩
  have R := Lib.hid (show goalB k = false by simp [goalB, h1, h3])
  have g1 : (k == 1) = false := by simpa using h1
  have g3 : (k == 3) = false := by simpa using h3
  clear h1 h3
  go_enter Try.func91, Try.ntmps91
  go_wp2_with fail
  go_ret
  exact ⟨by rw [R.out]; rfl, (Below.refl _ _).alloc (Nat.le_refl _) _⟩

set_option maxHeartbeats 1000000 in
theorem builtin_any (k n : Int) (s : ByteArray) (A : Option Addr) (l c : Nat) (w : World) : Calls Try.prog 85 #[.agg #[.int .i64 k, .int .i64 n, .string s, .slice A l c]] w fun e w' => e = .returned (.bool (builtB s.toList l)) ∧ Below w.heap.size w w' := by
  generalize hr : builtB s.toList l = rb
  have R := Lib.hid hr
  clear hr
  go_enter Try.func85, Try.ntmps85
  go_wp2_with fail
  all_goals go_ret
  all_goals refine ⟨?_, (Below.refl _ _).alloc (Nat.le_refl _) _⟩
  all_goals rw [← R.out]
  all_goals refine ret_bool ?_
  all_goals rw [Bool.eq_iff_iff]
  all_goals simp_all [builtB]
  all_goals try omega

/-- No entry ahead of number i is what is asked for. -/
def EvLoop (S : World → Prop) (t : List UInt8) (l : Nat) (g : Nat) (s8 : Value) (wr : World) : Prop := ∃ i : Nat, i ≤ 6 ∧ g = 6 - i ∧ s8 = .int .i64 i ∧ S wr ∧
  (0 < i → ¬ (t = [33] ∧ l = 0)) ∧ (1 < i → ¬ (t = [116, 114, 117, 101] ∧ l = 0)) ∧ (2 < i → ¬ (t = [102, 97, 105, 108] ∧ l = 0)) ∧
  (3 < i → ¬ (t = [101, 113] ∧ l = 2)) ∧ (4 < i → ¬ (t = [108, 101, 115, 115] ∧ l = 2)) ∧ (5 < i → ¬ (t = [97, 100, 100] ∧ l = 3))

def EvS (w : World) (k n : Int) (s : ByteArray) (A : Option Addr) (l c : Nat) (x : World) : Prop := Plot x w.heap.size 39 #[.int .i64 k, .int .i64 n, .string s, .slice A l c] ∧
  Plot x (w.heap.size + 1) 9 #[.string ⟨#[33, 47, 48]⟩, .string ⟨#[116, 114, 117, 101, 47, 48]⟩, .string ⟨#[102, 97, 105, 108, 47, 48]⟩, .string ⟨#[101, 113, 47, 50]⟩, .string ⟨#[108, 101, 115, 115, 47, 50]⟩, .string ⟨#[97, 100, 100, 47, 51]⟩] ∧ Below w.heap.size w x
theorem EvS.drewN {w x : World} {k n : Int} {s : ByteArray} {A : Option Addr} {l c : Nat} (h : EvS w k n s A l c x) (q : Nat) : EvS w k n s A l c (x.drewN q) := ⟨h.1.drewN q, h.2.1.drewN q, h.2.2.trans (below_drewN _ _ _)⟩
theorem EvLoop.step0 {S : World → Prop} {W : World} (hS : S W) {t : List UInt8} {l : Nat} (hA : (0 < 0 → ¬ (t = [33] ∧ l = 0)) ∧ (1 < 0 → ¬ (t = [116, 114, 117, 101] ∧ l = 0)) ∧ (2 < 0 → ¬ (t = [102, 97, 105, 108] ∧ l = 0)) ∧ (3 < 0 → ¬ (t = [101, 113] ∧ l = 2)) ∧ (4 < 0 → ¬ (t = [108, 101, 115, 115] ∧ l = 2)) ∧ (5 < 0 → ¬ (t = [97, 100, 100] ∧ l = 3))) (h : ¬ (t = [33] ∧ l = 0)) : EvLoop S t l 5 (.int .i64 1) W := by
  obtain ⟨hA0, hA1, hA2, hA3, hA4, hA5⟩ := hA
  exact ⟨1, by omega, rfl, rfl, hS, fun _ => h, fun hh => absurd hh (by omega), fun hh => absurd hh (by omega), fun hh => absurd hh (by omega), fun hh => absurd hh (by omega), fun hh => absurd hh (by omega)⟩
theorem EvLoop.step1 {S : World → Prop} {W : World} (hS : S W) {t : List UInt8} {l : Nat} (hA : (0 < 1 → ¬ (t = [33] ∧ l = 0)) ∧ (1 < 1 → ¬ (t = [116, 114, 117, 101] ∧ l = 0)) ∧ (2 < 1 → ¬ (t = [102, 97, 105, 108] ∧ l = 0)) ∧ (3 < 1 → ¬ (t = [101, 113] ∧ l = 2)) ∧ (4 < 1 → ¬ (t = [108, 101, 115, 115] ∧ l = 2)) ∧ (5 < 1 → ¬ (t = [97, 100, 100] ∧ l = 3))) (h : ¬ (t = [116, 114, 117, 101] ∧ l = 0)) : EvLoop S t l 4 (.int .i64 2) W := by
  obtain ⟨hA0, hA1, hA2, hA3, hA4, hA5⟩ := hA
  exact ⟨2, by omega, rfl, rfl, hS, fun _ => hA0 (by omega), fun _ => h, fun hh => absurd hh (by omega), fun hh => absurd hh (by omega), fun hh => absurd hh (by omega), fun hh => absurd hh (by omega)⟩
theorem EvLoop.step2 {S : World → Prop} {W : World} (hS : S W) {t : List UInt8} {l : Nat} (hA : (0 < 2 → ¬ (t = [33] ∧ l = 0)) ∧ (1 < 2 → ¬ (t = [116, 114, 117, 101] ∧ l = 0)) ∧ (2 < 2 → ¬ (t = [102, 97, 105, 108] ∧ l = 0)) ∧ (3 < 2 → ¬ (t = [101, 113] ∧ l = 2)) ∧ (4 < 2 → ¬ (t = [108, 101, 115, 115] ∧ l = 2)) ∧ (5 < 2 → ¬ (t = [97, 100, 100] ∧ l = 3))) (h : ¬ (t = [102, 97, 105, 108] ∧ l = 0)) : EvLoop S t l 3 (.int .i64 3) W := by
  obtain ⟨hA0, hA1, hA2, hA3, hA4, hA5⟩ := hA
  exact ⟨3, by omega, rfl, rfl, hS, fun _ => hA0 (by omega), fun _ => hA1 (by omega), fun _ => h, fun hh => absurd hh (by omega), fun hh => absurd hh (by omega), fun hh => absurd hh (by omega)⟩
theorem EvLoop.step3 {S : World → Prop} {W : World} (hS : S W) {t : List UInt8} {l : Nat} (hA : (0 < 3 → ¬ (t = [33] ∧ l = 0)) ∧ (1 < 3 → ¬ (t = [116, 114, 117, 101] ∧ l = 0)) ∧ (2 < 3 → ¬ (t = [102, 97, 105, 108] ∧ l = 0)) ∧ (3 < 3 → ¬ (t = [101, 113] ∧ l = 2)) ∧ (4 < 3 → ¬ (t = [108, 101, 115, 115] ∧ l = 2)) ∧ (5 < 3 → ¬ (t = [97, 100, 100] ∧ l = 3))) (h : ¬ (t = [101, 113] ∧ l = 2)) : EvLoop S t l 2 (.int .i64 4) W := by
  obtain ⟨hA0, hA1, hA2, hA3, hA4, hA5⟩ := hA
  exact ⟨4, by omega, rfl, rfl, hS, fun _ => hA0 (by omega), fun _ => hA1 (by omega), fun _ => hA2 (by omega), fun _ => h, fun hh => absurd hh (by omega), fun hh => absurd hh (by omega)⟩
theorem EvLoop.step4 {S : World → Prop} {W : World} (hS : S W) {t : List UInt8} {l : Nat} (hA : (0 < 4 → ¬ (t = [33] ∧ l = 0)) ∧ (1 < 4 → ¬ (t = [116, 114, 117, 101] ∧ l = 0)) ∧ (2 < 4 → ¬ (t = [102, 97, 105, 108] ∧ l = 0)) ∧ (3 < 4 → ¬ (t = [101, 113] ∧ l = 2)) ∧ (4 < 4 → ¬ (t = [108, 101, 115, 115] ∧ l = 2)) ∧ (5 < 4 → ¬ (t = [97, 100, 100] ∧ l = 3))) (h : ¬ (t = [108, 101, 115, 115] ∧ l = 2)) : EvLoop S t l 1 (.int .i64 5) W := by
  obtain ⟨hA0, hA1, hA2, hA3, hA4, hA5⟩ := hA
  exact ⟨5, by omega, rfl, rfl, hS, fun _ => hA0 (by omega), fun _ => hA1 (by omega), fun _ => hA2 (by omega), fun _ => hA3 (by omega), fun _ => h, fun hh => absurd hh (by omega)⟩
theorem EvLoop.step5 {S : World → Prop} {W : World} (hS : S W) {t : List UInt8} {l : Nat} (hA : (0 < 5 → ¬ (t = [33] ∧ l = 0)) ∧ (1 < 5 → ¬ (t = [116, 114, 117, 101] ∧ l = 0)) ∧ (2 < 5 → ¬ (t = [102, 97, 105, 108] ∧ l = 0)) ∧ (3 < 5 → ¬ (t = [101, 113] ∧ l = 2)) ∧ (4 < 5 → ¬ (t = [108, 101, 115, 115] ∧ l = 2)) ∧ (5 < 5 → ¬ (t = [97, 100, 100] ∧ l = 3))) (h : ¬ (t = [97, 100, 100] ∧ l = 3)) : EvLoop S t l 0 (.int .i64 6) W := by
  obtain ⟨hA0, hA1, hA2, hA3, hA4, hA5⟩ := hA
  exact ⟨6, by omega, rfl, rfl, hS, fun _ => hA0 (by omega), fun _ => hA1 (by omega), fun _ => hA2 (by omega), fun _ => hA3 (by omega), fun _ => hA4 (by omega), fun _ => h⟩
theorem built_none {t : List UInt8} {l : Nat} (hA : (0 < 6 → ¬ (t = [33] ∧ l = 0)) ∧ (1 < 6 → ¬ (t = [116, 114, 117, 101] ∧ l = 0)) ∧ (2 < 6 → ¬ (t = [102, 97, 105, 108] ∧ l = 0)) ∧ (3 < 6 → ¬ (t = [101, 113] ∧ l = 2)) ∧ (4 < 6 → ¬ (t = [108, 101, 115, 115] ∧ l = 2)) ∧ (5 < 6 → ¬ (t = [97, 100, 100] ∧ l = 3))) : builtB t l = false := by
  obtain ⟨h0, h1, h2, h3, h4, h5⟩ := hA
  unfold builtB
  repeat' split
  all_goals simp_all

end Go.Proofs.Ytdflngjfnpbpmab
namespace Go.Proofs.Ytdflngjfnpbpmab
open Go.RowKit

/-- The two variables that the visitor knows: how many nodes are left, and itself. -/
structure VS (lb vb : Nat) (L : Nat) (w : World) : Prop where
  left : Plot w lb 3 #[.int .i64 L]
  fn : Plot w vb 113 #[.func (.func 94) #[] #[.pointer (some ⟨lb, 0, none⟩), .pointer (some ⟨vb, 0, none⟩)]]
  ne : vb ≠ lb
theorem VS.far {lb vb L : Nat} {w w' : World} (h : VS lb vb L w) (hb : Below w.heap.size w w') : VS lb vb L w' := ⟨h.left.below hb, h.fn.below hb, h.ne⟩

def VisitSaid (T : Ts) : Prop := ∀ (k n : Int) (s : ByteArray) (v : Value) (L lb vb B : Nat) (w : World), Sl w (fun k => k < B) v T → B ≤ lb → VS lb vb L w → L ≤ 24 → T.nodes ≤ 1048576 →
    Calls Try.prog 94 #[.agg #[.int .i64 k, .int .i64 n, .string s, v], .pointer (some ⟨lb, 0, none⟩), .pointer (some ⟨vb, 0, none⟩)] w fun e w' =>
      e = .returned (.bool (decide (T.nodes + 1 ≤ L))) ∧ (T.nodes + 1 ≤ L → VS lb vb (L - (T.nodes + 1)) w') ∧ Chg (fun k => k = lb) w w'

def VtLoop (w : World) (T : Ts) (L lb vb : Nat) (g : Nat) (sx : Value) (wr : World) : Prop := ∃ D R : Ts, T = D.app R ∧ g = R.length ∧ sx = .int .i64 D.length ∧ D.nodes + 1 ≤ L ∧ VS lb vb (L - (D.nodes + 1)) wr ∧ Chg (fun k => k = lb) w wr

set_option maxHeartbeats 1000000 in
theorem visit_of (m : Nat) (ih : ∀ T : Ts, T.nodes < m → VisitSaid T) (T : Ts) (hm : T.nodes ≤ m) : VisitSaid T := by
  intro k n s v L lb vb B w hv hBl hvs hL hn
  obtain ⟨A, c, rfl, hs⟩ := hv.form
  have hle := T.length_le
  have hW : Below w.heap.size w (w.alloc (.cells #[.int .i64 k, .int .i64 n, .string s, .slice A T.length c] 39)) := (Below.refl _ _).alloc (Nat.le_refl _) _
  have hvs1 := hvs.far hW
  have hs1 := hs.below hW
  have bA := Plot.new w 39 #[.int .i64 k, .int .i64 n, .string s, .slice A T.length c]
  have l0 := hvs1.left.cell 0
  have lf := hvs1.left.frozen 0
  simp at l0
  have hlt := hvs.left.lt
  by_cases hL0 : L = 0
  · subst hL0
    go_enter Try.func94, Try.ntmps94
    go_wp2_with fail
    go_ret
    exact ⟨rfl, fun h => absurd h (by omega), Chg.of_fresh hW⟩
  have hL1 : 0 < L := by omega
  obtain ⟨p0, p1, p2, p3, _⟩ := bA.four
  have hne : w.heap.size ≠ lb := by omega
  go_enter Try.func94, Try.ntmps94
  go_wp2_with fail
  have hstart : VS lb vb (L - 1) ((w.setCell ⟨lb, 0, none⟩ (.int .i64 ((L : Int) - 1))).alloc (.cells #[.int .i64 k, .int .i64 n, .string s, .slice A T.length c] 39)) := by
    refine ⟨?_, ?_, hvs.ne⟩
    · have h1 := (hvs.left.set_ 0 (.int .i64 ((L : Int) - 1))).alloc (.cells #[.int .i64 k, .int .i64 n, .string s, .slice A T.length c] 39)
      rw [show ((L - 1 : Nat) : Int) = (L : Int) - 1 by omega]
      exact h1
    · exact (hvs.fn.far (p := ⟨lb, 0, none⟩) hvs.ne _).alloc _
  have hchg : Chg (fun k => k = lb) w ((w.setCell ⟨lb, 0, none⟩ (.int .i64 ((L : Int) - 1))).alloc (.cells #[.int .i64 k, .int .i64 n, .string s, .slice A T.length c] 39)) :=
    ((Chg.refl (fun k => k = lb) w).setCell (p := ⟨lb, 0, none⟩) (fun _ => rfl) _).alloc _
  have hcall : ∀ (args : Array Value) (x : World), (callFunc 94 args).run Try.prog x = .ok (.enter 94 args) x := fun args x => by simp [go_sem]
  generalize ((w.setCell ⟨lb, 0, none⟩ (.int .i64 ((L : Int) - 1))).alloc (.cells #[.int .i64 k, .int .i64 n, .string s, .slice A T.length c] 39)) = W at *
  have h0 : VtLoop w T L lb vb T.length (.int .i64 0) W := ⟨.nil, T, rfl, rfl, rfl, hL1, hstart, hchg⟩
  clear hstart hchg hvs1 bA p0 p1 p2 p3 hne l0 lf hs1 hW
  go_loopg [14] T.length (VtLoop w T L lb vb)
  case atStart => exact h0
  case round =>
    clear h0
    obtain ⟨D, R, hT, hg, rfl, hD, hvr, hc⟩ := hrel
    have HT := Lib.hid hT
    have HG := Lib.hid hg
    clear hT hg
    have hsr : Sl wr (fun k => k < B) (.slice A T.length c) T := hs.chg hc fun k hk => by omega
    cases R with
    | nil =>
      have eD : D = T := by rw [HT.out, Ts.app_nil]
      subst eD
      go_wp2_with fail
      go_ret
      refine ⟨?_, fun _ => hvr, hc⟩
      rw [decide_eq_true hD]; rfl
    | cons k1 n1 s1 ar r =>
      have e1 : D.length < T.length := by rw [HT.out, Ts.length_app]; simp [Ts.length]
      have hnod : T.nodes = D.nodes + (1 + ar.nodes + r.nodes) := by rw [HT.out, Ts.nodes_app]; simp only [Ts.nodes]; omega
      rw [HT.out] at hsr
      rw [show (D.app (.cons k1 n1 s1 ar r)).length = T.length by rw [← HT.out]] at hsr
      obtain ⟨b1, o1, rfl, hq1⟩ := Sl.at_ hsr (by simp [Ts.length])
      obtain ⟨_, c10, c11, c12, ⟨v1, c13, hv1⟩, _⟩ := seg_cons.1 hq1
      obtain ⟨A1, d1, rfl, hv1⟩ := hv1.form
      clear hq1 hsr
      have hX : Below wr.heap.size wr (wr.alloc (.cells #[.int .i64 k1, .int .i64 n1, .string s1, .slice A1 ar.length d1] 39)) := (Below.refl _ _).alloc (Nat.le_refl _) _
      have hvx := hvr.far hX
      have f0 := hvx.fn.cell 0
      simp at f0
      go_wp2_with fail
      have e2 : ar.nodes < m := by omega
      refine (ih ar e2 k1 n1 s1 _ (L - (D.nodes + 1)) lb vb B _ (hv1.below hX) hBl hvx (by omega) (by omega)).mono ?_
      rintro e w2 ⟨rfl, hok, hc2⟩
      have hc3 : Chg (fun k => k = lb) w w2 := (hc.trans (Chg.of_fresh (S := fun k => k = lb) hX) fun _ _ h => h).trans hc2 fun _ _ h => h
      by_cases hx : ar.nodes + 1 ≤ L - (D.nodes + 1)
      · have hok := hok hx
        rw [decide_eq_true hx]
        have hnx : Hid (VS lb vb (L - ((D.app (.cons k1 n1 s1 ar .nil)).nodes + 1)) w2) := Lib.hid (by
          rw [Ts.nodes_app]
          simp only [Ts.nodes]
          rw [show L - (D.nodes + (ar.nodes + 0 + 1) + 1) = L - (D.nodes + 1) - (ar.nodes + 1) by omega]
          exact hok)
        clear hok
        go_wp2_with fail
        go_roundg r.length
        case measure => rw [HG.out]; simp [Ts.length]
        case rel =>
          refine ⟨D.app (.cons k1 n1 s1 ar .nil), r, ?_, rfl, ?_, ?_, hnx.out, hc3⟩
          · rw [HT.out, Ts.app_assoc]; rfl
          · rw [Ts.length_app]; rfl
          · rw [Ts.nodes_app]; simp only [Ts.nodes]; omega
      · rw [decide_eq_false hx]
        have hbig : Hid (¬ T.nodes + 1 ≤ L) := Lib.hid (by omega)
        clear hok
        go_wp2_with fail
        go_ret
        refine ⟨?_, fun h => absurd h hbig.out, hc3⟩
        rw [decide_eq_false hbig.out]; rfl

theorem visit_said (T : Ts) : VisitSaid T := by
  have : ∀ m, ∀ T : Ts, T.nodes < m → VisitSaid T := by
    intro m
    induction m with
    | zero => intro T h; omega
    | succ m ih => intro T h; exact visit_of m ih T (by omega)
  exact this _ T (Nat.lt_succ_self _)

set_option maxHeartbeats 1000000 in
theorem fits_any (k n : Int) (s : ByteArray) (T : Ts) (v : Value) (w : World) (hv : Sl w (fun _ => True) v T) (hn : T.nodes ≤ 1048576) :
    Calls Try.prog 92 #[.agg #[.int .i64 k, .int .i64 n, .string s, v], .int .i64 24] w fun e w' => e = .returned (.bool (decide (T.nodes + 1 ≤ 24))) ∧ Below w.heap.size w w' := by
  obtain ⟨A, c, rfl, hs⟩ := hv.form
  have hs := hs.imp (q := fun k => k < w.heap.size) fun k _ h => h
  have hW : Below w.heap.size w (((w.alloc (.cells #[.int .i64 k, .int .i64 n, .string s, .slice A T.length c] 39)).alloc (.cells #[.int .i64 24] 3)).alloc (.cells #[.func (.func 94) #[] #[.pointer (some ⟨w.heap.size + 1, 0, none⟩), .pointer (some ⟨w.heap.size + 1 + 1, 0, none⟩)]] 113)) := (((Below.refl _ _).alloc (Nat.le_refl _) _).alloc (by simp) _).alloc (by simp; omega) _
  have hst : (store ⟨w.heap.size + 1 + 1, 0, none⟩ (.func (.func 94) #[] #[.pointer (some ⟨w.heap.size + 1, 0, none⟩), .pointer (some ⟨w.heap.size + 1 + 1, 0, none⟩)])).run Try.prog (((w.alloc (.cells #[.int .i64 k, .int .i64 n, .string s, .slice A T.length c] 39)).alloc (.cells #[.int .i64 24] 3)).alloc (.cells #[.nilFunc] 113)) =
      .ok () (((w.alloc (.cells #[.int .i64 k, .int .i64 n, .string s, .slice A T.length c] 39)).alloc (.cells #[.int .i64 24] 3)).alloc (.cells #[.func (.func 94) #[] #[.pointer (some ⟨w.heap.size + 1, 0, none⟩), .pointer (some ⟨w.heap.size + 1 + 1, 0, none⟩)]] 113)) := by
    have hb := Plot.new ((w.alloc (.cells #[.int .i64 k, .int .i64 n, .string s, .slice A T.length c] 39)).alloc (.cells #[.int .i64 24] 3)) 113 #[.nilFunc]
    have e := setCell_new ((w.alloc (.cells #[.int .i64 k, .int .i64 n, .string s, .slice A T.length c] 39)).alloc (.cells #[.int .i64 24] 3)) .nilFunc (.func (.func 94) #[] #[.pointer (some ⟨w.heap.size + 1, 0, none⟩), .pointer (some ⟨w.heap.size + 1 + 1, 0, none⟩)]) 113
    have h := run_store_func (P := Try.prog) (f := .func 94) (x := #[]) (y := #[.pointer (some ⟨w.heap.size + 1, 0, none⟩), .pointer (some ⟨w.heap.size + 1 + 1, 0, none⟩)]) (hb.cell 0) (hb.frozen 0)
    rw [e] at h
    simpa using h
  have hvs : VS (w.heap.size + 1) (w.heap.size + 1 + 1) 24 (((w.alloc (.cells #[.int .i64 k, .int .i64 n, .string s, .slice A T.length c] 39)).alloc (.cells #[.int .i64 24] 3)).alloc (.cells #[.func (.func 94) #[] #[.pointer (some ⟨w.heap.size + 1, 0, none⟩), .pointer (some ⟨w.heap.size + 1 + 1, 0, none⟩)]] 113)) := by
    refine ⟨?_, ?_, by omega⟩
    · have := (Plot.new (w.alloc (.cells #[.int .i64 k, .int .i64 n, .string s, .slice A T.length c] 39)) 3 #[.int .i64 24]).alloc (.cells #[.func (.func 94) #[] #[.pointer (some ⟨w.heap.size + 1, 0, none⟩), .pointer (some ⟨w.heap.size + 1 + 1, 0, none⟩)]] 113)
      simpa using this
    · have := Plot.new ((w.alloc (.cells #[.int .i64 k, .int .i64 n, .string s, .slice A T.length c] 39)).alloc (.cells #[.int .i64 24] 3)) 113 #[.func (.func 94) #[] #[.pointer (some ⟨w.heap.size + 1, 0, none⟩), .pointer (some ⟨w.heap.size + 1 + 1, 0, none⟩)]]
      simpa using this
  have hcall : ∀ (args : Array Value) (x : World), (callFunc 94 args).run Try.prog x = .ok (.enter 94 args) x := fun args x => by simp [go_sem]
  go_enter Try.func92, Try.ntmps92
  go_wp2_with fail
  refine (visit_said T k n s _ 24 (w.heap.size + 1) (w.heap.size + 1 + 1) w.heap.size _ (hs.below hW) (by omega) hvs (Nat.le_refl _) hn).mono ?_
  rintro e w2 ⟨rfl, _, hc⟩
  generalize hfb : decide (T.nodes + 1 ≤ 24) = fb
  have HFB := Lib.hid hfb
  clear hfb
  go_wp2_with fail
  go_ret
  refine ⟨by rw [HFB.out]; rfl, hW.trans (hc.below (by simp; omega) fun k hk _ => ?_)⟩
  have e : k = w.heap.size + 1 := hk
  omega
end Go.Proofs.Ytdflngjfnpbpmab
namespace Go.Proofs.Ytdflngjfnpbpmab
open Go.RowKit

/-- Is it a good goal? -/
def gB (vars k n : Int) (s : ByteArray) (T : Ts) : Bool := goalB k && (Ts.cons k n s T .nil).good vars && decide (T.nodes + 1 ≤ 24)

set_option maxHeartbeats 1000000 in
theorem goodGoal_any (vars k n : Int) (s : ByteArray) (T : Ts) (v : Value) (w : World) (hv : Sl w (fun _ => True) v T) (hn : T.nodes < 1048576) :
    Calls Try.prog 84 #[.agg #[.int .i64 k, .int .i64 n, .string s, v], .int .i64 vars] w fun e w' => e = .returned (.bool (gB vars k n s T)) ∧ Below w.heap.size w w' := by
  obtain ⟨A, c, rfl, hs⟩ := hv.form
  generalize hr : gB vars k n s T = rb
  have R := Lib.hid hr
  clear hr
  go_enter Try.func84, Try.ntmps84
  go_wp2_with fail
  have hW0 : Below w.heap.size w (w.alloc (.cells #[.int .i64 k, .int .i64 n, .string s, .slice A T.length c] 39)) := (Below.refl _ _).alloc (Nat.le_refl _) _
  have bA := Plot.new w 39 #[.int .i64 k, .int .i64 n, .string s, .slice A T.length c]
  generalize (w.alloc (.cells #[.int .i64 k, .int .i64 n, .string s, .slice A T.length c] 39)) = W0 at *
  have hs0 := hs.below hW0
  refine (goal_any k n s _ W0).mono ?_
  rintro e w1 ⟨rfl, hb1⟩
  have hW1 := hW0.trans (hb1.mono hW0.size)
  have bA1 := bA.below hb1
  have hs1 := hs0.below hb1
  cases hg : goalB k with
  | false =>
    go_wp2_with fail
    go_ret
    refine ⟨?_, hW1⟩
    rw [← R.out, gB, hg]; rfl
  | true =>
    have HGK := Lib.hid hg
    clear hg
    obtain ⟨p0, p1, p2, p3, _⟩ := bA1.four
    go_wp2_with fail
    refine (fits_any k n s T _ _ hs1 (by omega)).mono ?_
    rintro e w2 ⟨rfl, hb2⟩
    have hW2 := hW1.trans (hb2.mono hW1.size)
    have bA2 := bA1.below hb2
    have hs2 := hs1.below hb2
    clear p0 p1 p2 p3
    generalize hf : decide (T.nodes + 1 ≤ 24) = fb
    have HF := Lib.hid hf
    clear hf
    obtain ⟨p0, p1, p2, p3, _⟩ := bA2.four
    cases fb with
    | false =>
      go_wp2_with fail
      go_ret
      refine ⟨?_, hW2⟩
      rw [← R.out, gB, HF.out, Bool.and_false]; rfl
    | true =>
      go_wp2_with fail
      refine (goodTerm_any k n vars s T _ _ hs2 hn).mono ?_
      rintro e w3 ⟨rfl, hb3⟩
      generalize hq : (Ts.cons k n s T .nil).good vars = qb
      have HQ := Lib.hid hq
      clear hq
      go_wp2_with fail
      go_ret
      refine ⟨?_, hW2.trans (hb3.mono hW2.size)⟩
      rw [← R.out, gB, HGK.out, HF.out, HQ.out, Bool.and_true, Bool.true_and]; rfl

end Go.Proofs.Ytdflngjfnpbpmab
namespace Go.Proofs.Ytdflngjfnpbpmab
open Go.RowKit

/-- Are all of them good goals? -/
def Ts.goals (vars : Int) : Ts → Bool
  | .nil => true
  | .cons k n s ar r => gB vars k n s ar && r.goals vars
theorem Ts.goals_app (v : Int) (D R : Ts) : (D.app R).goals v = (D.goals v && R.goals v) := by
  induction D with
  | nil => rfl
  | cons k n b ar r _ ih => simp only [Ts.app, Ts.goals, ih, Bool.and_assoc]
def qB (vars : Int) (T : Ts) : Bool := decide (0 ≤ vars) && decide (vars ≤ 8) && decide (T.length ≤ 5) && T.goals vars

def GqLoop (w : World) (T : Ts) (vars : Int) (g : Nat) (sx : Value) (wr : World) : Prop := ∃ D R : Ts, T = D.app R ∧ g = R.length ∧ sx = .int .i64 D.length ∧ D.goals vars = true ∧ Below w.heap.size w wr
def IqLoop (w : World) (T : Ts) (vars : Int) (b : Bool) (g : Nat) (so sx : Value) (wr : World) : Prop := ∃ D R : Ts, T = D.app R ∧ g = R.length ∧ sx = .int .i64 D.length ∧ so = .bool (b && D.goals vars) ∧ Below w.heap.size w wr

set_option maxHeartbeats 1000000 in
theorem goodQuery_any (vars : Int) (T : Ts) (v : Value) (w : World) (hv : Sl w (fun _ => True) v T) (hn : T.nodes ≤ 1048576) :
    Calls Try.prog 83 #[v, .int .i64 vars] w fun e w' => e = .returned (.bool (qB vars T)) ∧ Below w.heap.size w w' := by
  obtain ⟨A, c, rfl, hs⟩ := hv.form
  have hle := T.length_le
  generalize hr : qB vars T = rb
  have R := Lib.hid hr
  clear hr
  by_cases h1 : vars < 0
  · have hq : Hid (rb = false) := Lib.hid (by rw [← R.out, qB]; simp; omega)
    go_enter Try.func83, Try.ntmps83
    go_wp2_with fail
    go_ret
    exact ⟨by rw [hq.out]; rfl, Below.refl _ _⟩
  by_cases h2 : 8 < vars
  · have hq : Hid (rb = false) := Lib.hid (by rw [← R.out, qB]; simp; omega)
    go_enter Try.func83, Try.ntmps83
    go_wp2_with fail
    go_ret
    exact ⟨by rw [hq.out]; rfl, Below.refl _ _⟩
  by_cases h3 : 5 < T.length
  · have hq : Hid (rb = false) := Lib.hid (by rw [← R.out, qB]; simp; omega)
    go_enter Try.func83, Try.ntmps83
    go_wp2_with fail
    go_ret
    exact ⟨by rw [hq.out]; rfl, Below.refl _ _⟩
  have hq : Hid (rb = T.goals vars) := Lib.hid (by rw [← R.out, qB]; simp; omega)
  have hl5 : T.length ≤ 5 := by omega
  have h0 : GqLoop w T vars T.length (.int .i64 0) w := ⟨.nil, T, rfl, rfl, rfl, rfl, Below.refl _ _⟩
  go_enter Try.func83, Try.ntmps83
  go_wp2_with fail
  go_loopg [20] T.length (GqLoop w T vars)
  case atStart => exact h0
  case round =>
    clear h0
    obtain ⟨D, R', hT, hg, rfl, hD, hb⟩ := hrel
    have HT := Lib.hid hT
    have HG := Lib.hid hg
    have HD := Lib.hid hD
    clear hT hg hD
    have hsr := hs.below hb
    cases R' with
    | nil =>
      have eD : D = T := by rw [HT.out, Ts.app_nil]
      subst eD
      go_wp2_with fail
      go_ret
      exact ⟨by rw [hq.out, HD.out]; rfl, hb⟩
    | cons k1 n1 s1 ar r =>
      have e1 : D.length < T.length := by rw [HT.out, Ts.length_app]; simp [Ts.length]
      have hnod : ar.nodes < 1048576 := by have := hn; rw [HT.out, Ts.nodes_app] at this; simp only [Ts.nodes] at this; omega
      rw [HT.out] at hsr
      rw [show (D.app (.cons k1 n1 s1 ar r)).length = T.length by rw [← HT.out]] at hsr
      obtain ⟨b1, o1, rfl, hq1⟩ := Sl.at_ hsr (by simp [Ts.length])
      obtain ⟨_, c10, c11, c12, ⟨v1, c13, hv1⟩, _⟩ := seg_cons.1 hq1
      obtain ⟨A1, d1, rfl, hv1⟩ := hv1.form
      clear hq1 hsr
      have hX : Below wr.heap.size wr (wr.alloc (.cells #[.int .i64 k1, .int .i64 n1, .string s1, .slice A1 ar.length d1] 39)) := (Below.refl _ _).alloc (Nat.le_refl _) _
      have hX' := hb.trans (hX.mono hb.size)
      go_wp2_with fail
      refine (goodGoal_any vars k1 n1 s1 ar _ _ (hv1.below hX) hnod).mono ?_
      rintro e w2 ⟨rfl, hb2⟩
      have hb3 := hX'.trans (hb2.mono hX'.size)
      generalize hgb : gB vars k1 n1 s1 ar = gb
      have HGB := Lib.hid hgb
      clear hgb
      cases gb with
      | false =>
        go_wp2_with fail
        go_ret
        refine ⟨?_, hb3⟩
        rw [hq.out, HT.out, Ts.goals_app, Ts.goals, HGB.out, Bool.false_and, Bool.and_false]; rfl
      | true =>
        go_wp2_with fail
        go_roundg r.length
        case measure => rw [HG.out]; simp [Ts.length]
        case rel =>
          refine ⟨D.app (.cons k1 n1 s1 ar .nil), r, ?_, rfl, ?_, ?_, hb3⟩
          · rw [HT.out, Ts.app_assoc]; rfl
          · rw [Ts.length_app]; rfl
          · rw [Ts.goals_app, HD.out, Ts.goals, HGB.out]; rfl

end Go.Proofs.Ytdflngjfnpbpmab
namespace Go.Proofs.Ytdflngjfnpbpmab
open Go.RowKit

/-- A clause. -/
structure Cl where
  k : Int
  n : Int
  s : ByteArray
  hd : Ts
  bd : Ts
  vars : Int
def Cl.nodes (c : Cl) : Nat := c.hd.nodes + c.bd.nodes + 1
def nodesC : List Cl → Nat
  | [] => 0
  | c :: r => c.nodes + nodesC r
/-- Is it a good clause? -/
def cB (c : Cl) : Bool := qB c.vars c.bd && gB c.vars c.k c.n c.s c.hd && !builtB c.s.toList c.hd.length
/-- From cell o of block b on lie the clauses, six cells each; what they lean on is p's. -/
def SegC (w : World) (p : Nat → Prop) : List Cl → Nat → Nat → Prop
  | [], _, _ => True
  | c :: r, b, o => p b ∧ w.cell? ⟨b, o, none⟩ = some (.int .i64 c.k) ∧ w.cell? ⟨b, o + 1, none⟩ = some (.int .i64 c.n) ∧ w.cell? ⟨b, o + 2, none⟩ = some (.string c.s) ∧
    (∃ v, w.cell? ⟨b, o + 3, none⟩ = some v ∧ Sl w p v c.hd) ∧ (∃ v, w.cell? ⟨b, o + 4, none⟩ = some v ∧ Sl w p v c.bd) ∧ w.cell? ⟨b, o + 5, none⟩ = some (.int .i64 c.vars) ∧ SegC w p r b (o + 6)
def SlC (w : World) (p : Nat → Prop) (v : Value) (L : List Cl) : Prop := ∃ A c, v = .slice A L.length c ∧ L.length ≤ c ∧ (0 < L.length → ∃ b o, A = some ⟨b, o, none⟩ ∧ SegC w p L b o)

section
variable {w w' : World} {p q : Nat → Prop}
theorem SegC.keep {L : List Cl} : ∀ {b o : Nat}, SegC w p L b o → (∀ k, p k → k < w.heap.size → w'.heap[k]? = w.heap[k]?) → SegC w' p L b o := by
  induction L with
  | nil => intro b o _ _; trivial
  | cons c r ih =>
    intro b o ⟨h0, h1, h2, h3, ⟨v, h4, h5⟩, ⟨u, h6, h7⟩, h8, h9⟩ hk
    have hc : ∀ j, w'.cell? ⟨b, j, none⟩ = w.cell? ⟨b, j, none⟩ := fun j => World.cell?_of_block (hk b h0 (lt_of_cell h1))
    exact ⟨h0, (hc _).trans h1, (hc _).trans h2, (hc _).trans h3, ⟨v, (hc _).trans h4, h5.keep hk⟩, ⟨u, (hc _).trans h6, h7.keep hk⟩, (hc _).trans h8, ih h9 hk⟩
theorem SegC.imp {L : List Cl} : ∀ {b o : Nat}, SegC w p L b o → (∀ k, p k → k < w.heap.size → q k) → SegC w q L b o := by
  induction L with
  | nil => intro b o _ _; trivial
  | cons c r ih =>
    intro b o ⟨h0, h1, h2, h3, ⟨v, h4, h5⟩, ⟨u, h6, h7⟩, h8, h9⟩ hk
    exact ⟨hk b h0 (lt_of_cell h1), h1, h2, h3, ⟨v, h4, h5.imp hk⟩, ⟨u, h6, h7.imp hk⟩, h8, ih h9 hk⟩
theorem SlC.keep {L : List Cl} {v : Value} (h : SlC w p v L) (hk : ∀ k, p k → k < w.heap.size → w'.heap[k]? = w.heap[k]?) : SlC w' p v L := by
  obtain ⟨A, c, e, hl, hs⟩ := h
  exact ⟨A, c, e, hl, fun h => by obtain ⟨b, o, e, h⟩ := hs h; exact ⟨b, o, e, h.keep hk⟩⟩
theorem SlC.imp {L : List Cl} {v : Value} (h : SlC w p v L) (hk : ∀ k, p k → k < w.heap.size → q k) : SlC w q v L := by
  obtain ⟨A, c, e, hl, hs⟩ := h
  exact ⟨A, c, e, hl, fun h => by obtain ⟨b, o, e, h⟩ := hs h; exact ⟨b, o, e, h.imp hk⟩⟩
theorem SlC.below {L : List Cl} {v : Value} (h : SlC w p v L) (hb : Below w.heap.size w w') : SlC w' p v L := h.keep fun k _ hk => hb.block k hk
theorem SlC.any {L : List Cl} {v : Value} (h : SlC w p v L) : SlC w (fun _ => True) v L := h.imp fun _ _ _ => trivial
theorem SlC.form {L : List Cl} {v : Value} (h : SlC w p v L) : ∃ A c, v = .slice A L.length c ∧ SlC w p (.slice A L.length c) L := by
  obtain ⟨A, c, rfl, h2⟩ := h
  exact ⟨A, c, rfl, A, c, rfl, h2⟩
theorem SegC.skip {R : List Cl} {b : Nat} : ∀ {D : List Cl} {o : Nat}, SegC w p (D ++ R) b o → SegC w p R b (o + D.length * 6)
  | [], o, h => by simpa using h
  | c :: D, o, ⟨_, _, _, _, _, _, _, h⟩ => by
    have := SegC.skip (R := R) (D := D) h
    rwa [show o + 6 + D.length * 6 = o + (c :: D).length * 6 by simp; omega] at this
theorem SlC.at_ {A : Option Addr} {len c : Nat} {D R : List Cl} (h : SlC w p (.slice A len c) (D ++ R)) (hR : 0 < R.length) : ∃ b o, A = some ⟨b, o, none⟩ ∧ SegC w p R b (o + D.length * 6) := by
  obtain ⟨A', c', e, hl, hs⟩ := h
  cases e
  obtain ⟨b, o, e, h⟩ := hs (by rw [List.length_append]; omega)
  exact ⟨b, o, e, h.skip⟩
end

set_option maxHeartbeats 1000000 in
theorem goodClause_any (c : Cl) (u v : Value) (w : World) (hu : Sl w (fun _ => True) u c.hd) (hv : Sl w (fun _ => True) v c.bd) (h1 : c.hd.nodes < 1048576) (h2 : c.bd.nodes ≤ 1048576) :
    Calls Try.prog 66 #[.agg #[.int .i64 c.k, .int .i64 c.n, .string c.s, u, v, .int .i64 c.vars]] w fun e w' => e = .returned (.bool (cB c)) ∧ Below w.heap.size w w' := by
  obtain ⟨A, d, rfl, hu⟩ := hu.form
  obtain ⟨A', d', rfl, hv⟩ := hv.form
  generalize hr : cB c = rb
  have R := Lib.hid hr
  clear hr
  go_enter Try.func66, Try.ntmps66
  go_wp2_with fail
  have hW0 : Below w.heap.size w (w.alloc (.cells #[.int .i64 c.k, .int .i64 c.n, .string c.s, .slice A c.hd.length d, .slice A' c.bd.length d', .int .i64 c.vars] 57)) := (Below.refl _ _).alloc (Nat.le_refl _) _
  have bA := Plot.new w 57 #[.int .i64 c.k, .int .i64 c.n, .string c.s, .slice A c.hd.length d, .slice A' c.bd.length d', .int .i64 c.vars]
  generalize (w.alloc (.cells #[.int .i64 c.k, .int .i64 c.n, .string c.s, .slice A c.hd.length d, .slice A' c.bd.length d', .int .i64 c.vars] 57)) = W0 at *
  have hu0 := hu.below hW0
  refine (goodQuery_any c.vars c.bd _ W0 (hv.below hW0) h2).mono ?_
  rintro e w1 ⟨rfl, hb1⟩
  have hW1 := hW0.trans (hb1.mono hW0.size)
  have bA1 := bA.below hb1
  have hu1 := hu0.below hb1
  generalize hq : qB c.vars c.bd = qb
  have HQ := Lib.hid hq
  clear hq
  cases qb with
  | false =>
    go_wp2_with fail
    go_ret
    refine ⟨?_, hW1⟩
    rw [← R.out, cB, HQ.out]; rfl
  | true =>
    have p0 := bA1.cell 0
    have p1 := bA1.cell 1
    have p2 := bA1.cell 2
    have p3 := bA1.cell 3
    have p5 := bA1.cell 5
    simp at p0 p1 p2 p3 p5
    go_wp2_with fail
    refine (goodGoal_any c.vars c.k c.n c.s c.hd _ _ hu1 h1).mono ?_
    rintro e w2 ⟨rfl, hb2⟩
    have hW2 := hW1.trans (hb2.mono hW1.size)
    have bA2 := bA1.below hb2
    clear p0 p1 p2 p3 p5
    generalize hg : gB c.vars c.k c.n c.s c.hd = gb
    have HGB := Lib.hid hg
    clear hg
    cases gb with
    | false =>
      go_wp2_with fail
      go_ret
      refine ⟨?_, hW2⟩
      rw [← R.out, cB, HGB.out, Bool.and_false]; rfl
    | true =>
      have p0 := bA2.cell 0
      have p1 := bA2.cell 1
      have p2 := bA2.cell 2
      have p3 := bA2.cell 3
      simp at p0 p1 p2 p3
      go_wp2_with fail
      refine (builtin_any c.k c.n c.s A c.hd.length d _).mono ?_
      rintro e w3 ⟨rfl, hb3⟩
      generalize hbb : builtB c.s.toList c.hd.length = bb
      have HBT := Lib.hid hbb
      clear hbb
      go_wp2_with fail
      go_ret
      refine ⟨?_, hW2.trans (hb3.mono hW2.size)⟩
      rw [← R.out, cB, HQ.out, HGB.out, HBT.out, Bool.true_and]; rfl

end Go.Proofs.Ytdflngjfnpbpmab
