/- HeapsL, HChain, HWay, IntMap, MapM, HRef4: texts that follow one another, laid into one file. -/
import Derived.Test.YtjicoifjgokoiabG5
import Derived.Test.YtjicoifjgokoiabG4
import Derived.Test.YtjicoifjgokoiabG1
import Derived.MapKept
import Derived.Maps.OwnOps
import Derived.Test.YtjicoifjgokoiabG3
namespace Go.Proofs.Ytjicoifjgokoiab
open Go.RowKit
set_option linter.unusedVariables false
set_option linter.unusedSimpArgs false
set_option maxRecDepth 100000
set_option maxHeartbeats 1000000

def hp0L : List HC := [⟨0, 0, eS⟩, ⟨2, 7, eS⟩]
def hp1L : HH := ⟨[⟨0, 0, eS⟩, ⟨2, 7, eS⟩], []⟩
def hp2L : HH := ⟨[⟨0, 1, eS⟩, ⟨2, 7, eS⟩], [0]⟩
theorem heaps_loadL : loadH ⟨[], []⟩ hp0L = (hp1L, 0, 0) := by kernel_rfl
theorem heaps_uniL : unifyH hp1L 0 1 = (hp2L, true, 0) := by kernel_rfl
theorem heaps_lookL : hlook hp2L.cs 0 = 1 := by kernel_rfl
theorem heapsL_any (w : World) : Calls Try.prog 15 #[] w fun e w' => e = .returned (.bool true) ∧ Below w.heap.size w w' := by
  have hS := St.start w
  refine goes_enter0 Try.func15 rfl Try.ntmps15 rfl ?_
  refine goes_seq ?_
  refine goes_region ?_
  refine lst_run (run_assign (by conv => lhs; whnf)) rfl ?_
  refine lst_done ?_
  refine goes_seq ?_
  refine goes_region ?_
  refine lst_run (run_build (cells := [_, _]) .nil rfl) rfl ?_
  refine lst_run (run_build (cells := [_, _, _]) .nil rfl) rfl ?_
  refine lst_run (run_build (cells := [_, _, _]) (.cons (by conv => lhs; whnf) (.cons (by conv => lhs; whnf) .nil)) rfl) rfl ?_
  refine lst_buildSlice (cells := [_, _, _, _, _, _]) hS (.cons (by conv => lhs; whnf) (.cons (by conv => lhs; whnf) .nil)) rfl rfl ?_
  clear hS
  intro b1 wx1 hS
  replace hS := St.freezeG (L := hp0L) (sp := []) (c := 2) hS (by decide)
  have hz : Und [Flat 3 (hcsL hp0L) (some ⟨b1, 0, none⟩) hp0L.length 2] (HFl ⟨[], []⟩ none 0 none 0) := fun w' _ => ⟨Flat.nil_ _ _ _, Flat.nil_ _ _ _⟩
  have hl := load_any (M := []) (w0 := w) (H := []) ⟨[], []⟩ hp0L none none (some ⟨b1, 0, none⟩) 0 0 2 _ hz Und.head hS
  rw [heaps_loadL] at hl
  refine lst_enter (run_call (by kernel_rfl) (args_2 (by conv => lhs; whnf) (by conv => lhs; whnf))) rfl ?_
  refine Calls.mono (hl) ?_
  rintro _ w2 ⟨A2, c2, B2, d2, F2, rfl, hF2, hH2, hS'⟩
  refine ⟨_, rfl, ?_⟩
  replace hS := hS'
  clear hS'
  refine lst_run (run_move (by conv => lhs; whnf)) rfl ?_
  refine lst_run (run_extract rfl rfl) rfl ?_
  refine lst_run (run_extract rfl rfl) rfl ?_
  refine lst_run (run_extract rfl rfl) rfl ?_
  refine lst_alloc (cs := [_, _]) hS rfl rfl rfl ?_
  clear hS
  intro b2 wx2 hS
  refine lst_storeN hS rfl (by conv => lhs; whnf) rfl rfl (by first | exact .head | exact .tail .head | exact .tail (.tail .head) | exact .tail (.tail (.tail .head)) | exact .tail (.tail (.tail (.tail .head))) | exact .tail (.tail (.tail (.tail (.tail .head))))) (by repeat constructor) (by first | exact .head | exact .tail .head | exact .tail (.tail .head) | exact .tail (.tail (.tail .head)) | exact .tail (.tail (.tail (.tail .head))) | exact .tail (.tail (.tail (.tail (.tail .head))))) ?_
  clear hS
  intro wx3 hS
  refine lst_run (run_assign (by conv => lhs; whnf)) rfl ?_
  refine lst_run (run_assign (by conv => lhs; whnf)) rfl ?_
  refine lst_done ?_
  refine goes_seq ?_
  refine goes_region ?_
  first
    | refine lst_run (run_loadN_own (k := 2) hS rfl rfl rfl (by first | exact .head | exact .tail .head | exact .tail (.tail .head) | exact .tail (.tail (.tail .head)) | exact .tail (.tail (.tail (.tail .head))) | exact .tail (.tail (.tail (.tail (.tail .head))))) (by repeat constructor)) rfl ?_
    | refine lst_run (run_load2 rfl rfl rfl (by first | assumption | exact hS.cell0 (by assumption)) (by first | assumption | exact hS.cell0 (by assumption))) rfl ?_
  have hu := unify_any (M := []) (w0 := w) (F := F2) hp1L 0 1 A2 B2 c2 d2 _ hH2 hS
  rw [heaps_uniL] at hu
  refine lst_enter (run_call (by kernel_rfl) (args_3 (by conv => lhs; whnf) (by conv => lhs; whnf) (by conv => lhs; whnf))) rfl ?_
  refine Calls.mono (hu) ?_
  rintro _ w3 ⟨A3, c3, B3, d3, F3, rfl, hF3, hH3, hS'⟩
  refine ⟨_, rfl, ?_⟩
  replace hS := hS'
  clear hS'
  refine lst_run (run_move (by conv => lhs; whnf)) rfl ?_
  refine lst_run (run_extract rfl rfl) rfl ?_
  refine lst_run (run_extract rfl rfl) rfl ?_
  refine lst_run (run_extract rfl rfl) rfl ?_
  refine lst_alloc (cs := [_, _]) hS rfl rfl rfl ?_
  clear hS
  intro b3 wx4 hS
  refine lst_storeN hS rfl (by conv => lhs; whnf) rfl rfl (by first | exact .head | exact .tail .head | exact .tail (.tail .head) | exact .tail (.tail (.tail .head)) | exact .tail (.tail (.tail (.tail .head))) | exact .tail (.tail (.tail (.tail (.tail .head))))) (by repeat constructor) (by first | exact .head | exact .tail .head | exact .tail (.tail .head) | exact .tail (.tail (.tail .head)) | exact .tail (.tail (.tail (.tail .head))) | exact .tail (.tail (.tail (.tail (.tail .head))))) ?_
  clear hS
  intro wx5 hS
  refine lst_run (run_assign (by conv => lhs; whnf)) rfl ?_
  refine lst_run (run_assign (by conv => lhs; whnf)) rfl ?_
  refine lst_done ?_
  refine goes_seq ?_
  refine goes_region ?_
  refine lst_run (run_move (by conv => lhs; whnf)) rfl ?_
  first
    | refine lst_run (run_eql_one_int rfl rfl) rfl ?_
    | refine lst_run (run_eql_no rfl rfl (by first | assumption | omega)) rfl ?_
    | refine lst_run (run_eql_yes rfl rfl (by omega)) rfl ?_
    | refine lst_run (rfl) rfl ?_
  refine lst_run (run_move (by conv => lhs; whnf)) rfl ?_
  refine lst_guard rfl rfl ?_
  refine lst_run (run_move (by conv => lhs; whnf)) rfl ?_
  refine lst_guard rfl rfl ?_
  first
    | refine lst_run (run_eql_one_int rfl rfl) rfl ?_
    | refine lst_run (run_eql_no rfl rfl (by first | assumption | omega)) rfl ?_
    | refine lst_run (run_eql_yes rfl rfl (by omega)) rfl ?_
    | refine lst_run (rfl) rfl ?_
  first
    | refine lst_run (run_pick_t rfl (by conv => lhs; whnf)) rfl ?_
    | refine lst_run (run_pick_f rfl (by conv => lhs; whnf)) rfl ?_
  refine lst_run (run_move (by conv => lhs; whnf)) rfl ?_
  refine lst_guard rfl rfl ?_
  refine lst_run (run_move (by conv => lhs; whnf)) rfl ?_
  first
    | refine lst_run (run_pick_t rfl (by conv => lhs; whnf)) rfl ?_
    | refine lst_run (run_pick_f rfl (by conv => lhs; whnf)) rfl ?_
  refine lst_run (run_move (by conv => lhs; whnf)) rfl ?_
  refine lst_guard rfl rfl ?_
  refine lst_run (run_move (by conv => lhs; whnf)) rfl ?_
  refine lst_guard rfl rfl ?_
  first
    | refine lst_run (run_eql_one_int rfl rfl) rfl ?_
    | refine lst_run (run_eql_no rfl rfl (by first | assumption | omega)) rfl ?_
    | refine lst_run (run_eql_yes rfl rfl (by omega)) rfl ?_
    | refine lst_run (rfl) rfl ?_
  first
    | refine lst_run (run_pick_t rfl (by conv => lhs; whnf)) rfl ?_
    | refine lst_run (run_pick_f rfl (by conv => lhs; whnf)) rfl ?_
  refine lst_run (run_move (by conv => lhs; whnf)) rfl ?_
  refine lst_guard rfl rfl ?_
  refine lst_run (run_fieldAddr (off := 1) rfl rfl) rfl ?_
  refine lst_guard rfl rfl ?_
  first
    | refine lst_run (run_load1_own hS rfl rfl (by first | exact .head | exact .tail .head | exact .tail (.tail .head) | exact .tail (.tail (.tail .head)) | exact .tail (.tail (.tail (.tail .head))) | exact .tail (.tail (.tail (.tail (.tail .head))))) (by repeat constructor)) rfl ?_
    | refine lst_run (run_load1 rfl rfl (by first | assumption | exact hS.cell0 (by assumption) | exact lv_next hS | exact lv_list hS)) rfl ?_
  refine lst_guard rfl rfl ?_
  refine lst_run (run_len_slice rfl rfl rfl) rfl ?_
  refine lst_guard rfl rfl ?_
  first
    | refine lst_run (run_eql_one_int rfl rfl) rfl ?_
    | refine lst_run (run_eql_no rfl rfl (by first | assumption | omega)) rfl ?_
    | refine lst_run (run_eql_yes rfl rfl (by omega)) rfl ?_
    | refine lst_run (rfl) rfl ?_
  first
    | refine lst_run (run_pick_t rfl (by conv => lhs; whnf)) rfl ?_
    | refine lst_run (run_pick_f rfl (by conv => lhs; whnf)) rfl ?_
  refine lst_run (run_move (by conv => lhs; whnf)) rfl ?_
  refine lst_guard rfl rfl ?_
  first
    | refine lst_run (run_loadN_own (k := 2) hS rfl rfl rfl (by first | exact .head | exact .tail .head | exact .tail (.tail .head) | exact .tail (.tail (.tail .head)) | exact .tail (.tail (.tail (.tail .head))) | exact .tail (.tail (.tail (.tail (.tail .head))))) (by repeat constructor)) rfl ?_
    | refine lst_run (run_load2 rfl rfl rfl (by first | assumption | exact hS.cell0 (by assumption)) (by first | assumption | exact hS.cell0 (by assumption))) rfl ?_
  refine lst_guard rfl rfl ?_
  have hk := look_any hp2L.cs A3 B3 c3 hp2L.tr.length d3 0 _ (hS.und hH3).1 (by decide)
  rw [heaps_lookL] at hk
  refine lst_enter (run_call (by kernel_rfl) (args_2 (by conv => lhs; whnf) (by conv => lhs; whnf))) rfl ?_
  refine Calls.mono (hk) ?_
  rintro _ w4 ⟨rfl, hb4⟩
  refine ⟨_, rfl, ?_⟩
  replace hS := hS.grow hb4
  refine lst_guard rfl rfl ?_
  first
    | refine lst_run (run_eql_one_int rfl rfl) rfl ?_
    | refine lst_run (run_eql_no rfl rfl (by first | assumption | omega)) rfl ?_
    | refine lst_run (run_eql_yes rfl rfl (by omega)) rfl ?_
    | refine lst_run (rfl) rfl ?_
  first
    | refine lst_run (run_pick_t rfl (by conv => lhs; whnf)) rfl ?_
    | refine lst_run (run_pick_f rfl (by conv => lhs; whnf)) rfl ?_
  refine lst_run (run_assign (by conv => lhs; whnf)) rfl ?_
  refine lst_done ?_
  refine goes_ret1 Try.func15 rfl (by conv => lhs; whnf) ?_
  exact ⟨rfl, hS.ext.below⟩
end Go.Proofs.Ytjicoifjgokoiab
namespace Go.Proofs.Ytjicoifjgokoiab
open Go.RowKit
set_option linter.unusedVariables false
set_option linter.unusedSimpArgs false

/-- From a, over n Refs, one comes to x, and there is no further way. -/
inductive EndsN (L : List HC) : Nat → Int → Int → Prop
  | here {a : Int} {c : HC} : hat L a = some c → ¬ (c.k = 0 ∧ c.n ≠ a) → EndsN L 0 a a
  | there {n : Nat} {a x : Int} {c : HC} : hat L a = some c → c.k = 0 → c.n ≠ a → EndsN L n c.n x → EndsN L (n + 1) a x
def End (L : List HC) (a x : Int) : Prop := ∃ n, EndsN L n a x
theorem EndsN.det {L : List HC} {n m : Nat} {a x y : Int} (h : EndsN L n a x) : EndsN L m a y → n = m ∧ x = y := by
  induction h generalizing m with
  | here h0 h1 =>
    intro g
    cases g with
    | here g0 g1 => exact ⟨rfl, rfl⟩
    | there g0 g1 g2 _ => rw [h0] at g0; cases g0; exact absurd ⟨g1, g2⟩ h1
  | there h0 h1 h2 _ ih =>
    intro g
    cases g with
    | here g0 g1 => rw [h0] at g0; cases g0; exact absurd ⟨h1, h2⟩ g1
    | there g0 g1 g2 g3 =>
      rw [h0] at g0; cases g0
      obtain ⟨e1, e2⟩ := ih g3
      exact ⟨by omega, e2⟩
theorem End.det {L : List HC} {a x y : Int} (h : End L a x) (g : End L a y) : x = y := by
  obtain ⟨_, h⟩ := h
  obtain ⟨_, g⟩ := g
  exact (h.det g).2
theorem EndsN.last {L : List HC} {n : Nat} {a x : Int} (h : EndsN L n a x) : ∃ c, hat L x = some c ∧ ¬ (c.k = 0 ∧ c.n ≠ x) := by
  induction h with
  | here h0 h1 => exact ⟨_, h0, h1⟩
  | there _ _ _ _ ih => exact ih
theorem End.last {L : List HC} {a x : Int} (h : End L a x) : ∃ c, hat L x = some c ∧ ¬ (c.k = 0 ∧ c.n ≠ x) := by
  obtain ⟨_, h⟩ := h; exact h.last
theorem End.self {L : List HC} {a x : Int} (h : End L a x) : End L x x := by
  obtain ⟨c, h0, h1⟩ := h.last
  exact ⟨0, .here h0 h1⟩
theorem End.of_nonvar {L : List HC} {x : Int} {c : HC} (h : hat L x = some c) (hk : c.k ≠ 0) : End L x x := ⟨0, .here h fun e => hk e.1⟩
theorem End.first {L : List HC} {a x : Int} (h : End L a x) : ∃ c, hat L a = some c := by
  obtain ⟨_, h⟩ := h
  cases h with
  | here h0 _ => exact ⟨_, h0⟩
  | there h0 _ _ _ => exact ⟨_, h0⟩
/-- A list of different numbers below n has at most n. -/
theorem nodup_len : ∀ (n : Nat) (l : List Nat), l.Nodup → (∀ y ∈ l, y < n) → l.length ≤ n
  | 0, l, _, h => by
    cases l with
    | nil => simp
    | cons y l => exact absurd (h y (by simp)) (by omega)
  | n + 1, l, hn, h => by
    by_cases hm : n ∈ l
    · have h1 := nodup_len n (l.erase n) (hn.erase n) fun y hy => by
        have h2 := (hn.mem_erase_iff).1 hy
        have h3 := h y h2.2
        have h4 := h2.1
        omega
      rw [List.length_erase_of_mem hm] at h1
      omega
    · have := nodup_len n l hn fun y hy => by
        have h3 := h y hy
        have h4 : y ≠ n := fun e => hm (e ▸ hy)
        omega
      omega
theorem EndsN.list {L : List HC} {n : Nat} {a x : Int} (h : EndsN L n a x) : ∃ l : List Nat, l.length = n + 1 ∧ l.Nodup ∧ (∀ y ∈ l, y < L.length) ∧ ∀ y ∈ l, ∃ j, j ≤ n ∧ EndsN L j (y : Int) x := by
  induction h with
  | @here a c h0 h1 =>
    obtain ⟨g0, g1, _⟩ := hatS.1 h0
    refine ⟨[a.toNat], rfl, by simp, fun y hy => ?_, fun y hy => ⟨0, Nat.le_refl _, ?_⟩⟩
    · simp at hy; omega
    · simp at hy
      rw [show ((y : Nat) : Int) = a by omega]
      exact .here h0 h1
  | @there n a x c h0 h1 h2 h3 ih =>
    obtain ⟨g0, g1, _⟩ := hatS.1 h0
    obtain ⟨l, l1, l2, l3, l4⟩ := ih
    have ha : ((a.toNat : Nat) : Int) = a := by omega
    refine ⟨a.toNat :: l, by simp [l1], List.nodup_cons.2 ⟨fun hm => ?_, l2⟩, fun y hy => ?_, fun y hy => ?_⟩
    · obtain ⟨j, hj, he⟩ := l4 _ hm
      rw [ha] at he
      have := (he.det (.there h0 h1 h2 h3)).1
      omega
    · rcases List.mem_cons.1 hy with rfl | hy
      · omega
      · exact l3 y hy
    · rcases List.mem_cons.1 hy with rfl | hy
      · rw [ha]; exact ⟨n + 1, Nat.le_refl _, .there h0 h1 h2 h3⟩
      · obtain ⟨j, hj, he⟩ := l4 y hy
        exact ⟨j, by omega, he⟩
theorem EndsN.lt {L : List HC} {n : Nat} {a x : Int} (h : EndsN L n a x) : n < L.length := by
  obtain ⟨l, l1, l2, l3, _⟩ := h.list
  have := nodup_len L.length l l2 l3
  omega
theorem hlookF_of {L : List HC} {n : Nat} {a x : Int} (h : EndsN L n a x) : ∀ f, n < f → hlookF L f a = x := by
  induction h with
  | here h0 h1 =>
    intro f hf
    obtain ⟨f, rfl⟩ : ∃ g, f = g + 1 := ⟨f - 1, by omega⟩
    simp only [hlookF, h0, if_neg h1]
  | there h0 h1 h2 _ ih =>
    intro f hf
    obtain ⟨f, rfl⟩ : ∃ g, f = g + 1 := ⟨f - 1, by omega⟩
    simp only [hlookF, h0, if_pos (And.intro h1 h2)]
    exact ih f (by omega)
theorem end_of_hlookF {L : List HC} : ∀ (f : Nat) (a : Int), ¬ hlookF L f a < 0 → ∃ n, EndsN L n a (hlookF L f a)
  | 0, a, h => absurd (show hlookF L 0 a < 0 by simp [hlookF]) h
  | f + 1, a, h => by
    cases hc : hat L a with
    | none => simp only [hlookF, hc] at h; exact absurd (by decide) h
    | some c =>
      by_cases hb : c.k = 0 ∧ c.n ≠ a
      · simp only [hlookF, hc, if_pos hb] at h ⊢
        obtain ⟨n, hn⟩ := end_of_hlookF f c.n h
        exact ⟨n + 1, .there hc hb.1 hb.2 hn⟩
      · simp only [hlookF, hc, if_neg hb]
        exact ⟨0, .here hc hb⟩
theorem End.look {L : List HC} {a x : Int} (h : End L a x) : hlook L a = x := by
  obtain ⟨n, h⟩ := h
  exact hlookF_of h _ h.lt
theorem end_look {L : List HC} {a : Int} (h : ¬ hlook L a < 0) : End L a (hlook L a) := end_of_hlookF _ _ h
theorem End.nonneg {L : List HC} {a x : Int} (h : End L a x) : 0 ≤ x := by
  obtain ⟨c, h0, _⟩ := h.last; exact (hatS.1 h0).1
theorem hlook_none {L : List HC} {a : Int} (h : ¬ ∃ x, End L a x) : hlook L a = -1 := by
  rcases hlookF_end (L := L) L.length a with h1 | ⟨c, h1, _⟩
  · exact h1
  · refine absurd ⟨hlook L a, end_look ?_⟩ h
    have := (hatS.1 h1).1
    unfold hlook; omega
/-- A cell's number set: what is there then. -/
theorem hat_setN {L : List HC} {r : Int} {c : HC} (hr : hat L r = some c) (y a : Int) : hat (setN L r.toNat y) a = if a = r then some ⟨c.k, y, c.s⟩ else hat L a := by
  obtain ⟨r0, r1, r2⟩ := hatS.1 hr
  unfold hat
  by_cases ha : 0 ≤ a
  · rw [if_pos ha, if_pos ha, setN_get]
    by_cases he : a = r
    · rw [if_pos he, if_pos (by rw [he]), he, r2]; rfl
    · rw [if_neg he, if_neg (by omega)]
  · rw [if_neg ha, if_neg ha, if_neg (by omega)]
/-- What more bindings leave. -/
structure Up (L L' : List HC) : Prop where
  ends : ∀ a x, End L a x → ∃ y, End L' a y ∧ End L' x y
  cell : ∀ a c, hat L a = some c → c.k ≠ 0 → hat L' a = some c
theorem Up.refl (L : List HC) : Up L L := ⟨fun a x h => ⟨x, h, h.self⟩, fun _ _ h _ => h⟩
theorem Up.trans {L L' L'' : List HC} (h : Up L L') (g : Up L' L'') : Up L L'' := by
  refine ⟨fun a x hx => ?_, fun a c hc hk => g.cell a c (h.cell a c hc hk) hk⟩
  obtain ⟨y, h1, h2⟩ := h.ends a x hx
  obtain ⟨z, g1, g2⟩ := g.ends a y h1
  obtain ⟨z', g3, g4⟩ := g.ends x y h2
  have := g2.det g4
  subst this
  exact ⟨z, g1, g3⟩
theorem Up.nonvar {L L' : List HC} (h : Up L L') {a x : Int} {c : HC} (ha : End L a x) (hx : hat L x = some c) (hk : c.k ≠ 0) : End L' a x := by
  obtain ⟨y, h1, h2⟩ := h.ends a x ha
  have := h2.det (End.of_nonvar (h.cell x c hx hk) hk)
  subst this; exact h1
/-- A variable bound to what ends elsewhere. -/
theorem end_bind {L : List HC} {r y : Int} {c : HC} (hr : hat L r = some c) (hk : c.k = 0) (hn : c.n = r) (hy : End L y y) (hne : y ≠ r) :
    (∀ a x, End L a x → x ≠ r → End (setN L r.toNat y) a x) ∧ (∀ a, End L a r → End (setN L r.toNat y) a y) := by
  have hyy : End (setN L r.toNat y) y y := by
    obtain ⟨d, d0, d1⟩ := hy.last
    exact ⟨0, .here (by rw [hat_setN hr, if_neg hne]; exact d0) d1⟩
  have key : ∀ n a x, EndsN L n a x → End (setN L r.toNat y) a (if x = r then y else x) := by
    intro n a x h
    induction h with
    | @here a d h0 h1 =>
      by_cases ha : a = r
      · rw [if_pos ha]
        obtain ⟨m, hm⟩ := hyy
        exact ⟨m + 1, .there (c := ⟨c.k, y, c.s⟩) (by rw [hat_setN hr, if_pos ha]) hk (by rw [ha]; exact hne) hm⟩
      · rw [if_neg ha]
        exact ⟨0, .here (by rw [hat_setN hr, if_neg ha]; exact h0) h1⟩
    | @there n a x d h0 h1 h2 _ ih =>
      have ha : a ≠ r := fun e => by
        rw [e, hr] at h0; cases h0
        rw [e] at h2; exact h2 hn
      obtain ⟨m, hm⟩ := ih
      exact ⟨m + 1, .there (by rw [hat_setN hr, if_neg ha]; exact h0) h1 h2 hm⟩
  refine ⟨fun a x ⟨n, h⟩ hx => ?_, fun a ⟨n, h⟩ => ?_⟩
  · have := key n a x h; rwa [if_neg hx] at this
  · have := key n a r h; rwa [if_pos rfl] at this
theorem up_bind {L : List HC} {r y : Int} {c : HC} (hr : hat L r = some c) (hk : c.k = 0) (hn : c.n = r) (hy : End L y y) (hne : y ≠ r) : Up L (setN L r.toNat y) := by
  obtain ⟨h1, h2⟩ := end_bind hr hk hn hy hne
  refine ⟨fun a x hx => ?_, fun a d hd hdk => ?_⟩
  · by_cases he : x = r
    · subst he; exact ⟨y, h2 a hx, h2 _ hx.self⟩
    · exact ⟨x, h1 a x hx he, h1 x x hx.self he⟩
  · rw [hat_setN hr, if_neg]
    · exact hd
    · intro e; rw [e, hr] at hd; cases hd; exact hdk hk
/-- A relation between places under which ends are the same, or cells are, with their arguments. -/
def Bis (L : List HC) (R : Int → Int → Prop) : Prop := ∀ a b, R a b → a = b ∨ ∃ x y, End L a x ∧ End L b y ∧ (x = y ∨ ∃ c, hat L x = some c ∧ hat L y = some c ∧ c.k ≠ 0 ∧ ∀ i : Int, 0 ≤ i → i < argsC c → R (x + 1 + i) (y + 1 + i))
/-- Two places that are one. -/
def Sm (L : List HC) (a b : Int) : Prop := ∃ R, Bis L R ∧ R a b
theorem Sm.ends {L : List HC} {a b : Int} (h : Sm L a b) : a = b ∨ ∃ x y, End L a x ∧ End L b y ∧ (x = y ∨ ∃ c, hat L x = some c ∧ hat L y = some c ∧ c.k ≠ 0 ∧ ∀ i : Int, 0 ≤ i → i < argsC c → Sm L (x + 1 + i) (y + 1 + i)) := by
  obtain ⟨R, hR, hab⟩ := h
  rcases hR a b hab with e | ⟨x, y, hx, hy, e | ⟨c, h1, h2, h3, h4⟩⟩
  · exact .inl e
  · exact .inr ⟨x, y, hx, hy, .inl e⟩
  · exact .inr ⟨x, y, hx, hy, .inr ⟨c, h1, h2, h3, fun i i0 i1 => ⟨R, hR, h4 i i0 i1⟩⟩⟩
theorem Sm.step {L : List HC} {a b : Int} (h : Sm L a b) {x y : Int} (hx : End L a x) (hy : End L b y) : x = y ∨ ∃ c, hat L x = some c ∧ hat L y = some c ∧ c.k ≠ 0 ∧ ∀ i : Int, 0 ≤ i → i < argsC c → Sm L (x + 1 + i) (y + 1 + i) := by
  rcases h.ends with e | ⟨x', y', hx', hy', e⟩
  · subst e; exact .inl (hx.det hy)
  · have e1 := hx.det hx'
    have e2 := hy.det hy'
    subst e1 e2; exact e
theorem Sm.of {L : List HC} {a b x y : Int} (hx : End L a x) (hy : End L b y) (h : x = y ∨ ∃ c, hat L x = some c ∧ hat L y = some c ∧ c.k ≠ 0 ∧ ∀ i : Int, 0 ≤ i → i < argsC c → Sm L (x + 1 + i) (y + 1 + i)) : Sm L a b := by
  refine ⟨fun p q => Sm L p q ∨ (p = a ∧ q = b), fun p q hpq => ?_, .inr ⟨rfl, rfl⟩⟩
  have : p = q ∨ ∃ x y, End L p x ∧ End L q y ∧ (x = y ∨ ∃ c, hat L x = some c ∧ hat L y = some c ∧ c.k ≠ 0 ∧ ∀ i : Int, 0 ≤ i → i < argsC c → Sm L (x + 1 + i) (y + 1 + i)) := by
    rcases hpq with h1 | ⟨rfl, rfl⟩
    · exact h1.ends
    · exact .inr ⟨x, y, hx, hy, h⟩
  rcases this with e | ⟨x, y, hx, hy, e | ⟨c, h1, h2, h3, h4⟩⟩
  · exact .inl e
  · exact .inr ⟨x, y, hx, hy, .inl e⟩
  · exact .inr ⟨x, y, hx, hy, .inr ⟨c, h1, h2, h3, fun i i0 i1 => .inl (h4 i i0 i1)⟩⟩
theorem Sm.refl (L : List HC) (a : Int) : Sm L a a := ⟨fun p q => p = q, fun p q e => .inl e, rfl⟩
theorem Sm.symm {L : List HC} {a b : Int} (h : Sm L a b) : Sm L b a := by
  obtain ⟨R, hR, hab⟩ := h
  refine ⟨fun p q => R q p, fun p q hpq => ?_, hab⟩
  rcases hR q p hpq with e | ⟨x, y, hx, hy, e | ⟨c, h1, h2, h3, h4⟩⟩
  · exact .inl e.symm
  · exact .inr ⟨y, x, hy, hx, .inl e.symm⟩
  · exact .inr ⟨y, x, hy, hx, .inr ⟨c, h2, h1, h3, h4⟩⟩
theorem Sm.meet {L : List HC} {a b x : Int} (ha : End L a x) (hb : End L b x) : Sm L a b := Sm.of ha hb (.inl rfl)
end Go.Proofs.Ytjicoifjgokoiab
namespace Go.Proofs.Ytjicoifjgokoiab
open Go.RowKit
set_option linter.unusedVariables false
set_option linter.unusedSimpArgs false

/-- From a one comes to b, over n Refs. -/
inductive WayN (L : List HC) : Nat → Int → Int → Prop
  | refl {a : Int} : WayN L 0 a a
  | step {n : Nat} {a b : Int} {c : HC} : hat L a = some c → c.k = 0 → c.n ≠ a → WayN L n c.n b → WayN L (n + 1) a b
theorem WayN.trans {L : List HC} {n m : Nat} {a b c : Int} (h : WayN L n a b) (g : WayN L m b c) : WayN L (n + m) a c := by
  induction h with
  | refl => rw [Nat.zero_add]; exact g
  | @step n a b d h1 h2 h3 h4 ih => rw [show n + 1 + m = (n + m) + 1 by omega]; exact .step h1 h2 h3 (ih g)
theorem WayN.ends {L : List HC} {n : Nat} {a b : Int} (h : WayN L n a b) {x : Int} : End L a x ↔ End L b x := by
  induction h with
  | refl => exact Iff.rfl
  | step h1 h2 h3 h4 ih =>
    rw [← ih]
    constructor
    · rintro ⟨m, hm⟩
      cases hm with
      | here g0 g1 => rw [h1] at g0; cases g0; exact absurd ⟨h2, h3⟩ g1
      | there g0 g1 g2 g3 => rw [h1] at g0; cases g0; exact ⟨_, g3⟩
    · rintro ⟨m, hm⟩; exact ⟨m + 1, .there h1 h2 h3 hm⟩
theorem WayN.look {L : List HC} {n : Nat} {a b : Int} (h : WayN L n a b) : hlook L a = hlook L b := by
  by_cases he : ∃ x, End L b x
  · obtain ⟨x, hx⟩ := he
    rw [hx.look, (h.ends.2 hx).look]
  · rw [hlook_none he, hlook_none fun ⟨x, hx⟩ => he ⟨x, h.ends.1 hx⟩]
theorem WayN.endsN {L : List HC} {n m : Nat} {a b x : Int} (h : WayN L n a b) (g : EndsN L m b x) : EndsN L (n + m) a x := by
  induction h with
  | refl => rw [Nat.zero_add]; exact g
  | @step n a b d h1 h2 h3 h4 ih => rw [show n + 1 + m = (n + m) + 1 by omega]; exact .there h1 h2 h3 (ih g)
/-- A way round has no end. -/
theorem WayN.round {L : List HC} {n : Nat} {a : Int} (h : WayN L (n + 1) a a) : hlook L a = -1 := by
  refine hlook_none fun ⟨x, m, hm⟩ => ?_
  have := ((h.endsN hm).det hm).1
  omega
theorem hlook_self {L : List HC} {a : Int} {c : HC} (h : hat L a = some c) (hb : ¬ (c.k = 0 ∧ c.n ≠ a)) : hlook L a = a := End.look ⟨0, .here h hb⟩
/-- What is noted of places. -/
def PInv (L : List HC) (P : List Int) : Prop := P.length = L.length ∧ ∀ (i : Nat) (v : Int), P[i]? = some v → v = -2 ∨ v = hlook L (i : Int)
/-- On the way from a, now at e. -/
def PMid (L : List HC) (P : List Int) (a e : Int) : Prop := P.length = L.length ∧ (∃ n, WayN L n a e) ∧ ∀ (i : Nat) (v : Int), P[i]? = some v → v = -2 ∨ v = hlook L (i : Int) ∨ (v = -1 ∧ (∃ n, WayN L n a (i : Int)) ∧ ∃ n, WayN L (n + 1) (i : Int) e)
theorem PInv.mid {L : List HC} {P : List Int} (h : PInv L P) (a : Int) : PMid L P a a := ⟨h.1, ⟨0, .refl⟩, fun i v hv => (h.2 i v hv).imp id .inl⟩
/-- One step on. -/
theorem PMid.next {L : List HC} {P : List Int} {a e : Int} {c : HC} (h : PMid L P a e) (he : hat L e = some c) (hk : c.k = 0) (hn : c.n ≠ e) : PMid L (P.set e.toNat (-1)) a c.n := by
  obtain ⟨n, hw⟩ := h.2.1
  have h1 : WayN L 1 e c.n := .step he hk hn .refl
  refine ⟨by rw [List.length_set]; exact h.1, ⟨n + 1, hw.trans h1⟩, fun i v hv => ?_⟩
  rw [List.getElem?_set] at hv
  split at hv
  · rename_i hi
    split at hv
    · simp only [Option.some.injEq] at hv
      have e0 := (hatS.1 he).1
      rw [show ((i : Nat) : Int) = e by omega]
      exact .inr (.inr ⟨hv.symm, ⟨n, hw⟩, 0, h1⟩)
    · cases hv
  · rcases h.2.2 i v hv with h2 | h2 | ⟨h2, h3, m, h4⟩
    · exact .inl h2
    · exact .inr (.inl h2)
    · exact .inr (.inr ⟨h2, h3, m + 1, h4.trans h1⟩)
/-- Something is noted there. -/
theorem PMid.known {L : List HC} {P : List Int} {a e : Int} {v : Int} (h : PMid L P a e) (e0 : 0 ≤ e) (hv : P[e.toNat]? = some v) (hne : v ≠ -2) : v = hlook L a := by
  obtain ⟨n, hw⟩ := h.2.1
  rw [hw.look]
  have ee : ((e.toNat : Nat) : Int) = e := by omega
  rcases h.2.2 e.toNat v hv with h2 | h2 | ⟨h2, _, m, h4⟩
  · exact absurd h2 hne
  · rw [ee] at h2; exact h2
  · rw [ee] at h4; rw [h4.round]; exact h2
/-- It leads nowhere: all that is on the way is told. -/
theorem PMid.nowhere {L : List HC} {P : List Int} {a e : Int} (h : PMid L P a e) (hn : hlook L a < 0) : PInv L P := by
  obtain ⟨n, hw⟩ := h.2.1
  have hm : hlook L a = -1 := by
    rcases hlookF_end (L := L) L.length a with h1 | ⟨c, h1, _⟩
    · exact h1
    · have := (hatS.1 h1).1; unfold hlook at hn; omega
  refine ⟨h.1, fun i v hv => ?_⟩
  rcases h.2.2 i v hv with h2 | h2 | ⟨h2, ⟨m, h3⟩, _⟩
  · exact .inl h2
  · exact .inr h2
  · right; rw [h2, ← h3.look, hm]
/-- The end is told. -/
theorem PMid.told {L : List HC} {P : List Int} {a e : Int} {c : HC} (h : PMid L P a e) (he : hat L e = some c) (hb : ¬ (c.k = 0 ∧ c.n ≠ e)) : PMid L (P.set e.toNat e) a e := by
  refine ⟨by rw [List.length_set]; exact h.1, h.2.1, fun i v hv => ?_⟩
  rw [List.getElem?_set] at hv
  split at hv
  · rename_i hi
    split at hv
    · simp only [Option.some.injEq] at hv
      have e0 := (hatS.1 he).1
      rw [show ((i : Nat) : Int) = e by omega]
      exact .inr (.inl (by rw [hlook_self he hb]; exact hv.symm))
    · cases hv
  · exact h.2.2 i v hv
/-- From a on to e is left to tell. -/
theorem PMid.fin {L : List HC} {P : List Int} {e : Int} (h : PMid L P e e) (hn : ¬ hlook L e < 0) : PInv L P := by
  refine ⟨h.1, fun i v hv => ?_⟩
  rcases h.2.2 i v hv with h2 | h2 | ⟨h2, ⟨m, h3⟩, k, h4⟩
  · exact .inl h2
  · exact .inr h2
  · have := (h3.trans h4)
    rw [show m + (k + 1) = (m + k) + 1 by omega] at this
    rw [this.round] at hn; exact absurd (by decide) hn
theorem PMid.tell {L : List HC} {P : List Int} {a e : Int} {c : HC} (h : PMid L P a e) (hne : a ≠ e) (ha : hat L a = some c) : c.k = 0 ∧ c.n ≠ a ∧ PMid L (P.set a.toNat (hlook L a)) c.n e := by
  obtain ⟨n, hw⟩ := h.2.1
  cases hw with
  | refl => exact absurd rfl hne
  | step h1 h2 h3 h4 =>
    rw [ha] at h1; cases h1
    refine ⟨h2, h3, by rw [List.length_set]; exact h.1, ⟨_, h4⟩, fun i v hv => ?_⟩
    have a0 := (hatS.1 ha).1
    rw [List.getElem?_set] at hv
    split at hv
    · rename_i hi
      split at hv
      · simp only [Option.some.injEq] at hv
        rw [show ((i : Nat) : Int) = a by omega]
        exact .inr (.inl hv.symm)
      · cases hv
    · rename_i hi
      rcases h.2.2 i v hv with g | g | ⟨g, ⟨m, g3⟩, k, g4⟩
      · exact .inl g
      · exact .inr (.inl g)
      · refine .inr (.inr ⟨g, ?_, k, g4⟩)
        cases g3 with
        | refl => omega
        | step q1 q2 q3 q4 => rw [ha] at q1; cases q1; exact ⟨_, q4⟩
theorem WayN.det {L : List HC} {n m : Nat} {a e : Int} (h : WayN L n a e) (g : WayN L m a e) (hn : ¬ hlook L a < 0) : n = m := by
  obtain ⟨k, hk⟩ := end_look (h.look ▸ hn)
  have h1 := h.endsN hk
  have h2 := g.endsN hk
  have := (h1.det h2).1
  omega
theorem count_set {P : List Int} {i : Nat} {x : Int} (hi : P[i]? = some (-2)) (hx : x ≠ -2) : (P.set i x).count (-2) < P.count (-2) := by
  have hl : i < P.length := by
    rcases Nat.lt_or_ge i P.length with h | h
    · exact h
    · rw [List.getElem?_eq_none h] at hi; cases hi
  have e : P[i] = -2 := by rw [List.getElem?_eq_getElem hl] at hi; simpa using hi
  rw [List.count_set hl, e]
  have hpos : 0 < P.count (-2) := List.count_pos_iff.2 (by rw [← e]; exact List.getElem_mem hl)
  simp [hx]
  omega
end Go.Proofs.Ytjicoifjgokoiab
namespace Go.Proofs.Ytjicoifjgokoiab
open Go.RowKit

/-- Block mb is a map with these pairs. -/
def MapIs (w : World) (mb : Nat) (ents : List (Int × Value)) : Prop :=
  ∃ es clock, w.heap[mb]? = some (.map es clock) ∧ es.toList.map (fun e => (e.key, e.val)) = ents.map (fun x => (Value.int .i64 x.1, x.2))

def aget (n : Int) : List (Int × Value) → Option Value
  | [] => none
  | x :: r => if n = x.1 then some x.2 else aget n r
def aput (n : Int) (v : Value) : List (Int × Value) → List (Int × Value)
  | [] => [(n, v)]
  | x :: r => if n = x.1 then (n, v) :: r else x :: aput n v r
def aidx (n : Int) : List (Int × Value) → Nat → Option (Nat × Value)
  | [], _ => none
  | x :: r, i => if n = x.1 then some (i, x.2) else aidx n r (i + 1)

theorem isKey_int (n : Int) : MapKept.IsKey (.int .i64) (.int .i64 n) := by simp [MapKept.IsKey]

theorem findNow_ints (n : Int) : ∀ (es : List MapEntry) (ents : List (Int × Value)) (i : Nat), es.map (fun e => (e.key, e.val)) = ents.map (fun x => (Value.int .i64 x.1, x.2)) →
    Instr.findNow (.int .i64) (.int .i64 n) es i = some (aidx n ents i)
  | [], [], i, _ => rfl
  | [], _ :: _, _, h => by simp at h
  | _ :: _, [], _, h => by simp at h
  | e :: es, x :: ents, i, h => by
    simp only [List.map_cons, List.cons.injEq, Prod.mk.injEq] at h
    obtain ⟨⟨h1, h2⟩, h3⟩ := h
    have ih := findNow_ints n es ents (i + 1) h3
    simp only [Instr.findNow, h1, Instr.sameNow, aidx, if_true]
    by_cases e1 : n = x.1
    · simp [e1, h2]
    · have e2 : (n == x.1) = false := by simpa using e1
      rw [e2, if_neg e1, ← ih]

theorem aidx_none {n : Int} : ∀ {ents : List (Int × Value)} {i : Nat}, aidx n ents i = none ↔ aget n ents = none
  | [], _ => by simp [aidx, aget]
  | x :: r, i => by
    simp only [aidx, aget]
    by_cases e : n = x.1
    · simp [e]
    · simp only [e, if_false]; exact aidx_none
theorem aidx_some {n : Int} : ∀ {ents : List (Int × Value)} {i j : Nat} {v : Value}, aidx n ents i = some (j, v) → aget n ents = some v
  | [], _, _, _, h => by simp [aidx] at h
  | x :: r, i, j, v, h => by
    simp only [aidx, aget] at *
    by_cases e : n = x.1
    · simp only [e, if_true, Option.some.injEq, Prod.mk.injEq] at h ⊢; exact h.2
    · simp only [e, if_false] at h ⊢; exact aidx_some h
theorem aput_none {n : Int} {v : Value} : ∀ {ents : List (Int × Value)}, aget n ents = none → aput n v ents = ents ++ [(n, v)]
  | [], _ => rfl
  | x :: r, h => by
    simp only [aget] at h
    by_cases e : n = x.1
    · simp [e] at h
    · simp only [e, if_false] at h
      simp only [aput, e, if_false, aput_none h, List.cons_append]
theorem aput_some {n : Int} {v u : Value} : ∀ {ents : List (Int × Value)} {i j : Nat}, aidx n ents i = some (j, u) → i ≤ j ∧ (ents[j - i]?).map (·.1) = some n ∧ aput n v ents = ents.set (j - i) (n, v)
  | [], _, _, h => by simp [aidx] at h
  | x :: r, i, j, h => by
    simp only [aidx, aput] at *
    by_cases e : n = x.1
    · simp only [e, if_true, Option.some.injEq, Prod.mk.injEq] at h
      obtain ⟨rfl, _⟩ := h
      simp [e]
    · simp only [e, if_false] at h ⊢
      obtain ⟨h1, h2, h3⟩ := aput_some (v := v) h
      have e1 : j - i = (j - (i + 1)) + 1 := by omega
      refine ⟨by omega, by rw [e1]; simpa using h2, by rw [h3, e1]; rfl⟩

section
variable {P : Program} {w : World} {mb : Nat} {ents : List (Int × Value)} {t kt et : TypeId}
theorem MapIs.lt (h : MapIs w mb ents) : mb < w.heap.size := by
  obtain ⟨es, clock, hb, _⟩ := h
  exact (Array.getElem?_eq_some_iff.1 hb).1
theorem MapIs.keep {w' : World} (h : MapIs w mb ents) (hk : w'.heap[mb]? = w.heap[mb]?) : MapIs w' mb ents := by
  obtain ⟨es, clock, hb, he⟩ := h
  exact ⟨es, clock, hk.trans hb, he⟩
theorem MapIs.chg {S : Nat → Prop} {w' : World} (h : MapIs w mb ents) (hc : Chg S w w') (hS : ¬ S mb) : MapIs w' mb ents := h.keep (hc.block mb h.lt hS)
theorem MapIs.made (w : World) : MapIs (w.alloc (.map #[] 0)) w.heap.size [] := ⟨#[], 0, heap_alloc_new w _, rfl⟩

theorem run_makeMap {P : Program} (t : TypeId) (w : World) : (Instr.makeMap t none).run P w = .ok (.map (some w.heap.size)) (w.alloc (.map #[] 0)) := by
  simp [Instr.makeMap, newObj, Sem.run]
theorem MapIs.lookup (h : MapIs w mb ents) {z : Value} (ht : P.underlying t = some (.map kt et)) (hk : P.underlying kt = some (.int .i64))
    (hz : (zeroValue et).run P w = .ok z w) (n : Int) (c : Bool) :
    (Instr.lookup t (.map (some mb)) (.int .i64 n) c).run P w = .ok (if c then .tuple #[(aget n ents).getD z, .bool (aget n ents).isSome] else (aget n ents).getD z) w := by
  obtain ⟨es, clock, hb, he⟩ := h
  have hf := findNow_ints n es.toList ents 0 he
  cases ha : aidx n ents 0 with
  | none =>
    rw [ha] at hf
    simp [Instr.lookup, run_underlying ht, MapKept.run_getObj_map hb, MapKept.run_checkKey hk (isKey_int n), MapKept.run_findKey hk hf, hz, Result.andThen, aidx_none.1 ha]
  | some x =>
    rw [ha] at hf
    simp [Instr.lookup, run_underlying ht, MapKept.run_getObj_map hb, MapKept.run_checkKey hk (isKey_int n), MapKept.run_findKey hk hf, Result.andThen, aidx_some ha]

theorem MapIs.update (h : MapIs w mb ents) (ht : P.underlying t = some (.map kt et)) (hk : P.underlying kt = some (.int .i64)) (n : Int) (v : Value) :
    ∃ w', (Instr.mapUpdate t (.map (some mb)) (.int .i64 n) v).run P w = .ok () w' ∧ MapIs w' mb (aput n v ents) ∧ Chg (fun k => k = mb) w w' ∧ w'.heap.size = w.heap.size := by
  have hlt := h.lt
  obtain ⟨es, clock, hb, he⟩ := h
  have hf := findNow_ints n es.toList ents 0 he
  cases ha : aidx n ents 0 with
  | none =>
    rw [ha] at hf
    refine ⟨{ w with heap := w.heap.setIfInBounds mb (.map (es.push { key := .int .i64 n, val := v, born := clock }) (clock + 1)) }, ?_, ⟨_, _, (MapKept.heap_set hb).1, ?_⟩, ⟨rfl, rfl, rfl, by simp, fun k _ hn => (MapKept.heap_set hb).2 k hn⟩, by simp⟩
    · simp [Instr.mapUpdate, run_underlying ht, MapKept.run_getObj_map hb, MapKept.run_checkKey hk (isKey_int n), MapKept.run_findKey hk hf, MapKept.run_setObj_map _ hb, Result.andThen]
    · rw [aput_none (aidx_none.1 ha), Array.toList_push, List.map_append, List.map_append, he]; rfl
  | some x =>
    obtain ⟨j, u⟩ := x
    rw [ha] at hf
    obtain ⟨_, h2, h3⟩ := aput_some (v := v) ha
    simp only [Nat.sub_zero] at h2 h3
    have hent : ∃ e, es[j]? = some e ∧ e.key = .int .i64 n := by
      have h4 := congrArg (fun l => l[j]?) he
      simp only [List.getElem?_map] at h4
      cases h5 : ents[j]? with
      | none => rw [h5] at h2; simp at h2
      | some y =>
        rw [h5] at h2 h4
        simp only [Option.map_some, Option.some.injEq] at h2
        cases h6 : es[j]? with
        | none => simp [h6] at h4
        | some e =>
          simp [h6] at h4
          exact ⟨e, rfl, by rw [h4.1, h2]⟩
    obtain ⟨e, hj, hkey⟩ := hent
    refine ⟨{ w with heap := w.heap.setIfInBounds mb (.map (es.modify j fun e => { e with key := .int .i64 n, val := v }) clock) }, ?_, ⟨_, _, (MapKept.heap_set hb).1, ?_⟩, ⟨rfl, rfl, rfl, by simp, fun k _ hn => (MapKept.heap_set hb).2 k hn⟩, by simp⟩
    · simp [Instr.mapUpdate, run_underlying ht, MapKept.run_getObj_map hb, MapKept.run_checkKey hk (isKey_int n), MapKept.run_findKey hk hf, hj, hkey, MapKept.run_keyThatStays (isKey_int n), MapKept.run_setObj_map _ hb, Result.andThen]
    · rw [h3]
      apply List.ext_getElem?
      intro i
      have h4 := congrArg (fun l => l[i]?) he
      simp only [List.getElem?_map, Array.getElem?_toList] at h4
      simp only [List.getElem?_map, Array.getElem?_toList, Array.getElem?_modify, List.getElem?_set]
      by_cases hij : j = i
      · subst hij
        have hjl : j < ents.length := by
          rcases Nat.lt_or_ge j ents.length with hl | hl
          · exact hl
          · rw [List.getElem?_eq_none hl] at h2; simp at h2
        simp [hj, hjl]
      · simp [hij, h4]
theorem MapIs.size (h : MapIs w mb ents) : ∃ es clock, w.heap[mb]? = some (.map es clock) ∧ es.size = ents.length := by
  obtain ⟨es, clock, hb, he⟩ := h
  refine ⟨es, clock, hb, ?_⟩
  have := congrArg List.length he
  simpa using this
theorem MapIs.len (h : MapIs w mb ents) (ht : P.underlying t = some (.map kt et)) (ty : TypeId) : (Builtin.len_ #[t] ty #[.map (some mb)]).run P w = .ok (.int .i64 ents.length) w := by
  obtain ⟨es, clock, hb, hs⟩ := h.size
  simp [Builtin.len_, run_underlying ht, MapKept.run_getObj_map hb, Result.andThen, hs, goInt]
end
end Go.Proofs.Ytjicoifjgokoiab
namespace Go.Proofs.Ytjicoifjgokoiab
open Go.RowKit
set_option linter.unusedVariables false
set_option linter.unusedSimpArgs false

def MapO (es : Array MapEntry) (ents : List (Int × Value)) : Prop := es.toList.map (fun e => (e.key, e.val)) = ents.map (fun x => (Value.int .i64 x.1, x.2))
/-- The zero value of the elements of a map keyed by int. -/
def zeroM (P : Program) (t : TypeId) : Option Value := match P.underlying t with
  | some (.map kt et) => match P.underlying kt with
    | some (.int .i64) => zeroP P et
    | _ => none
  | _ => none
theorem zeroM_some {P : Program} {t : TypeId} {z : Value} (h : zeroM P t = some z) : ∃ kt et, P.underlying t = some (.map kt et) ∧ P.underlying kt = some (.int .i64) ∧ zeroP P et = some z := by
  unfold zeroM at h
  split at h
  · rename_i kt et hu
    split at h
    · rename_i hk; exact ⟨kt, et, hu, hk, h⟩
    · cases h
  · cases h
section
variable {P : Program} {n : Nat} {e : Env} {w : World} {Q : Exit → Act → World → Prop} {ops : Array Oper} {rest : List Oper} {ty : TypeId} {pos : String} {after : Array Edge} {d : Nat}
variable {M : List Nat} {w0 : World} {H H' : List (Nat × Obj)} {F : List (World → Prop)} {mb : Nat} {es : Array MapEntry} {clk : Nat} {ents : List (Int × Value)} {x y u : Operand} {v z : Value} {dst : Option Nat} {t kt : TypeId} {i : Int}
theorem run_lookup_t (hS : St M w0 H F w) (hx : ev n e x = .map (some mb)) (hy : ev n e y = .int .i64 i) (hT : zeroM P t = some z) (hat : At H mb (.map es clk)) (hm : MapO es ents) (hg : aget i ents = some v) :
    (execOp (ev n e) ⟨dst, .lookup t x y true, ty, pos, after, none⟩).run P w = .ok (.value (.tuple #[v, .bool true])) w := by
  obtain ⟨kt, et, h1, h2, h3⟩ := zeroM_some hT
  have hl := MapIs.lookup (P := P) (w := w) (mb := mb) (ents := ents) ⟨es, clk, hS.at_ hat, hm⟩ h1 h2 (run_zeroP h3) i true
  simp only [execOp, hx, hy]
  simp only [bind, pure]
  rw [Sem.run_bind', hl, hg]
  rfl
theorem run_lookup_f (hS : St M w0 H F w) (hx : ev n e x = .map (some mb)) (hy : ev n e y = .int .i64 i) (hT : zeroM P t = some z) (hat : At H mb (.map es clk)) (hm : MapO es ents) (hg : aget i ents = none) :
    (execOp (ev n e) ⟨dst, .lookup t x y true, ty, pos, after, none⟩).run P w = .ok (.value (.tuple #[z, .bool false])) w := by
  obtain ⟨kt, et, h1, h2, h3⟩ := zeroM_some hT
  have hl := MapIs.lookup (P := P) (w := w) (mb := mb) (ents := ents) ⟨es, clk, hS.at_ hat, hm⟩ h1 h2 (run_zeroP h3) i true
  simp only [execOp, hx, hy]
  simp only [bind, pure]
  rw [Sem.run_bind', hl, hg]
  rfl
theorem run_lookup0_t (hS : St M w0 H F w) (hx : ev n e x = .map (some mb)) (hy : ev n e y = .int .i64 i) (hT : zeroM P t = some z) (hat : At H mb (.map es clk)) (hm : MapO es ents) (hg : aget i ents = some v) :
    (execOp (ev n e) ⟨dst, .lookup t x y false, ty, pos, after, none⟩).run P w = .ok (.value v) w := by
  obtain ⟨kt, et, h1, h2, h3⟩ := zeroM_some hT
  have hl := MapIs.lookup (P := P) (w := w) (mb := mb) (ents := ents) ⟨es, clk, hS.at_ hat, hm⟩ h1 h2 (run_zeroP h3) i false
  simp only [execOp, hx, hy]
  simp only [bind, pure]
  rw [Sem.run_bind', hl, hg]
  rfl
theorem run_lookup0_f (hS : St M w0 H F w) (hx : ev n e x = .map (some mb)) (hy : ev n e y = .int .i64 i) (hT : zeroM P t = some z) (hat : At H mb (.map es clk)) (hm : MapO es ents) (hg : aget i ents = none) :
    (execOp (ev n e) ⟨dst, .lookup t x y false, ty, pos, after, none⟩).run P w = .ok (.value z) w := by
  obtain ⟨kt, et, h1, h2, h3⟩ := zeroM_some hT
  have hl := MapIs.lookup (P := P) (w := w) (mb := mb) (ents := ents) ⟨es, clk, hS.at_ hat, hm⟩ h1 h2 (run_zeroP h3) i false
  simp only [execOp, hx, hy]
  simp only [bind, pure]
  rw [Sem.run_bind', hl, hg]
  rfl
theorem lst_makeMap (hS : St M w0 H F w) (hd : Nat.blt d n = true) (h : ∀ b w', St M w0 ((b, .map #[] 0) :: H) F w' → Lst P Q ops rest n ((d, .map (some b)) :: e) w') :
    Lst P Q ops (⟨some d, .makeMap t none, ty, pos, after, none⟩ :: rest) n e w := by
  refine lst_run (v := .map (some w.heap.size)) (w' := w.alloc (.map #[] 0)) ?_ hd (h _ _ (hS.alloc _))
  have := run_makeMap (P := P) t w
  simp only [execOp, Option.map_none, bind, pure]
  rw [Sem.run_bind', this]
  rfl
theorem lst_mapNew (hS : St M w0 H F w) (hx : ev n e x = .map (some mb)) (hy : ev n e y = .int .i64 i) (hu : ev n e u = v) (hT : zeroM P t = some z) (hm : MapO es ents) (hg : aget i ents = none)
    (hU : Upd H mb (.map es clk) (.map (es.push { key := .int .i64 i, val := v, born := clk }) (clk + 1)) H')
    (h : ∀ w', MapO (es.push { key := .int .i64 i, val := v, born := clk }) (ents ++ [(i, v)]) → St M w0 H' F w' → Lst P Q ops rest n e w') :
    Lst P Q ops (⟨none, .mapUpdate t x y u, ty, pos, after, none⟩ :: rest) n e w := by
  obtain ⟨kt, et, h1, h2, h3⟩ := zeroM_some hT
  have hb := hS.at_ hU.at_
  have hf := findNow_ints i es.toList ents 0 hm
  rw [aidx_none.2 hg] at hf
  refine lst_skip0 (w' := { w with heap := w.heap.setIfInBounds mb (.map (es.push { key := .int .i64 i, val := v, born := clk }) (clk + 1)) }) ?_ (h _ ?_ (hS.turn hU ⟨rfl, rfl, rfl, by simp, fun k _ hk => (MapKept.heap_set hb).2 k (by simpa using hk)⟩ (MapKept.heap_set hb).1))
  · have : (Instr.mapUpdate t (.map (some mb)) (.int .i64 i) v).run P w = .ok () { w with heap := w.heap.setIfInBounds mb (.map (es.push { key := .int .i64 i, val := v, born := clk }) (clk + 1)) } := by
      simp [Instr.mapUpdate, run_underlying h1, MapKept.run_getObj_map hb, MapKept.run_checkKey h2 (isKey_int i), MapKept.run_findKey h2 hf, MapKept.run_setObj_map _ hb, Result.andThen]
    simp only [execOp, hx, hy, hu, bind, pure]
    rw [Sem.run_bind', this]
    rfl
  · unfold MapO at hm ⊢
    rw [Array.toList_push, List.map_append, List.map_append, hm]; rfl
theorem map_erase {α β : Type} (f : α → β) : ∀ (l : List α) (i : Nat), (l.eraseIdx i).map f = (l.map f).eraseIdx i
  | [], _ => rfl
  | _ :: _, 0 => rfl
  | a :: l, i + 1 => by simp [map_erase f l i]
theorem aidx_mid {A C : List (Int × Value)} (hA : aget i A = none) : ∀ j, aidx i (A ++ (i, v) :: C) j = some (j + A.length, v) := by
  induction A with
  | nil => intro j; simp [aidx]
  | cons a A ih =>
    intro j
    simp only [aget] at hA
    by_cases e1 : i = a.1
    · simp [e1] at hA
    · rw [if_neg e1] at hA
      simp only [List.cons_append, aidx, if_neg e1]
      rw [ih hA (j + 1)]
      simp; omega
theorem lst_delete {A C : List (Int × Value)} {ts : Array TypeId} (hS : St M w0 H F w) (hx : ev n e x = .map (some mb)) (hy : ev n e y = .int .i64 i) (hts : ts[0]? = some t) (hT : zeroM P t = some z) (hm : MapO es (A ++ (i, v) :: C)) (hA : aget i A = none)
    (hU : Upd H mb (.map es clk) (.map (es.eraseIdxIfInBounds A.length) clk) H')
    (h : ∀ w', MapO (es.eraseIdxIfInBounds A.length) (A ++ C) → St M w0 H' F w' → Lst P Q ops rest n e w') :
    Lst P Q ops (⟨none, .call ⟨.builtin .delete, #[x, y], ts⟩, ty, pos, after, none⟩ :: rest) n e w := by
  obtain ⟨kt, et, h1, h2, h3⟩ := zeroM_some hT
  have hb := hS.at_ hU.at_
  have hf := findNow_ints i es.toList _ 0 hm
  rw [aidx_mid hA 0, Nat.zero_add] at hf
  refine lst_run0 (v := .tuple #[]) (w' := { w with heap := w.heap.setIfInBounds mb (.map (es.eraseIdxIfInBounds A.length) clk) }) ?_ (h _ ?_ (hS.turn hU ⟨rfl, rfl, rfl, by simp, fun k _ hk => (MapKept.heap_set hb).2 k (by simpa using hk)⟩ (MapKept.heap_set hb).1))
  · have : (Builtin.delete_ ts ty #[.map (some mb), .int .i64 i]).run P w = .ok (.tuple #[]) { w with heap := w.heap.setIfInBounds mb (.map (es.eraseIdxIfInBounds A.length) clk) } := by
      simp [Builtin.delete_, hts, run_underlying h1, MapKept.run_getObj_map hb, MapKept.run_checkKey h2 (isKey_int i), MapKept.run_findKey h2 hf, MapKept.run_setObj_map _ hb, Result.andThen]
    simp only [execOp, resolve, List.map_toArray, List.map_cons, List.map_nil, hx, hy, bind, pure, Sem.bind, invoke, builtin]
    rw [Sem.run_bind', this]
    rfl
  · unfold MapO at hm ⊢
    have e1 : (es.eraseIdxIfInBounds A.length).toList = es.toList.eraseIdx A.length := by
      unfold Array.eraseIdxIfInBounds
      split
      · simp
      · rename_i hl
        rw [List.eraseIdx_of_length_le]
        simpa using hl
    rw [e1, map_erase, hm, ← map_erase, List.eraseIdx_append_of_length_le (Nat.le_refl _)]
    simp
end

end Go.Proofs.Ytjicoifjgokoiab
namespace Go.Proofs.Ytjicoifjgokoiab
open Go.RowKit
set_option linter.unusedVariables false
set_option linter.unusedSimpArgs false
set_option maxRecDepth 100000
set_option maxHeartbeats 1000000

def seenE (D : List Nat) : List (Int × Value) := D.map fun (i : Nat) => ((i : Int), Value.bool true)
theorem seen_get (D : List Nat) (i : Nat) : aget (i : Int) (seenE D) = if i ∈ D then some (.bool true) else none := by
  induction D with
  | nil => rfl
  | cons j D ih =>
    show (if (i : Int) = (j : Int) then some (Value.bool true) else aget (i : Int) (seenE D)) = _
    rw [ih]
    by_cases e : i = j
    · rw [if_pos (by omega), if_pos (by simp [e])]
    · rw [if_neg (by omega)]
      by_cases h : i ∈ D
      · rw [if_pos h, if_pos (.tail _ h)]
      · rw [if_neg h, if_neg (by simp [e, h])]
theorem lookAt_any (L : List HC) (A B : Option Addr) (c m d : Nat) (a : Int) (w : World) (hL : Flat 3 (hcsL L) A L.length c w) :
    Calls Try.prog 21 #[heapV A L.length c B m d, .int .i64 a] w fun e w' => e = .returned (.int .i64 (hlook L a)) ∧ Below w.heap.size w w' := by
  have hS := (St.start w).flat (M := []) hL
  refine goes_enter2 Try.func21 rfl Try.ntmps21 rfl ?_
  refine goes_seq ?_
  refine goes_region ?_
  refine lst_box hS rfl rfl ?_
  clear hS
  intro b1 wx1 hS
  refine lst_run (run_assign (by conv => lhs; whnf)) rfl ?_
  refine lst_done ?_
  refine goes_seq ?_
  refine goes_region ?_
  refine lst_makeMap hS rfl ?_
  clear hS
  intro mb w2 hS
  refine lst_run (run_assign (by conv => lhs; whnf)) rfl ?_
  refine lst_done ?_
  refine goes_seq ?_
  refine goes_block ?_
  refine goes_loop1 1 (8 :: 9 :: 10 :: 11 :: 12 :: 13 :: 14 :: 15 :: 16 :: 17 :: 18 :: 19 :: 20 :: 21 :: 22 :: 23 :: 24 :: 25 :: 26 :: 27 :: 28 :: 29 :: 6 :: 30 :: 31 :: 32 :: 33 :: 34 :: 35 :: 36 :: 37 :: 38 :: 39 :: 4 :: 40 :: 41 :: []) (fun (D : List Nat) v w' => ∃ (x : Int) (es : Array MapEntry) (clk : Nat), v = .int .i64 x ∧ D.Nodup ∧ (∀ i ∈ D, i < L.length ∧ ∃ n, WayN L (n + 1) (i : Int) x) ∧ (∃ n, WayN L n a x) ∧ MapO es (seenE D) ∧ St [] w ((mb, .map es clk) :: (b1, hob A L.length c B m d) :: []) [Flat 3 (hcsL L) A L.length c] w') (fun D => L.length - D.length) ([]) ?_ (by conv => lhs; whnf) ?_
  · exact ⟨a, #[], 0, rfl, by simp, fun i hi => by simp at hi, ⟨0, .refl⟩, rfl, hS⟩
  clear hS
  rintro D _ w3 jv ⟨x, es, clk, rfl, hnd, hD, ⟨n, hw⟩, hmo, hS⟩ ih
  rw [hw.look]
  by_cases hx : 0 ≤ x ∧ x < L.length
  case neg =>
    have hn : hlook L x = -1 := hlookF_none (hat_none hx) _
    rw [hn]
    by_cases h0 : 0 ≤ x
    · refine goes_seq ?_
      refine goes_seq ?_
      refine goes_region ?_
      refine lst_run (run_move (by conv => lhs; whnf)) rfl ?_
      first
        | refine lst_run (run_geq_yes rfl rfl (by omega)) rfl ?_
        | refine lst_run (run_geq_no rfl rfl (by omega)) rfl ?_
        | refine lst_run (rfl) rfl ?_
      refine lst_run (run_move (by conv => lhs; whnf)) rfl ?_
      refine lst_guard rfl rfl ?_
      refine lst_run (run_move (by conv => lhs; whnf)) rfl ?_
      refine lst_guard rfl rfl ?_
      refine lst_run (run_fieldAddr (off := 0) rfl rfl) rfl ?_
      refine lst_guard rfl rfl ?_
      first
        | refine lst_run (run_load1_own hS rfl rfl (by first | exact .head | exact .tail .head | exact .tail (.tail .head) | exact .tail (.tail (.tail .head)) | exact .tail (.tail (.tail (.tail .head))) | exact .tail (.tail (.tail (.tail (.tail .head))))) (by repeat constructor)) rfl ?_
        | refine lst_run (run_load1 rfl rfl (by first | assumption | exact hS.cell0 (by assumption) | exact lv_next hS | exact lv_list hS)) rfl ?_
      refine lst_guard rfl rfl ?_
      refine lst_run (run_len_slice rfl rfl rfl) rfl ?_
      refine lst_guard rfl rfl ?_
      first
        | refine lst_run (run_lss_yes rfl rfl (by omega)) rfl ?_
        | refine lst_run (run_lss_no rfl rfl (by omega)) rfl ?_
        | refine lst_run (rfl) rfl ?_
      first
        | refine lst_run (run_pick_t rfl (by conv => lhs; whnf)) rfl ?_
        | refine lst_run (run_pick_f rfl (by conv => lhs; whnf)) rfl ?_
      refine lst_run (run_move (by conv => lhs; whnf)) rfl ?_
      refine lst_pass rfl rfl rfl ?_
      refine lst_pass rfl rfl rfl ?_
      refine lst_pass rfl rfl rfl ?_
      refine lst_pass rfl rfl rfl ?_
      first
        | refine lst_run (run_pick_t rfl (by conv => lhs; whnf)) rfl ?_
        | refine lst_run (run_pick_f rfl (by conv => lhs; whnf)) rfl ?_
      refine lst_done ?_
      refine goes_false rfl ?_
      refine goes_exit rfl ?_
      refine goes_seq ?_
      refine goes_region ?_
      refine lst_run (run_assign (by conv => lhs; whnf)) rfl ?_
      refine lst_done ?_
      refine goes_ret1 Try.func21 rfl (by conv => lhs; whnf) ?_
      exact ⟨rfl, hS.ext.below⟩
    · refine goes_seq ?_
      refine goes_seq ?_
      refine goes_region ?_
      refine lst_run (run_move (by conv => lhs; whnf)) rfl ?_
      first
        | refine lst_run (run_geq_yes rfl rfl (by omega)) rfl ?_
        | refine lst_run (run_geq_no rfl rfl (by omega)) rfl ?_
        | refine lst_run (rfl) rfl ?_
      refine lst_run (run_move (by conv => lhs; whnf)) rfl ?_
      refine lst_pass rfl rfl rfl ?_
      refine lst_pass rfl rfl rfl ?_
      refine lst_pass rfl rfl rfl ?_
      refine lst_pass rfl rfl rfl ?_
      refine lst_pass rfl rfl rfl ?_
      first
        | refine lst_run (run_pick_t rfl (by conv => lhs; whnf)) rfl ?_
        | refine lst_run (run_pick_f rfl (by conv => lhs; whnf)) rfl ?_
      refine lst_run (run_move (by conv => lhs; whnf)) rfl ?_
      refine lst_pass rfl rfl rfl ?_
      refine lst_pass rfl rfl rfl ?_
      refine lst_pass rfl rfl rfl ?_
      refine lst_pass rfl rfl rfl ?_
      first
        | refine lst_run (run_pick_t rfl (by conv => lhs; whnf)) rfl ?_
        | refine lst_run (run_pick_f rfl (by conv => lhs; whnf)) rfl ?_
      refine lst_done ?_
      refine goes_false rfl ?_
      refine goes_exit rfl ?_
      refine goes_seq ?_
      refine goes_region ?_
      refine lst_run (run_assign (by conv => lhs; whnf)) rfl ?_
      refine lst_done ?_
      refine goes_ret1 Try.func21 rfl (by conv => lhs; whnf) ?_
      exact ⟨rfl, hS.ext.below⟩
  obtain ⟨y, hy, hgy⟩ := hat_some hx.1 hx.2
  have hxx : ((x.toNat : Nat) : Int) = x := by omega
  have hget := seen_get D x.toNat
  rw [hxx] at hget
  by_cases hin : x.toNat ∈ D
  · rw [if_pos hin] at hget
    obtain ⟨_, k, hk⟩ := hD _ hin
    rw [hxx] at hk
    rw [hk.round]
    refine goes_seq ?_
    refine goes_seq ?_
    refine goes_region ?_
    refine lst_run (run_move (by conv => lhs; whnf)) rfl ?_
    first
      | refine lst_run (run_geq_yes rfl rfl (by omega)) rfl ?_
      | refine lst_run (run_geq_no rfl rfl (by omega)) rfl ?_
      | refine lst_run (rfl) rfl ?_
    refine lst_run (run_move (by conv => lhs; whnf)) rfl ?_
    refine lst_guard rfl rfl ?_
    refine lst_run (run_move (by conv => lhs; whnf)) rfl ?_
    refine lst_guard rfl rfl ?_
    refine lst_run (run_fieldAddr (off := 0) rfl rfl) rfl ?_
    refine lst_guard rfl rfl ?_
    first
      | refine lst_run (run_load1_own hS rfl rfl (by first | exact .head | exact .tail .head | exact .tail (.tail .head) | exact .tail (.tail (.tail .head)) | exact .tail (.tail (.tail (.tail .head))) | exact .tail (.tail (.tail (.tail (.tail .head))))) (by repeat constructor)) rfl ?_
      | refine lst_run (run_load1 rfl rfl (by first | assumption | exact hS.cell0 (by assumption) | exact lv_next hS | exact lv_list hS)) rfl ?_
    refine lst_guard rfl rfl ?_
    refine lst_run (run_len_slice rfl rfl rfl) rfl ?_
    refine lst_guard rfl rfl ?_
    first
      | refine lst_run (run_lss_yes rfl rfl (by omega)) rfl ?_
      | refine lst_run (run_lss_no rfl rfl (by omega)) rfl ?_
      | refine lst_run (rfl) rfl ?_
    first
      | refine lst_run (run_pick_t rfl (by conv => lhs; whnf)) rfl ?_
      | refine lst_run (run_pick_f rfl (by conv => lhs; whnf)) rfl ?_
    refine lst_run (run_move (by conv => lhs; whnf)) rfl ?_
    refine lst_guard rfl rfl ?_
    refine lst_run (run_move (by conv => lhs; whnf)) rfl ?_
    refine lst_guard rfl rfl ?_
    refine lst_run (run_move (by conv => lhs; whnf)) rfl ?_
    refine lst_guard rfl rfl ?_
    first
      | refine lst_run (run_lookup0_t hS rfl rfl rfl (by first | exact .head | exact .tail .head | exact .tail (.tail .head) | exact .tail (.tail (.tail .head)) | exact .tail (.tail (.tail (.tail .head))) | exact .tail (.tail (.tail (.tail (.tail .head))))) (by assumption) (by assumption)) rfl ?_
      | refine lst_run (run_lookup0_f hS rfl rfl rfl (by first | exact .head | exact .tail .head | exact .tail (.tail .head) | exact .tail (.tail (.tail .head)) | exact .tail (.tail (.tail (.tail .head))) | exact .tail (.tail (.tail (.tail (.tail .head))))) (by assumption) (by assumption)) rfl ?_
    refine lst_guard rfl rfl ?_
    refine lst_run (rfl) rfl ?_
    first
      | refine lst_run (run_pick_t rfl (by conv => lhs; whnf)) rfl ?_
      | refine lst_run (run_pick_f rfl (by conv => lhs; whnf)) rfl ?_
    refine lst_done ?_
    refine goes_false rfl ?_
    refine goes_exit rfl ?_
    refine goes_seq ?_
    refine goes_region ?_
    refine lst_run (run_assign (by conv => lhs; whnf)) rfl ?_
    refine lst_done ?_
    refine goes_ret1 Try.func21 rfl (by conv => lhs; whnf) ?_
    exact ⟨rfl, hS.ext.below⟩
  rw [if_neg hin] at hget
  obtain ⟨b, o, rfl⟩ := hL.some_ (by omega)
  have hcc : ∀ {H'} w', St [] w H' [Flat 3 (hcsL L) (some ⟨b, o, none⟩) L.length c] w' → _ := fun w' hS => (hS.fact (.head _)).cell hgy
  refine goes_seq ?_
  refine goes_seq ?_
  refine goes_region ?_
  refine lst_run (run_move (by conv => lhs; whnf)) rfl ?_
  first
    | refine lst_run (run_geq_yes rfl rfl (by omega)) rfl ?_
    | refine lst_run (run_geq_no rfl rfl (by omega)) rfl ?_
    | refine lst_run (rfl) rfl ?_
  refine lst_run (run_move (by conv => lhs; whnf)) rfl ?_
  refine lst_guard rfl rfl ?_
  refine lst_run (run_move (by conv => lhs; whnf)) rfl ?_
  refine lst_guard rfl rfl ?_
  refine lst_run (run_fieldAddr (off := 0) rfl rfl) rfl ?_
  refine lst_guard rfl rfl ?_
  first
    | refine lst_run (run_load1_own hS rfl rfl (by first | exact .head | exact .tail .head | exact .tail (.tail .head) | exact .tail (.tail (.tail .head)) | exact .tail (.tail (.tail (.tail .head))) | exact .tail (.tail (.tail (.tail (.tail .head))))) (by repeat constructor)) rfl ?_
    | refine lst_run (run_load1 rfl rfl (by first | assumption | exact (hcc _ hS).1 | exact (hcc _ hS).2.1 | exact (hcc _ hS).2.2 | exact hS.cell0 (by assumption) | exact lv_next hS | exact lv_list hS)) rfl ?_
  refine lst_guard rfl rfl ?_
  refine lst_run (run_len_slice rfl rfl rfl) rfl ?_
  refine lst_guard rfl rfl ?_
  first
    | refine lst_run (run_lss_yes rfl rfl (by omega)) rfl ?_
    | refine lst_run (run_lss_no rfl rfl (by omega)) rfl ?_
    | refine lst_run (rfl) rfl ?_
  first
    | refine lst_run (run_pick_t rfl (by conv => lhs; whnf)) rfl ?_
    | refine lst_run (run_pick_f rfl (by conv => lhs; whnf)) rfl ?_
  refine lst_run (run_move (by conv => lhs; whnf)) rfl ?_
  refine lst_guard rfl rfl ?_
  refine lst_run (run_move (by conv => lhs; whnf)) rfl ?_
  refine lst_guard rfl rfl ?_
  refine lst_run (run_move (by conv => lhs; whnf)) rfl ?_
  refine lst_guard rfl rfl ?_
  first
    | refine lst_run (run_lookup0_t hS rfl rfl rfl (by first | exact .head | exact .tail .head | exact .tail (.tail .head) | exact .tail (.tail (.tail .head)) | exact .tail (.tail (.tail (.tail .head))) | exact .tail (.tail (.tail (.tail (.tail .head))))) (by assumption) (by assumption)) rfl ?_
    | refine lst_run (run_lookup0_f hS rfl rfl rfl (by first | exact .head | exact .tail .head | exact .tail (.tail .head) | exact .tail (.tail (.tail .head)) | exact .tail (.tail (.tail (.tail .head))) | exact .tail (.tail (.tail (.tail (.tail .head))))) (by assumption) (by assumption)) rfl ?_
  refine lst_guard rfl rfl ?_
  refine lst_run (rfl) rfl ?_
  first
    | refine lst_run (run_pick_t rfl (by conv => lhs; whnf)) rfl ?_
    | refine lst_run (run_pick_f rfl (by conv => lhs; whnf)) rfl ?_
  refine lst_done ?_
  refine goes_true rfl ?_
  refine goes_skip ?_
  refine goes_block ?_
  refine goes_seq ?_
  refine goes_region ?_
  refine lst_run (run_move (by conv => lhs; whnf)) rfl ?_
  refine lst_run (run_move (by conv => lhs; whnf)) rfl ?_
  refine lst_mapNew hS rfl rfl rfl rfl hmo hget .head ?_
  clear hS
  intro w4 hmo2 hS
  have hlen : (x.toNat :: D).length ≤ L.length := nodup_len L.length (x.toNat :: D) (List.nodup_cons.2 ⟨hin, hnd⟩) fun i hi => by
    rcases List.mem_cons.1 hi with rfl | hi
    · omega
    · exact (hD i hi).1
  simp only [List.length_cons] at hlen
  by_cases hk : y.k = 0
  case neg =>
    rw [hlook_self hy (fun h => hk h.1)]
    refine lst_done ?_
    refine goes_seq ?_
    refine goes_region ?_
    refine lst_run (run_fieldAddr (off := 0) rfl rfl) rfl ?_
    first
      | refine lst_run (run_load1_own hS rfl rfl (by first | exact .head | exact .tail .head | exact .tail (.tail .head) | exact .tail (.tail (.tail .head)) | exact .tail (.tail (.tail (.tail .head))) | exact .tail (.tail (.tail (.tail (.tail .head))))) (by repeat constructor)) rfl ?_
      | refine lst_run (run_load1 rfl rfl (by first | assumption | exact (hcc _ hS).1 | exact (hcc _ hS).2.1 | exact (hcc _ hS).2.2 | exact hS.cell0 (by assumption) | exact lv_next hS | exact lv_list hS)) rfl ?_
    refine lst_run (run_move (by conv => lhs; whnf)) rfl ?_
    refine lst_run (run_indexAddr (sz := 3) rfl rfl rfl rfl (by omega) (by omega)) rfl ?_
    first
      | refine lst_run (run_loadN_own (k := 3) hS rfl rfl rfl (by first | exact .head | exact .tail .head | exact .tail (.tail .head) | exact .tail (.tail (.tail .head)) | exact .tail (.tail (.tail (.tail .head))) | exact .tail (.tail (.tail (.tail (.tail .head))))) (by repeat constructor)) rfl ?_
      | refine lst_run (run_load3 rfl rfl rfl (by first | assumption | exact (hcc _ hS).1 | exact (hcc _ hS).2.1 | exact (hcc _ hS).2.2 | exact hS.cell0 (by assumption)) (by first | assumption | exact (hcc _ hS).1 | exact (hcc _ hS).2.1 | exact (hcc _ hS).2.2 | exact hS.cell0 (by assumption)) (by first | assumption | exact (hcc _ hS).1 | exact (hcc _ hS).2.1 | exact (hcc _ hS).2.2 | exact hS.cell0 (by assumption))) rfl ?_
    refine lst_alloc (cs := [_, _, _]) hS rfl rfl rfl ?_
    clear hS
    intro b2 wx2 hS
    refine lst_storeN hS rfl (by conv => lhs; whnf) rfl rfl (by first | exact .head | exact .tail .head | exact .tail (.tail .head) | exact .tail (.tail (.tail .head)) | exact .tail (.tail (.tail (.tail .head))) | exact .tail (.tail (.tail (.tail (.tail .head))))) (by repeat constructor) (by first | exact .head | exact .tail .head | exact .tail (.tail .head) | exact .tail (.tail (.tail .head)) | exact .tail (.tail (.tail (.tail .head))) | exact .tail (.tail (.tail (.tail (.tail .head))))) ?_
    clear hS
    intro wx3 hS
    refine lst_done ?_
    refine goes_seq ?_
    refine goes_seq ?_
    refine goes_region ?_
    refine lst_run (run_fieldAddr (off := 0) rfl rfl) rfl ?_
    first
      | refine lst_run (run_load1_own hS rfl rfl (by first | exact .head | exact .tail .head | exact .tail (.tail .head) | exact .tail (.tail (.tail .head)) | exact .tail (.tail (.tail (.tail .head))) | exact .tail (.tail (.tail (.tail (.tail .head))))) (by repeat constructor)) rfl ?_
      | refine lst_run (run_load1 rfl rfl (by first | assumption | exact (hcc _ hS).1 | exact (hcc _ hS).2.1 | exact (hcc _ hS).2.2 | exact hS.cell0 (by assumption) | exact lv_next hS | exact lv_list hS)) rfl ?_
    first
      | refine lst_run (run_neq_one_int rfl rfl) rfl ?_
      | refine lst_run (run_neq_no rfl rfl (by first | assumption | omega)) rfl ?_
      | refine lst_run (run_neq_yes rfl rfl (by omega)) rfl ?_
      | refine lst_run (rfl) rfl ?_
    refine lst_run (run_move (by conv => lhs; whnf)) rfl ?_
    refine lst_pass rfl rfl rfl ?_
    refine lst_pass rfl rfl rfl ?_
    refine lst_pass rfl rfl rfl ?_
    refine lst_pass rfl rfl rfl ?_
    first
      | refine lst_run (run_pick_t rfl (by conv => lhs; whnf)) rfl ?_
      | refine lst_run (run_pick_f rfl (by conv => lhs; whnf)) rfl ?_
    refine lst_done ?_
    refine goes_true rfl ?_
    refine goes_seq ?_
    refine goes_region ?_
    refine lst_run (run_move (by conv => lhs; whnf)) rfl ?_
    refine lst_run (run_assign (by conv => lhs; whnf)) rfl ?_
    refine lst_done ?_
    refine goes_ret1 Try.func21 rfl (by conv => lhs; whnf) ?_
    exact ⟨rfl, hS.ext.below⟩
  by_cases hn : y.n = x
  · rw [hlook_self hy (fun h => h.2 hn)]
    refine lst_done ?_
    refine goes_seq ?_
    refine goes_region ?_
    refine lst_run (run_fieldAddr (off := 0) rfl rfl) rfl ?_
    first
      | refine lst_run (run_load1_own hS rfl rfl (by first | exact .head | exact .tail .head | exact .tail (.tail .head) | exact .tail (.tail (.tail .head)) | exact .tail (.tail (.tail (.tail .head))) | exact .tail (.tail (.tail (.tail (.tail .head))))) (by repeat constructor)) rfl ?_
      | refine lst_run (run_load1 rfl rfl (by first | assumption | exact (hcc _ hS).1 | exact (hcc _ hS).2.1 | exact (hcc _ hS).2.2 | exact hS.cell0 (by assumption) | exact lv_next hS | exact lv_list hS)) rfl ?_
    refine lst_run (run_move (by conv => lhs; whnf)) rfl ?_
    refine lst_run (run_indexAddr (sz := 3) rfl rfl rfl rfl (by omega) (by omega)) rfl ?_
    first
      | refine lst_run (run_loadN_own (k := 3) hS rfl rfl rfl (by first | exact .head | exact .tail .head | exact .tail (.tail .head) | exact .tail (.tail (.tail .head)) | exact .tail (.tail (.tail (.tail .head))) | exact .tail (.tail (.tail (.tail (.tail .head))))) (by repeat constructor)) rfl ?_
      | refine lst_run (run_load3 rfl rfl rfl (by first | assumption | exact (hcc _ hS).1 | exact (hcc _ hS).2.1 | exact (hcc _ hS).2.2 | exact hS.cell0 (by assumption)) (by first | assumption | exact (hcc _ hS).1 | exact (hcc _ hS).2.1 | exact (hcc _ hS).2.2 | exact hS.cell0 (by assumption)) (by first | assumption | exact (hcc _ hS).1 | exact (hcc _ hS).2.1 | exact (hcc _ hS).2.2 | exact hS.cell0 (by assumption))) rfl ?_
    refine lst_alloc (cs := [_, _, _]) hS rfl rfl rfl ?_
    clear hS
    intro b2 wx2 hS
    refine lst_storeN hS rfl (by conv => lhs; whnf) rfl rfl (by first | exact .head | exact .tail .head | exact .tail (.tail .head) | exact .tail (.tail (.tail .head)) | exact .tail (.tail (.tail (.tail .head))) | exact .tail (.tail (.tail (.tail (.tail .head))))) (by repeat constructor) (by first | exact .head | exact .tail .head | exact .tail (.tail .head) | exact .tail (.tail (.tail .head)) | exact .tail (.tail (.tail (.tail .head))) | exact .tail (.tail (.tail (.tail (.tail .head))))) ?_
    clear hS
    intro wx3 hS
    refine lst_done ?_
    refine goes_seq ?_
    refine goes_seq ?_
    refine goes_region ?_
    refine lst_run (run_fieldAddr (off := 0) rfl rfl) rfl ?_
    first
      | refine lst_run (run_load1_own hS rfl rfl (by first | exact .head | exact .tail .head | exact .tail (.tail .head) | exact .tail (.tail (.tail .head)) | exact .tail (.tail (.tail (.tail .head))) | exact .tail (.tail (.tail (.tail (.tail .head))))) (by repeat constructor)) rfl ?_
      | refine lst_run (run_load1 rfl rfl (by first | assumption | exact (hcc _ hS).1 | exact (hcc _ hS).2.1 | exact (hcc _ hS).2.2 | exact hS.cell0 (by assumption) | exact lv_next hS | exact lv_list hS)) rfl ?_
    first
      | refine lst_run (run_neq_one_int rfl rfl) rfl ?_
      | refine lst_run (run_neq_no rfl rfl (by first | assumption | omega)) rfl ?_
      | refine lst_run (run_neq_yes rfl rfl (by omega)) rfl ?_
      | refine lst_run (rfl) rfl ?_
    refine lst_run (run_move (by conv => lhs; whnf)) rfl ?_
    refine lst_guard rfl rfl ?_
    refine lst_run (run_fieldAddr (off := 1) rfl rfl) rfl ?_
    refine lst_guard rfl rfl ?_
    first
      | refine lst_run (run_load1_own hS rfl rfl (by first | exact .head | exact .tail .head | exact .tail (.tail .head) | exact .tail (.tail (.tail .head)) | exact .tail (.tail (.tail (.tail .head))) | exact .tail (.tail (.tail (.tail (.tail .head))))) (by repeat constructor)) rfl ?_
      | refine lst_run (run_load1 rfl rfl (by first | assumption | exact (hcc _ hS).1 | exact (hcc _ hS).2.1 | exact (hcc _ hS).2.2 | exact hS.cell0 (by assumption) | exact lv_next hS | exact lv_list hS)) rfl ?_
    refine lst_guard rfl rfl ?_
    refine lst_run (run_move (by conv => lhs; whnf)) rfl ?_
    refine lst_guard rfl rfl ?_
    first
      | refine lst_run (run_eql_one_int rfl rfl) rfl ?_
      | refine lst_run (run_eql_no rfl rfl (by first | assumption | omega)) rfl ?_
      | refine lst_run (run_eql_yes rfl rfl (by omega)) rfl ?_
      | refine lst_run (rfl) rfl ?_
    first
      | refine lst_run (run_pick_t rfl (by conv => lhs; whnf)) rfl ?_
      | refine lst_run (run_pick_f rfl (by conv => lhs; whnf)) rfl ?_
    refine lst_done ?_
    refine goes_true rfl ?_
    refine goes_seq ?_
    refine goes_region ?_
    refine lst_run (run_move (by conv => lhs; whnf)) rfl ?_
    refine lst_run (run_assign (by conv => lhs; whnf)) rfl ?_
    refine lst_done ?_
    refine goes_ret1 Try.func21 rfl (by conv => lhs; whnf) ?_
    exact ⟨rfl, hS.ext.below⟩
  have hstep : WayN L 1 x y.n := .step hy hk hn .refl
  refine lst_done ?_
  refine goes_seq ?_
  refine goes_region ?_
  refine lst_run (run_fieldAddr (off := 0) rfl rfl) rfl ?_
  first
    | refine lst_run (run_load1_own hS rfl rfl (by first | exact .head | exact .tail .head | exact .tail (.tail .head) | exact .tail (.tail (.tail .head)) | exact .tail (.tail (.tail (.tail .head))) | exact .tail (.tail (.tail (.tail (.tail .head))))) (by repeat constructor)) rfl ?_
    | refine lst_run (run_load1 rfl rfl (by first | assumption | exact (hcc _ hS).1 | exact (hcc _ hS).2.1 | exact (hcc _ hS).2.2 | exact hS.cell0 (by assumption) | exact lv_next hS | exact lv_list hS)) rfl ?_
  refine lst_run (run_move (by conv => lhs; whnf)) rfl ?_
  refine lst_run (run_indexAddr (sz := 3) rfl rfl rfl rfl (by omega) (by omega)) rfl ?_
  first
    | refine lst_run (run_loadN_own (k := 3) hS rfl rfl rfl (by first | exact .head | exact .tail .head | exact .tail (.tail .head) | exact .tail (.tail (.tail .head)) | exact .tail (.tail (.tail (.tail .head))) | exact .tail (.tail (.tail (.tail (.tail .head))))) (by repeat constructor)) rfl ?_
    | refine lst_run (run_load3 rfl rfl rfl (by first | assumption | exact (hcc _ hS).1 | exact (hcc _ hS).2.1 | exact (hcc _ hS).2.2 | exact hS.cell0 (by assumption)) (by first | assumption | exact (hcc _ hS).1 | exact (hcc _ hS).2.1 | exact (hcc _ hS).2.2 | exact hS.cell0 (by assumption)) (by first | assumption | exact (hcc _ hS).1 | exact (hcc _ hS).2.1 | exact (hcc _ hS).2.2 | exact hS.cell0 (by assumption))) rfl ?_
  refine lst_alloc (cs := [_, _, _]) hS rfl rfl rfl ?_
  clear hS
  intro b2 wx2 hS
  refine lst_storeN hS rfl (by conv => lhs; whnf) rfl rfl (by first | exact .head | exact .tail .head | exact .tail (.tail .head) | exact .tail (.tail (.tail .head)) | exact .tail (.tail (.tail (.tail .head))) | exact .tail (.tail (.tail (.tail (.tail .head))))) (by repeat constructor) (by first | exact .head | exact .tail .head | exact .tail (.tail .head) | exact .tail (.tail (.tail .head)) | exact .tail (.tail (.tail (.tail .head))) | exact .tail (.tail (.tail (.tail (.tail .head))))) ?_
  clear hS
  intro wx3 hS
  refine lst_done ?_
  refine goes_seq ?_
  refine goes_seq ?_
  refine goes_region ?_
  refine lst_run (run_fieldAddr (off := 0) rfl rfl) rfl ?_
  first
    | refine lst_run (run_load1_own hS rfl rfl (by first | exact .head | exact .tail .head | exact .tail (.tail .head) | exact .tail (.tail (.tail .head)) | exact .tail (.tail (.tail (.tail .head))) | exact .tail (.tail (.tail (.tail (.tail .head))))) (by repeat constructor)) rfl ?_
    | refine lst_run (run_load1 rfl rfl (by first | assumption | exact (hcc _ hS).1 | exact (hcc _ hS).2.1 | exact (hcc _ hS).2.2 | exact hS.cell0 (by assumption) | exact lv_next hS | exact lv_list hS)) rfl ?_
  first
    | refine lst_run (run_neq_one_int rfl rfl) rfl ?_
    | refine lst_run (run_neq_no rfl rfl (by first | assumption | omega)) rfl ?_
    | refine lst_run (run_neq_yes rfl rfl (by omega)) rfl ?_
    | refine lst_run (rfl) rfl ?_
  refine lst_run (run_move (by conv => lhs; whnf)) rfl ?_
  refine lst_guard rfl rfl ?_
  refine lst_run (run_fieldAddr (off := 1) rfl rfl) rfl ?_
  refine lst_guard rfl rfl ?_
  first
    | refine lst_run (run_load1_own hS rfl rfl (by first | exact .head | exact .tail .head | exact .tail (.tail .head) | exact .tail (.tail (.tail .head)) | exact .tail (.tail (.tail (.tail .head))) | exact .tail (.tail (.tail (.tail (.tail .head))))) (by repeat constructor)) rfl ?_
    | refine lst_run (run_load1 rfl rfl (by first | assumption | exact (hcc _ hS).1 | exact (hcc _ hS).2.1 | exact (hcc _ hS).2.2 | exact hS.cell0 (by assumption) | exact lv_next hS | exact lv_list hS)) rfl ?_
  refine lst_guard rfl rfl ?_
  refine lst_run (run_move (by conv => lhs; whnf)) rfl ?_
  refine lst_guard rfl rfl ?_
  first
    | refine lst_run (run_eql_one_int rfl rfl) rfl ?_
    | refine lst_run (run_eql_no rfl rfl (by first | assumption | omega)) rfl ?_
    | refine lst_run (run_eql_yes rfl rfl (by omega)) rfl ?_
    | refine lst_run (rfl) rfl ?_
  first
    | refine lst_run (run_pick_t rfl (by conv => lhs; whnf)) rfl ?_
    | refine lst_run (run_pick_f rfl (by conv => lhs; whnf)) rfl ?_
  refine lst_done ?_
  refine goes_false rfl ?_
  refine goes_skip ?_
  refine goes_region ?_
  refine lst_run (run_fieldAddr (off := 1) rfl rfl) rfl ?_
  first
    | refine lst_run (run_load1_own hS rfl rfl (by first | exact .head | exact .tail .head | exact .tail (.tail .head) | exact .tail (.tail (.tail .head)) | exact .tail (.tail (.tail (.tail .head))) | exact .tail (.tail (.tail (.tail (.tail .head))))) (by repeat constructor)) rfl ?_
    | refine lst_run (run_load1 rfl rfl (by first | assumption | exact (hcc _ hS).1 | exact (hcc _ hS).2.1 | exact (hcc _ hS).2.2 | exact hS.cell0 (by assumption) | exact lv_next hS | exact lv_list hS)) rfl ?_
  refine lst_run (run_assign (by conv => lhs; whnf)) rfl ?_
  refine lst_done ?_
  refine goes_inBlock ?_
  rw [hstep.look, show hlook L y.n = hlook L a by rw [← hstep.look, hw.look]]
  refine ih (D ++ [x.toNat]) _ _ _ ?_ ?_ (by conv => lhs; whnf) (by kernel_rfl)
  · simp; omega
  · refine ⟨y.n, _, _, rfl, ?_, fun i hi => ?_, ⟨n + 1, hw.trans hstep⟩, ?_, hS.drop⟩
    · rw [List.nodup_append]
      refine ⟨hnd, by simp, fun p hp q hq e => ?_⟩
      simp at hq
      rw [e, hq] at hp
      exact hin hp
    · rcases List.mem_append.1 hi with hi | hi
      · obtain ⟨h1, k, h2⟩ := hD i hi
        exact ⟨h1, k + 1, h2.trans hstep⟩
      · simp at hi
        rw [hi, hxx]
        exact ⟨by omega, 0, hstep⟩
    · rw [show seenE (D ++ [x.toNat]) = seenE D ++ [(x, .bool true)] by simp [seenE, hxx]]
      exact hmo2
end Go.Proofs.Ytjicoifjgokoiab
