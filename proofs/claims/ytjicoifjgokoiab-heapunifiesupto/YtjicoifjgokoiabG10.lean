/- HUndo, LUnifies, Open, HOpen: texts that follow one another, laid into one file. -/
import Derived.Test.YtjicoifjgokoiabG8
import Derived.Test.YtjicoifjgokoiabG6
import Derived.Test.YtjicoifjgokoiabG9
import Derived.Test.YtjicoifjgokoiabG1
import Derived.Test.YtjicoifjgokoiabRows
import Derived.Deep.Slices
import Derived.Deep.Fields
import Derived.JoinedCond
import Derived.OpenShut
namespace Go.Proofs.Ytjicoifjgokoiab
open Go.RowKit
set_option linter.unusedVariables false
set_option linter.unusedSimpArgs false

/-- Of the cells of L just those at N, all unbound, have been told another number. -/
def Bd (N : List Int) (L L' : List HC) : Prop := (∀ r ∈ N, 0 ≤ r) ∧ ∀ i : Nat, ((i : Int) ∈ N → ∃ c n, L[i]? = some c ∧ c.k = 0 ∧ c.n = (i : Int) ∧ L'[i]? = some ⟨c.k, n, c.s⟩) ∧ ((i : Int) ∉ N → L'[i]? = L[i]?)
theorem Bd.refl (L : List HC) : Bd [] L L := ⟨fun r h => by simp at h, fun i => ⟨fun h => by simp at h, fun _ => rfl⟩⟩
theorem Bd.trans {N N' : List Int} {L L' L'' : List HC} (h : Bd N L L') (g : Bd N' L' L'') : Bd (N ++ N') L L'' := by
  refine ⟨fun r hr => (List.mem_append.1 hr).elim (h.1 r) (g.1 r), fun i => ⟨fun hi => ?_, fun hi => ?_⟩⟩
  · by_cases h1 : (i : Int) ∈ N
    · obtain ⟨c, n, c1, c2, c3, c4⟩ := (h.2 i).1 h1
      by_cases h2 : (i : Int) ∈ N'
      · obtain ⟨d, m, d1, d2, d3, d4⟩ := (g.2 i).1 h2
        rw [c4] at d1; cases d1
        exact ⟨c, m, c1, c2, c3, d4⟩
      · rw [← (g.2 i).2 h2] at c4
        exact ⟨c, n, c1, c2, c3, c4⟩
    · have h2 : (i : Int) ∈ N' := by rcases List.mem_append.1 hi with h | h; exact absurd h h1; exact h
      obtain ⟨d, m, d1, d2, d3, d4⟩ := (g.2 i).1 h2
      rw [(h.2 i).2 h1] at d1
      exact ⟨d, m, d1, d2, d3, d4⟩
  · rw [(g.2 i).2 (fun h' => hi (List.mem_append_right _ h')), (h.2 i).2 (fun h' => hi (List.mem_append_left _ h'))]
theorem Bd.one {L : List HC} {r y : Int} {c : HC} (hr : hat L r = some c) (hk : c.k = 0) (hn : c.n = r) : Bd [r] L (setN L r.toNat y) := by
  obtain ⟨r0, r1, r2⟩ := hatS.1 hr
  refine ⟨fun s hs => by simp at hs; omega, fun i => ⟨fun hi => ?_, fun hi => ?_⟩⟩
  · simp at hi
    have e : r.toNat = i := by omega
    rw [e] at r2 ⊢
    exact ⟨c, y, r2, hk, by omega, by rw [setN_get, if_pos rfl, r2]; rfl⟩
  · simp at hi
    rw [setN_get, if_neg (by omega)]
theorem undoL_get : ∀ (N : List Int) (L : List HC), (∀ r ∈ N, 0 ≤ r) → ∀ i : Nat, (undoL L N)[i]? = if (i : Int) ∈ N then (L[i]?).map (fun c => ⟨c.k, i, c.s⟩) else L[i]?
  | [], L, _, i => by simp [undoL]
  | r :: N, L, h, i => by
    have r0 := h r (by simp)
    unfold undoL
    rw [undoL_get N _ (fun s hs => h s (.tail _ hs)) i, setN_get]
    by_cases e : r.toNat = i
    · have e2 : (i : Int) = r := by omega
      have hm : (i : Int) ∈ r :: N := by rw [e2]; exact .head _
      rw [if_pos e, if_pos hm]
      by_cases h2 : (i : Int) ∈ N
      · rw [if_pos h2, Option.map_map]; rfl
      · rw [if_neg h2, e2]
    · rw [if_neg e]
      have : (i : Int) ∈ r :: N ↔ (i : Int) ∈ N := by
        simp only [List.mem_cons]
        constructor
        · rintro (h | h)
          · omega
          · exact h
        · exact .inr
      simp only [this]
theorem Bd.undo {N : List Int} {L L' : List HC} (h : Bd N L L') : undoL L' N = L := by
  refine List.ext_getElem? fun i => ?_
  rw [undoL_get N L' h.1 i]
  by_cases hi : (i : Int) ∈ N
  · rw [if_pos hi]
    obtain ⟨c, n, c1, c2, c3, c4⟩ := (h.2 i).1 hi
    rw [c4, c1, Option.map_some, ← c3]
  · rw [if_neg hi]; exact (h.2 i).2 hi
theorem Bd.kind {N : List Int} {L L' : List HC} (h : Bd N L L') {r : Int} {c : HC} (hr : hat L r = some c) : ∃ d, hat L' r = some d ∧ d.k = c.k := by
  obtain ⟨r0, r1, r2⟩ := hatS.1 hr
  have e : ((r.toNat : Nat) : Int) = r := by omega
  have key : ∃ d, L'[r.toNat]? = some d ∧ d.k = c.k := by
    by_cases hi : ((r.toNat : Nat) : Int) ∈ N
    · obtain ⟨d, n, c1, c2, c3, c4⟩ := (h.2 r.toNat).1 hi
      rw [r2] at c1; cases c1
      exact ⟨_, c4, rfl⟩
    · exact ⟨c, by rw [(h.2 r.toNat).2 hi]; exact r2, rfl⟩
  obtain ⟨d, d1, d2⟩ := key
  exact ⟨d, by unfold hat; rw [if_pos r0]; exact d1, d2⟩
/-- The trail says what has been bound. -/
def Trl (u v : HU) : Prop := ∃ N, v.tr = u.tr ++ N ∧ Bd N u.cs v.cs
theorem Trl.same {u v : HU} (h1 : v.cs = u.cs) (h2 : v.tr = u.tr) : Trl u v := ⟨[], by simp [h2], by rw [h1]; exact Bd.refl _⟩
theorem Trl.trans {u v w : HU} (h : Trl u v) (g : Trl v w) : Trl u w := by
  obtain ⟨N, h1, h2⟩ := h
  obtain ⟨N', g1, g2⟩ := g
  exact ⟨N ++ N', by rw [g1, h1, List.append_assoc], h2.trans g2⟩
theorem Trl.bind {u v : HU} {r y : Int} {c : HC} (hr : hat u.cs r = some c) (hk : c.k = 0) (hn : c.n = r) (h1 : v.cs = setN u.cs r.toNat y) (h2 : v.tr = u.tr ++ [r]) : Trl u v := ⟨[r], h2, by rw [h1]; exact Bd.one hr hk hn⟩
theorem all_trl {n : Nat} {g : Int → Int → HU → Bool × HU} (hu : ∀ x y u, GU n u → u.lg = false → UU n u (g x y u)) (hg : ∀ x y u, GU n u → u.lg = false → Trl u (g x y u).2) :
    ∀ (m : Nat) (x y : Int) (u : HU), GU n u → u.lg = false → Trl u (allU g m x y u).2
  | 0, x, y, u, h, hl => Trl.same rfl rfl
  | m + 1, x, y, u, h, hl => by
    have h1 := hu x y u h hl
    simp only [allU]
    split
    · rename_i hok
      exact (hg x y u h hl).trans (all_trl hu hg m (x + 1) (y + 1) _ h1.gu (h1.ok hok))
    · exact hg x y u h hl
theorem asg_trl {n : Nat} {u : HU} (h : GU n u) {p q : Int} {x : HC} (hx : hat u.cs p = some x) (hxk : x.k = 0) (hxe : x.n = p) : Trl u (asgU p q u).2 := by
  have ho := occ_up (n := n) p 401 q u h.good h.wk
  unfold asgU
  split
  · exact Trl.same ho.cs ho.tr
  · exact Trl.bind hx hxk hxe (by simp only [HU.bind]; rw [ho.cs]) (by simp only [HU.bind]; rw [ho.tr])
theorem uni_trl {n : Nat} : ∀ (f : Nat) (a b : Int) (u : HU), GU n u → u.lg = false → Trl u (uniU f a b u).2
  | f, a, b, u, h, hl => by
    have hg2 : GU n ((u.step.look a).2.look b).2 := (h.step.look a).look b
    have hwa := look_w u.step a
    have hwb := look_w (u.step.look a).2 b
    have hcs2 : ((u.step.look a).2.look b).2.cs = u.cs := by rw [hwb.2.1, hwa.2.1]; rfl
    have htr2 : ((u.step.look a).2.look b).2.tr = u.tr := by rw [hwb.2.2, hwa.2.2]; rfl
    have hfail : Trl u ((u.step.look a).2.look b).2 := Trl.same hcs2 htr2
    cases f with
    | zero => exact hfail
    | succ f =>
    simp only [uniU]
    by_cases hl2 : ((u.step.look a).2.look b).2.lg = true
    · rw [if_pos hl2]; exact hfail
    have hl3 : ((u.step.look a).2.look b).2.lg = false := by simpa using hl2
    rw [if_neg hl2]
    obtain ⟨_, ha, hb, ea, eb, hcs, htr, _⟩ := looks_ok hl3
    rw [ha, hb]
    obtain ⟨x, hx, hxe⟩ := ea.last
    obtain ⟨y, hy, hye⟩ := eb.last
    generalize hlook u.cs a = p at *
    generalize hlook u.cs b = q at *
    generalize ((u.step.look a).2.look b).2 = v at *
    rw [show kindAt u.cs p = x.k by unfold kindAt; rw [hx], show kindAt u.cs q = y.k by unfold kindAt; rw [hy]]
    by_cases hxk : x.k = 0
    · have hxn : x.n = p := Classical.byContradiction fun e => hxe ⟨hxk, e⟩
      rw [if_pos hxk]
      by_cases hyk : y.k = 0
      · have hyn : y.n = q := Classical.byContradiction fun e => hye ⟨hyk, e⟩
        rw [if_pos hyk]
        by_cases hpq : p = q
        · rw [if_pos hpq]; exact hfail
        · rw [if_neg hpq]
          rcases Int.le_total p q with hle | hle
          · rw [Int.max_eq_right hle, Int.min_eq_left hle]
            exact Trl.bind hy hyk hyn (by simp only [HU.bind]; rw [hcs]) (by simp only [HU.bind]; rw [htr])
          · rw [Int.max_eq_left hle, Int.min_eq_right hle]
            exact Trl.bind hx hxk hxn (by simp only [HU.bind]; rw [hcs]) (by simp only [HU.bind]; rw [htr])
      · rw [if_neg hyk]
        exact hfail.trans (asg_trl hg2 (by rw [hcs]; exact hx) hxk hxn)
    · rw [if_neg hxk]
      by_cases hyk : y.k = 0
      · have hyn : y.n = q := Classical.byContradiction fun e => hye ⟨hyk, e⟩
        rw [if_pos hyk]
        exact hfail.trans (asg_trl hg2 (by rw [hcs]; exact hy) hyk hyn)
      · rw [if_neg hyk]
        unfold partsU
        split
        · exact hfail.trans (all_trl (n := n) (fun x y u => uni_up f x y u) (fun x y u h hl => uni_trl f x y u h hl) _ _ _ v hg2 hl3)
        · exact hfail
theorem hpure_gu {h : HH} (hg : goodH h = true) : GU h.cs.length ⟨h.cs, h.tr, 0, false⟩ := by
  unfold goodH goodCs goodTr at hg
  simp only [Bool.and_eq_true, decide_eq_true_eq] at hg
  exact ⟨rfl, hg.1.2, fun _ => by show (0 : Nat) ≤ 400; omega, by show h.tr.length ≤ 65536 + 0; omega⟩
/-- What Unify gives when two places could be made one. -/
theorem unify_ok {h u : HH} {a b : Int} {e : Int} (hu : unifyH h a b = (u, true, e)) : goodH h = true ∧ e = 0 ∧ goodH u = true ∧ Sm u.cs a b ∧ undoH u (h.tr.length : Nat) = (h, 0) ∧ isAddr u.cs a = true ∧ isAddr u.cs b = true ∧ u.tr.length ≤ 65536 := by
  unfold unifyH at hu
  by_cases hg : goodH h = false
  · rw [if_pos hg] at hu; simp at hu
  rw [if_neg hg] at hu
  have hg : goodH h = true := by simpa using hg
  by_cases hab : (isAddr h.cs a && isAddr h.cs b) = false
  · rw [if_pos hab] at hu; simp at hu
  rw [if_neg hab] at hu
  have hab : isAddr h.cs a = true ∧ isAddr h.cs b = true := by simpa using hab
  have hG := hpure_gu hg
  have huu := uni_up 401 a b _ hG rfl
  have hone := uni_one 401 a b _ hG rfl
  have htrl := uni_trl 401 a b _ hG rfl
  generalize uniU 401 a b ⟨h.cs, h.tr, 0, false⟩ = r at *
  split at hu
  · simp at hu
  rename_i hn
  split at hu
  · simp at hu
  rename_i hok
  simp only [Prod.mk.injEq, true_and] at hu
  obtain ⟨rfl, rfl⟩ := hu
  have hok : r.1 = true := by simpa using hok
  have hlen : r.2.tr.length ≤ 65536 := by
    rcases Nat.lt_or_ge 65536 r.2.tr.length with h1 | h1
    · exact absurd (.inr ⟨hok, h1⟩) hn
    · exact h1
  obtain ⟨N, t1, t2⟩ := htrl
  replace t1 : r.2.tr = h.tr ++ N := t1
  replace t2 : Bd N h.cs r.2.cs := t2
  have hln := huu.gu.len
  have hgu : goodH ⟨r.2.cs, r.2.tr⟩ = true := by
    have hg' := hg
    unfold goodH goodCs goodTr at hg ⊢
    simp only [Bool.and_eq_true, decide_eq_true_eq, List.all_eq_true] at hg ⊢
    refine ⟨⟨by rw [hln]; exact hg.1.1, by rw [hln]; exact huu.gu.good⟩, hlen, fun s hs => ?_⟩
    rw [t1] at hs
    unfold goodTr1
    rcases List.mem_append.1 hs with hs | hs
    · have := hg.2.2 s hs
      unfold goodTr1 at this
      split at this
      · rename_i c hc
        obtain ⟨d, d1, d2⟩ := t2.kind hc
        rw [d1]; dsimp only; rw [d2]; exact this
      · cases this
    · have s0 := t2.1 s hs
      have e : ((s.toNat : Nat) : Int) = s := by omega
      obtain ⟨c, n, c1, c2, c3, c4⟩ := (t2.2 s.toNat).1 (by rw [e]; exact hs)
      rw [show hat r.2.cs s = some ⟨c.k, n, c.s⟩ by unfold hat; rw [if_pos s0]; exact c4]
      simp [c2]
  refine ⟨hg, rfl, hgu, (hone hok).sm _ (Up.refl _), ?_, ?_, ?_, hlen⟩
  · unfold undoH
    rw [if_neg (by rw [hgu]; decide), if_neg (by dsimp only; rw [t1]; simp; omega)]
    dsimp only
    rw [t1, show ((h.tr.length : Nat) : Int).toNat = h.tr.length by omega, List.drop_left, List.take_left, t2.undo]
  · have := hab.1; unfold isAddr at this ⊢; rw [hln]; exact this
  · have := hab.2; unfold isAddr at this ⊢; rw [hln]; exact this
theorem unify_not {h u : HH} {a b : Int} {e : Int} (hu : unifyH h a b = (u, false, e)) : u = h := by
  unfold unifyH at hu
  by_cases h1 : goodH h = false
  · rw [if_pos h1] at hu; simp at hu; exact hu.1.symm
  rw [if_neg h1] at hu
  by_cases h2 : (isAddr h.cs a && isAddr h.cs b) = false
  · rw [if_pos h2] at hu; simp at hu; exact hu.1.symm
  rw [if_neg h2] at hu
  split at hu
  · simp at hu; exact hu.1.symm
  · split at hu
    · simp at hu; exact hu.1.symm
    · simp at hu
/-- What is one is one again, unless that takes too long. -/
theorem unify_again {u : HH} {a b : Int} (hg : goodH u = true) (ha : isAddr u.cs a = true) (hb : isAddr u.cs b = true) (hs : Sm u.cs a b) : unifyH u a b = (u, false, 3) ∨ unifyH u a b = (u, true, 0) := by
  have hG := hpure_gu hg
  have htl : u.tr.length ≤ 65536 := by
    unfold goodH goodTr at hg
    simp only [Bool.and_eq_true, decide_eq_true_eq] at hg
    exact hg.2.1
  have hst := uni_still (L := u.cs) 401 a b _ hG rfl rfl (by show 400 ≤ 0 + 401; omega) hs
  unfold unifyH
  rw [if_neg (by rw [hg]; decide), ha, hb, if_neg (by decide)]
  generalize uniU 401 a b ⟨u.cs, u.tr, 0, false⟩ = r at *
  rcases hst with h1 | ⟨h1, h2, h3, h4, h5⟩
  · rw [if_pos (.inl h1)]; exact .inl rfl
  · replace h2 : r.2.cs = u.cs := h2
    replace h3 : r.2.tr = u.tr := h3
    rw [if_neg (by rw [h5, h3]; simp; omega), if_neg (by rw [h1]; decide), h2, h3]
    exact .inr rfl
end Go.Proofs.Ytjicoifjgokoiab
namespace Go.Proofs.Ytjicoifjgokoiab
open Go.RowKit
set_option linter.unusedVariables false
set_option linter.unusedSimpArgs false
set_option maxRecDepth 100000
set_option maxHeartbeats 1000000

theorem unifyH_len {h x : HH} {a b : Int} {ok : Bool} {e : Int} (hu : unifyH h a b = (x, ok, e)) (h1 : h.cs.length ≤ 1048576) (h2 : h.tr.length ≤ 1048576) : x.cs.length ≤ 1048576 ∧ x.tr.length ≤ 1048576 := by
  cases ok with
  | false => rw [unify_not hu]; exact ⟨h1, h2⟩
  | true =>
    have := good_len (unify_ok hu).2.2.1
    omega
theorem heapUnifies_any (h : HH) (a b : Int) (A B : Option Addr) (c d : Nat) (w : World) (hH : HFl h A c B d w) (hl1 : h.cs.length ≤ 1048576) (hl2 : h.tr.length ≤ 1048576) :
    Calls Try.prog 3 #[hv h A c B d, .int .i64 a, .int .i64 b] w fun e w' => e = .returned (.bool true) ∧ Below w.heap.size w w' := by
  have hS := (St.start w).base (φ := HFl h A c B d) fun w' hx => hH.ext hx
  have hHu : Und [HFl h A c B d] (HFl h A c B d) := Und.head
  refine goes_enter3 Try.func3 rfl Try.ntmps3 rfl ?_
  refine goes_seq ?_
  refine goes_region ?_
  refine lst_box hS rfl rfl ?_
  clear hS
  intro b1 wx1 hS
  refine lst_run (run_assign (by conv => lhs; whnf)) rfl ?_
  refine lst_done ?_
  refine goes_seq ?_
  refine goes_region ?_
  first
    | refine lst_run (run_loadN_own (k := 2) hS rfl rfl rfl (by first | exact .head | exact .tail .head | exact .tail (.tail .head) | exact .tail (.tail (.tail .head)) | exact .tail (.tail (.tail (.tail .head))) | exact .tail (.tail (.tail (.tail (.tail .head))))) (by repeat constructor)) rfl ?_
    | refine lst_run (run_load2 rfl rfl rfl (by first | assumption | exact hS.cell0 (by assumption)) (by first | assumption | exact hS.cell0 (by assumption))) rfl ?_
  refine lst_enter (run_call (by kernel_rfl) (args_1 (by conv => lhs; whnf))) rfl ?_
  refine Calls.mono (copyHeap_kept h A B c d _ hHu (by omega) (by omega) hS) ?_
  rintro _ w2 ⟨A3, c3, B3, d3, F3, rfl, hF3, hH3, hS'⟩
  refine ⟨_, rfl, ?_⟩
  replace hS := hS'
  clear hS'
  refine lst_alloc (cs := [_, _]) hS rfl rfl rfl ?_
  clear hS
  intro b2 wx2 hS
  refine lst_storeN hS rfl (by conv => lhs; whnf) rfl rfl (by first | exact .head | exact .tail .head | exact .tail (.tail .head) | exact .tail (.tail (.tail .head)) | exact .tail (.tail (.tail (.tail .head))) | exact .tail (.tail (.tail (.tail (.tail .head))))) (by repeat constructor) (by first | exact .head | exact .tail .head | exact .tail (.tail .head) | exact .tail (.tail (.tail .head)) | exact .tail (.tail (.tail (.tail .head))) | exact .tail (.tail (.tail (.tail (.tail .head))))) ?_
  clear hS
  intro wx3 hS
  refine lst_done ?_
  refine goes_seq ?_
  refine goes_region ?_
  first
    | refine lst_run (run_loadN_own (k := 2) hS rfl rfl rfl (by first | exact .head | exact .tail .head | exact .tail (.tail .head) | exact .tail (.tail (.tail .head)) | exact .tail (.tail (.tail (.tail .head))) | exact .tail (.tail (.tail (.tail (.tail .head))))) (by repeat constructor)) rfl ?_
    | refine lst_run (run_load2 rfl rfl rfl (by first | assumption | exact hS.cell0 (by assumption)) (by first | assumption | exact hS.cell0 (by assumption))) rfl ?_
  refine lst_run (run_move (by conv => lhs; whnf)) rfl ?_
  refine lst_run (run_move (by conv => lhs; whnf)) rfl ?_
  refine lst_enter (run_call (by kernel_rfl) (args_3 (by conv => lhs; whnf) (by conv => lhs; whnf) (by conv => lhs; whnf))) rfl ?_
  refine Calls.mono (unify_any h a b A3 B3 c3 d3 _ hH3 hS) ?_
  rintro _ w4 ⟨A4, c4, B4, d4, F4, rfl, hF4, hH4, hS'⟩
  refine ⟨_, rfl, ?_⟩
  replace hS := hS'
  clear hS'
  have hf4 : ∀ φ ∈ [HFl h A c B d], φ ∈ F4 := fun φ h => hF4 φ (hF3 φ h)
  refine lst_run (run_move (by conv => lhs; whnf)) rfl ?_
  refine lst_run (run_extract rfl rfl) rfl ?_
  refine lst_run (run_extract rfl rfl) rfl ?_
  refine lst_run (run_extract rfl rfl) rfl ?_
  refine lst_alloc (cs := [_, _]) hS rfl rfl rfl ?_
  clear hS
  intro b3 wx4 hS
  refine lst_storeN hS rfl (by conv => lhs; whnf) rfl rfl (by first | exact .head | exact .tail .head | exact .tail (.tail .head) | exact .tail (.tail (.tail .head)) | exact .tail (.tail (.tail (.tail .head))) | exact .tail (.tail (.tail (.tail (.tail .head))))) (by repeat constructor) (by first | exact .head | exact .tail .head | exact .tail (.tail .head) | exact .tail (.tail (.tail .head)) | exact .tail (.tail (.tail (.tail .head))) | exact .tail (.tail (.tail (.tail (.tail .head))))) ?_
  clear hS
  intro wx5 hS
  refine lst_run (run_assign (by conv => lhs; whnf)) rfl ?_
  refine lst_run (run_assign (by conv => lhs; whnf)) rfl ?_
  refine lst_done ?_
  refine goes_seq ?_
  refine goes_region ?_
  first
    | refine lst_run (run_loadN_own (k := 2) hS rfl rfl rfl (by first | exact .head | exact .tail .head | exact .tail (.tail .head) | exact .tail (.tail (.tail .head)) | exact .tail (.tail (.tail (.tail .head))) | exact .tail (.tail (.tail (.tail (.tail .head))))) (by repeat constructor)) rfl ?_
    | refine lst_run (run_load2 rfl rfl rfl (by first | assumption | exact hS.cell0 (by assumption)) (by first | assumption | exact hS.cell0 (by assumption))) rfl ?_
  refine lst_run (run_move (by conv => lhs; whnf)) rfl ?_
  refine lst_run (run_move (by conv => lhs; whnf)) rfl ?_
  refine lst_enter (run_call (by kernel_rfl) (args_3 (by conv => lhs; whnf) (by conv => lhs; whnf) (by conv => lhs; whnf))) rfl ?_
  refine Calls.mono (unifyAt_any h a b A B c d _ (hHu.mono hf4) hS) ?_
  rintro _ w5 ⟨A5, c5, B5, d5, F5, rfl, hF5, hH5, hS'⟩
  refine ⟨_, rfl, ?_⟩
  replace hS := hS'
  clear hS'
  have z1 : Und F5 (HFl h A c B d) := hHu.mono fun φ h => hF5 φ (hf4 φ h)
  have z3 : Und F5 (HFl h A3 c3 B3 d3) := hH3.mono fun φ h => hF5 φ (hF4 φ h)
  have z4 := hH4.mono hF5
  clear hH3 hH4
  generalize hr1 : unifyH h a b = r1 at *
  obtain ⟨x, ok, er⟩ := r1
  dsimp only at *
  obtain ⟨u1, u2⟩ := unifyH_len hr1 hl1 hl2
  cases ok with
  | false =>
    refine lst_run (run_move (by conv => lhs; whnf)) rfl ?_
    refine lst_run (run_extract rfl rfl) rfl ?_
    refine lst_run (run_extract rfl rfl) rfl ?_
    refine lst_run (run_extract rfl rfl) rfl ?_
    refine lst_alloc (cs := [_, _]) hS rfl rfl rfl ?_
    clear hS
    intro b4 wx6 hS
    refine lst_storeN hS rfl (by conv => lhs; whnf) rfl rfl (by first | exact .head | exact .tail .head | exact .tail (.tail .head) | exact .tail (.tail (.tail .head)) | exact .tail (.tail (.tail (.tail .head))) | exact .tail (.tail (.tail (.tail (.tail .head))))) (by repeat constructor) (by first | exact .head | exact .tail .head | exact .tail (.tail .head) | exact .tail (.tail (.tail .head)) | exact .tail (.tail (.tail (.tail .head))) | exact .tail (.tail (.tail (.tail (.tail .head))))) ?_
    clear hS
    intro wx7 hS
    refine lst_run (run_assign (by conv => lhs; whnf)) rfl ?_
    refine lst_run (run_assign (by conv => lhs; whnf)) rfl ?_
    refine lst_done ?_
    refine goes_seq ?_
    refine goes_region ?_
    first
      | refine lst_run (run_loadN_own (k := 2) hS rfl rfl rfl (by first | exact .head | exact .tail .head | exact .tail (.tail .head) | exact .tail (.tail (.tail .head)) | exact .tail (.tail (.tail (.tail .head))) | exact .tail (.tail (.tail (.tail (.tail .head))))) (by repeat constructor)) rfl ?_
      | refine lst_run (run_load2 rfl rfl rfl (by first | assumption | exact hS.cell0 (by assumption)) (by first | assumption | exact hS.cell0 (by assumption))) rfl ?_
    first
      | refine lst_run (run_loadN_own (k := 2) hS rfl rfl rfl (by first | exact .head | exact .tail .head | exact .tail (.tail .head) | exact .tail (.tail (.tail .head)) | exact .tail (.tail (.tail (.tail .head))) | exact .tail (.tail (.tail (.tail (.tail .head))))) (by repeat constructor)) rfl ?_
      | refine lst_run (run_load2 rfl rfl rfl (by first | assumption | exact hS.cell0 (by assumption)) (by first | assumption | exact hS.cell0 (by assumption))) rfl ?_
    refine lst_enter (run_call (by kernel_rfl) (args_2 (by conv => lhs; whnf) (by conv => lhs; whnf))) rfl ?_
    refine Calls.mono (sameHeap_eq x A4 B4 A5 B5 c4 d4 c5 d5 _ (hS.und z4) (hS.und hH5) (by omega) (by omega)) ?_
    rintro _ w8 ⟨rfl, hb8⟩
    refine ⟨_, rfl, ?_⟩
    replace hS := hS.grow hb8
    refine lst_run (run_move (by conv => lhs; whnf)) rfl ?_
    refine lst_guard rfl rfl ?_
    refine lst_run (run_move (by conv => lhs; whnf)) rfl ?_
    refine lst_guard rfl rfl ?_
    refine lst_run (run_move (by conv => lhs; whnf)) rfl ?_
    refine lst_guard rfl rfl ?_
    first
      | refine lst_run (run_eql_one rfl rfl rfl) rfl ?_
      | refine lst_run (run_eql_bool rfl rfl rfl) rfl ?_
    first
      | refine lst_run (run_pick_t rfl (by conv => lhs; whnf)) rfl ?_
      | refine lst_run (run_pick_f rfl (by conv => lhs; whnf)) rfl ?_
    refine lst_run (run_move (by conv => lhs; whnf)) rfl ?_
    refine lst_guard rfl rfl ?_
    refine lst_run (run_move (by conv => lhs; whnf)) rfl ?_
    refine lst_guard rfl rfl ?_
    refine lst_run (run_move (by conv => lhs; whnf)) rfl ?_
    refine lst_guard rfl rfl ?_
    first
      | refine lst_run (run_eql_one_int rfl rfl) rfl ?_
      | refine lst_run (run_eql_no rfl rfl (by first | assumption | omega)) rfl ?_
      | refine lst_run (run_eql_yes rfl rfl (by omega)) rfl ?_
      | refine lst_run (rfl) rfl ?_
    first
      | refine lst_run (run_pick_t rfl (by conv => lhs; whnf)) rfl ?_
      | refine lst_run (run_pick_f rfl (by conv => lhs; whnf)) rfl ?_
    refine lst_run (run_move (by conv => lhs; whnf)) rfl ?_
    refine lst_guard rfl rfl ?_
    first
      | refine lst_run (run_loadN_own (k := 2) hS rfl rfl rfl (by first | exact .head | exact .tail .head | exact .tail (.tail .head) | exact .tail (.tail (.tail .head)) | exact .tail (.tail (.tail (.tail .head))) | exact .tail (.tail (.tail (.tail (.tail .head))))) (by repeat constructor)) rfl ?_
      | refine lst_run (run_load2 rfl rfl rfl (by first | assumption | exact hS.cell0 (by assumption)) (by first | assumption | exact hS.cell0 (by assumption))) rfl ?_
    refine lst_guard rfl rfl ?_
    first
      | refine lst_run (run_loadN_own (k := 2) hS rfl rfl rfl (by first | exact .head | exact .tail .head | exact .tail (.tail .head) | exact .tail (.tail (.tail .head)) | exact .tail (.tail (.tail (.tail .head))) | exact .tail (.tail (.tail (.tail (.tail .head))))) (by repeat constructor)) rfl ?_
      | refine lst_run (run_load2 rfl rfl rfl (by first | assumption | exact hS.cell0 (by assumption)) (by first | assumption | exact hS.cell0 (by assumption))) rfl ?_
    refine lst_guard rfl rfl ?_
    refine lst_enter (run_call (by kernel_rfl) (args_2 (by conv => lhs; whnf) (by conv => lhs; whnf))) rfl ?_
    refine Calls.mono (sameHeap_eq h A3 B3 A B c3 d3 c d _ (hS.und z3) (hS.und z1) (by omega) (by omega)) ?_
    rintro _ w12 ⟨rfl, hb12⟩
    refine ⟨_, rfl, ?_⟩
    replace hS := hS.grow hb12
    first
      | refine lst_run (run_pick_t rfl (by conv => lhs; whnf)) rfl ?_
      | refine lst_run (run_pick_f rfl (by conv => lhs; whnf)) rfl ?_
    refine lst_run (run_move (by conv => lhs; whnf)) rfl ?_
    refine lst_guard rfl rfl ?_
    refine lst_enter (run_call (by kernel_rfl) args_nil) rfl ?_
    refine Calls.mono (heapsL_any _) ?_
    rintro _ w13 ⟨rfl, hb13⟩
    refine ⟨_, rfl, ?_⟩
    replace hS := hS.grow hb13
    first
      | refine lst_run (run_pick_t rfl (by conv => lhs; whnf)) rfl ?_
      | refine lst_run (run_pick_f rfl (by conv => lhs; whnf)) rfl ?_
    refine lst_run (run_assign (by conv => lhs; whnf)) rfl ?_
    refine lst_done ?_
    refine goes_ret1 Try.func3 rfl (by conv => lhs; whnf) ?_
    exact ⟨rfl, hS.ext.below⟩
  | true =>
    refine lst_run (run_move (by conv => lhs; whnf)) rfl ?_
    refine lst_run (run_extract rfl rfl) rfl ?_
    refine lst_run (run_extract rfl rfl) rfl ?_
    refine lst_run (run_extract rfl rfl) rfl ?_
    refine lst_alloc (cs := [_, _]) hS rfl rfl rfl ?_
    clear hS
    intro b4 wx6 hS
    refine lst_storeN hS rfl (by conv => lhs; whnf) rfl rfl (by first | exact .head | exact .tail .head | exact .tail (.tail .head) | exact .tail (.tail (.tail .head)) | exact .tail (.tail (.tail (.tail .head))) | exact .tail (.tail (.tail (.tail (.tail .head))))) (by repeat constructor) (by first | exact .head | exact .tail .head | exact .tail (.tail .head) | exact .tail (.tail (.tail .head)) | exact .tail (.tail (.tail (.tail .head))) | exact .tail (.tail (.tail (.tail (.tail .head))))) ?_
    clear hS
    intro wx7 hS
    refine lst_run (run_assign (by conv => lhs; whnf)) rfl ?_
    refine lst_run (run_assign (by conv => lhs; whnf)) rfl ?_
    refine lst_done ?_
    refine goes_seq ?_
    refine goes_region ?_
    first
      | refine lst_run (run_loadN_own (k := 2) hS rfl rfl rfl (by first | exact .head | exact .tail .head | exact .tail (.tail .head) | exact .tail (.tail (.tail .head)) | exact .tail (.tail (.tail (.tail .head))) | exact .tail (.tail (.tail (.tail (.tail .head))))) (by repeat constructor)) rfl ?_
      | refine lst_run (run_load2 rfl rfl rfl (by first | assumption | exact hS.cell0 (by assumption)) (by first | assumption | exact hS.cell0 (by assumption))) rfl ?_
    first
      | refine lst_run (run_loadN_own (k := 2) hS rfl rfl rfl (by first | exact .head | exact .tail .head | exact .tail (.tail .head) | exact .tail (.tail (.tail .head)) | exact .tail (.tail (.tail (.tail .head))) | exact .tail (.tail (.tail (.tail (.tail .head))))) (by repeat constructor)) rfl ?_
      | refine lst_run (run_load2 rfl rfl rfl (by first | assumption | exact hS.cell0 (by assumption)) (by first | assumption | exact hS.cell0 (by assumption))) rfl ?_
    refine lst_enter (run_call (by kernel_rfl) (args_2 (by conv => lhs; whnf) (by conv => lhs; whnf))) rfl ?_
    refine Calls.mono (sameHeap_eq x A4 B4 A5 B5 c4 d4 c5 d5 _ (hS.und z4) (hS.und hH5) (by omega) (by omega)) ?_
    rintro _ w8 ⟨rfl, hb8⟩
    refine ⟨_, rfl, ?_⟩
    replace hS := hS.grow hb8
    refine lst_run (run_move (by conv => lhs; whnf)) rfl ?_
    refine lst_guard rfl rfl ?_
    refine lst_run (run_move (by conv => lhs; whnf)) rfl ?_
    refine lst_guard rfl rfl ?_
    refine lst_run (run_move (by conv => lhs; whnf)) rfl ?_
    refine lst_guard rfl rfl ?_
    first
      | refine lst_run (run_eql_one rfl rfl rfl) rfl ?_
      | refine lst_run (run_eql_bool rfl rfl rfl) rfl ?_
    first
      | refine lst_run (run_pick_t rfl (by conv => lhs; whnf)) rfl ?_
      | refine lst_run (run_pick_f rfl (by conv => lhs; whnf)) rfl ?_
    refine lst_run (run_move (by conv => lhs; whnf)) rfl ?_
    refine lst_guard rfl rfl ?_
    refine lst_run (run_move (by conv => lhs; whnf)) rfl ?_
    refine lst_guard rfl rfl ?_
    refine lst_run (run_move (by conv => lhs; whnf)) rfl ?_
    refine lst_guard rfl rfl ?_
    first
      | refine lst_run (run_eql_one_int rfl rfl) rfl ?_
      | refine lst_run (run_eql_no rfl rfl (by first | assumption | omega)) rfl ?_
      | refine lst_run (run_eql_yes rfl rfl (by omega)) rfl ?_
      | refine lst_run (rfl) rfl ?_
    first
      | refine lst_run (run_pick_t rfl (by conv => lhs; whnf)) rfl ?_
      | refine lst_run (run_pick_f rfl (by conv => lhs; whnf)) rfl ?_
    refine lst_run (run_move (by conv => lhs; whnf)) rfl ?_
    refine lst_guard rfl rfl ?_
    first
      | refine lst_run (run_loadN_own (k := 2) hS rfl rfl rfl (by first | exact .head | exact .tail .head | exact .tail (.tail .head) | exact .tail (.tail (.tail .head)) | exact .tail (.tail (.tail (.tail .head))) | exact .tail (.tail (.tail (.tail (.tail .head))))) (by repeat constructor)) rfl ?_
      | refine lst_run (run_load2 rfl rfl rfl (by first | assumption | exact hS.cell0 (by assumption)) (by first | assumption | exact hS.cell0 (by assumption))) rfl ?_
    refine lst_guard rfl rfl ?_
    first
      | refine lst_run (run_loadN_own (k := 2) hS rfl rfl rfl (by first | exact .head | exact .tail .head | exact .tail (.tail .head) | exact .tail (.tail (.tail .head)) | exact .tail (.tail (.tail (.tail .head))) | exact .tail (.tail (.tail (.tail (.tail .head))))) (by repeat constructor)) rfl ?_
      | refine lst_run (run_load2 rfl rfl rfl (by first | assumption | exact hS.cell0 (by assumption)) (by first | assumption | exact hS.cell0 (by assumption))) rfl ?_
    refine lst_guard rfl rfl ?_
    refine lst_enter (run_call (by kernel_rfl) (args_2 (by conv => lhs; whnf) (by conv => lhs; whnf))) rfl ?_
    refine Calls.mono (sameHeap_eq h A3 B3 A B c3 d3 c d _ (hS.und z3) (hS.und z1) (by omega) (by omega)) ?_
    rintro _ w12 ⟨rfl, hb12⟩
    refine ⟨_, rfl, ?_⟩
    replace hS := hS.grow hb12
    first
      | refine lst_run (run_pick_t rfl (by conv => lhs; whnf)) rfl ?_
      | refine lst_run (run_pick_f rfl (by conv => lhs; whnf)) rfl ?_
    refine lst_run (run_move (by conv => lhs; whnf)) rfl ?_
    refine lst_guard rfl rfl ?_
    refine lst_enter (run_call (by kernel_rfl) args_nil) rfl ?_
    refine Calls.mono (heapsL_any _) ?_
    rintro _ w13 ⟨rfl, hb13⟩
    refine ⟨_, rfl, ?_⟩
    replace hS := hS.grow hb13
    first
      | refine lst_run (run_pick_t rfl (by conv => lhs; whnf)) rfl ?_
      | refine lst_run (run_pick_f rfl (by conv => lhs; whnf)) rfl ?_
    refine lst_run (run_assign (by conv => lhs; whnf)) rfl ?_
    refine lst_done ?_
    refine goes_ret1 Try.func3 rfl (by conv => lhs; whnf) ?_
    exact ⟨rfl, hS.ext.below⟩
end Go.Proofs.Ytjicoifjgokoiab
namespace Go.Proofs.Ytjicoifjgokoiab
open Go.RowKit Go.ChangeShapes Go.WideShapes Go.ChangeAt
set_option maxRecDepth 100000

theorem Try.laidOut : laidOutB Try.prog = true := by kernel_rfl
theorem Try.own : ownKnob Try.prog.godebug = none := by kernel_rfl
theorem cells_term : Try.prog.cellsOf 39 = 4 := by kernel_rfl
theorem cells_int : Try.prog.cellsOf 3 = 1 := by kernel_rfl
theorem cells_string : Try.prog.cellsOf 9 = 1 := by kernel_rfl
theorem cells_terms : Try.prog.cellsOf 37 = 1 := by kernel_rfl

section
variable {H : Type} {enc : TypeId × Value → H} {w : World} {base : Nat} {spare : Nat → Bool} {held : Bool}

theorem bulk_pos (d : DataW H) : 1 ≤ Rows.uptoBulk d := by
  cases d with
  | lit l => cases l <;> simp [Rows.uptoBulk]
  | nil => simp [Rows.uptoBulk]
  | ptr d => simp [Rows.uptoBulk]
  | slice elems spare => simp [Rows.uptoBulk]
  | agg parts => simp [Rows.uptoBulk]
  | iface t d => simp [Rows.uptoBulk]
  | map entries => simp [Rows.uptoBulk]
  | held h => simp [Rows.uptoBulk]
theorem bulk_mem {l : List (DataW H)} : ∀ {i : Nat} {d : DataW H}, l[i]? = some d → Rows.uptoBulk d ≤ Rows.uptoBulkAll l := by
  induction l with
  | nil => intro i d h; simp at h
  | cons x r ih =>
    intro i d h
    cases i with
    | zero => simp at h; subst h; simp [Rows.uptoBulkAll]
    | succ i =>
      have := ih (i := i) (d := d) (by simpa using h)
      simp only [Rows.uptoBulkAll]; omega

/-- The cells of one term, read. -/
theorem open_cells {fuel : Nat} {cs : List Value} {x : DataW H × List MemPlace} (h : DataW.trod enc Try.prog w base spare held fuel 39 cs = some x) :
    ∃ (k n : Int) (s : ByteArray) (v : Value) (y : DataW H × List MemPlace) (m : Nat), cs = [.int .i64 k, .int .i64 n, .string s, v] ∧ DataW.trod enc Try.prog w base spare held m 37 [v] = some y ∧
      Rows.uptoBulk y.1 + 1 ≤ Rows.uptoBulk x.1 ∧ (Lit.int .i64 k).wf = true ∧ (Lit.int .i64 n).wf = true ∧ s.size ≤ maxLen ∧ s.size + Rows.uptoBulk y.1 + 3 ≤ Rows.uptoBulk x.1 := by
  obtain ⟨xs, m, _, hx, hlen, hxl, hf⟩ := DataW.trod_struct Try.underlying39 h
  rw [cells_term] at hlen
  have f0 : DataW.trod enc Try.prog w base spare held m 3 ((cs.drop 0).take (Try.prog.cellsOf 3)) = xs[0]? := hf 0 _ rfl
  have f1 : DataW.trod enc Try.prog w base spare held m 3 ((cs.drop 1).take (Try.prog.cellsOf 3)) = xs[1]? := hf 1 _ rfl
  have f2 : DataW.trod enc Try.prog w base spare held m 9 ((cs.drop 2).take (Try.prog.cellsOf 9)) = xs[2]? := hf 2 _ rfl
  have f3 : DataW.trod enc Try.prog w base spare held m 37 ((cs.drop 3).take (Try.prog.cellsOf 37)) = xs[3]? := hf 3 _ rfl
  rw [cells_int] at f0 f1
  rw [cells_string] at f2
  rw [cells_terms] at f3
  match cs, hlen, xs, hxl, hx with
  | [c0, c1, c2, c3], _, [y0, y1, y2, y3], _, hx =>
    simp only [List.drop_zero, List.drop_succ_cons, List.take_succ_cons, List.take_zero, List.getElem?_cons_zero, List.getElem?_cons_succ] at f0 f1 f2 f3
    obtain ⟨k, e0, r0, w0⟩ := DataW.trod_int Try.underlying3 f0
    obtain ⟨n, e1, r1, w1⟩ := DataW.trod_int Try.underlying3 f1
    obtain ⟨s, e2, r2, w2⟩ := DataW.trod_string Try.underlying9 f2
    simp only [List.cons.injEq, and_true] at e0 e1 e2
    subst e0 e1 e2 hx r0 r1 r2
    have h3 := bulk_pos y3.1
    have hsz : s.data.toList.length = s.size := by rw [Array.length_toList]; rfl
    refine ⟨k, n, s, c3, y3, m, rfl, f3, ?_, w0, w1, w2, ?_⟩
    · simp only [List.map_cons, List.map_nil, Rows.uptoBulk, Rows.uptoBulkAll]; omega
    · simp only [List.map_cons, List.map_nil, Rows.uptoBulk, Rows.uptoBulkAll]; omega

theorem addr_add {a : Addr} {i : Nat} {u : Value} (h : w.cell? (a.add i) = some u) (ha : a.spot = none) : w.cell? ⟨a.block, a.off + i, none⟩ = some u := by
  unfold Addr.add at h
  split at h
  · rename_i e
    subst e
    obtain ⟨b, o, sp⟩ := a
    simp only at ha
    subst ha
    simpa using h
  · exact h

/-- A slice of terms, read: it is a list of terms, of no more nodes than what was read holds. -/
theorem open_terms : ∀ (b fuel : Nat) (v : Value) (x : DataW H × List MemPlace), Rows.uptoBulk x.1 ≤ b → DataW.trod enc Try.prog w base spare held fuel 37 [v] = some x →
    ∃ T : Ts, Sl w (fun _ => True) v T ∧ T.nodes < Rows.uptoBulk x.1 := by
  intro b
  induction b with
  | zero => intro fuel v x hb _; have := bulk_pos x.1; omega
  | succ b ih =>
    intro fuel v x hb h
    rcases Deep.open_slice Try.underlying37 h with ⟨e, rfl⟩ | ⟨a, len, cap, m, n, D, Pl, e, _, hl, _, hm, rfl, hi⟩
    · simp only [List.cons.injEq, and_true] at e
      subst e
      exact ⟨.nil, Sl.nil _ _, by simp [Rows.uptoBulk, Ts.nodes]⟩
    · simp only [List.cons.injEq, and_true] at e
      subst e
      rw [cells_term] at hi
      have hml : len ≤ m := by rw [hm]; split <;> omega
      have hbulk : ∀ j, j < len → Rows.uptoBulk (D j) ≤ Rows.uptoBulkAll ((List.range len).map D) := fun j hj => bulk_mem (i := j) (by simp [hj])
      simp only [Rows.uptoBulk] at hb ⊢
      have hspot : 0 < len → a.spot = none := fun hp => by
        obtain ⟨cs, hc, ht⟩ := hi 0 (by omega)
        obtain ⟨k, n', s, v', y, m', rfl, _⟩ := open_cells ht
        obtain ⟨_, _, hat⟩ := World.cells?_some hc
        have h0 := hat 0 (by omega)
        simp only [Nat.zero_mul, Addr.add, if_true, List.getElem?_cons_zero] at h0
        unfold World.cell? at h0
        split at h0
        · split at h0
          · cases h0
          · rename_i hs; simpa using hs
        · cases h0
      have key : ∀ r j, j + r = len → ∃ T : Ts, T.length = r ∧ Seg w (fun _ => True) T a.block (a.off + j * 4) ∧ T.nodes ≤ Rows.uptoBulkAll ((List.range' j r).map D) := by
        intro r
        induction r with
        | zero => intro j _; exact ⟨.nil, rfl, trivial, Nat.zero_le _⟩
        | succ r ihr =>
          intro j hj
          obtain ⟨T, hT1, hT2, hT3⟩ := ihr (j + 1) (by omega)
          obtain ⟨cs, hc, ht⟩ := hi j (by omega)
          obtain ⟨k, n', s, v', y, m', rfl, hy, hyb, _⟩ := open_cells ht
          obtain ⟨_, _, hat⟩ := World.cells?_some hc
          have hbj := hbulk j (by omega)
          simp only at hyb
          obtain ⟨U, hU1, hU2⟩ := ih m' v' y (by omega) hy
          have hsp := hspot (by omega)
          have hcell : ∀ q u, q < 4 → [Value.int .i64 k, .int .i64 n', .string s, v'][q]? = some u → w.cell? ⟨a.block, a.off + j * 4 + q, none⟩ = some u := fun q u hq hu => by
            have h1 := (hat q hq).trans hu
            rw [Deep.add_add] at h1
            have h2 := addr_add h1 hsp
            rwa [← Nat.add_assoc] at h2
          refine ⟨.cons k n' s U T, by simp [Ts.length, hT1], ?_, ?_⟩
          · refine seg_cons.2 ⟨trivial, by simpa using hcell 0 _ (by omega) rfl, hcell 1 _ (by omega) rfl, hcell 2 _ (by omega) rfl, ⟨v', hcell 3 _ (by omega) rfl, hU1⟩, ?_⟩
            rw [show a.off + j * 4 + 4 = a.off + (j + 1) * 4 by omega]
            exact hT2
          · simp only [List.range'_succ, List.map_cons, Rows.uptoBulkAll, Ts.nodes]
            omega
      obtain ⟨T, h1, h2, h3⟩ := key len 0 (by omega)
      refine ⟨T, ⟨some a, cap, by rw [h1], by omega, fun hp => ⟨a.block, a.off, ?_, by simpa using h2⟩⟩, ?_⟩
      · have := hspot (by omega)
        obtain ⟨b', o', sp⟩ := a
        simp only at this
        rw [this]
      · rw [← List.range_eq_range'] at h3
        omega
end

/-- One term as an argument. -/
theorem open_term {H : Type} {enc : TypeId × Value → H} {W : World} {base0 : Nat} {v : Value} {d : DataW H} {p : List MemPlace} (hv : Value.okWide Try.prog W .any base0 39 v) (h : DataW.Trod enc Try.prog W 0 (fun _ => true) true 39 v d p) :
    ∃ (k n : Int) (s : ByteArray) (u : Value) (T : Ts), v = .agg #[.int .i64 k, .int .i64 n, .string s, u] ∧ Sl W (fun _ => True) u T ∧ T.nodes + 1 < Rows.uptoBulk d ∧ (Lit.int .i64 k).wf = true ∧ (Lit.int .i64 n).wf = true ∧ s.size ≤ maxLen := by
  obtain ⟨cs, rfl, hsz⟩ := okWide_struct Try.underlying39 hv
  obtain ⟨fuel, hf⟩ := h
  obtain ⟨k, n, s, u, y, m, e, hy, hb, w0, w1, w2, _⟩ := open_cells hf
  obtain ⟨T, h1, h2⟩ := open_terms _ m u y (Nat.le_refl _) hy
  refine ⟨k, n, s, u, T, ?_, h1, by simp only at hb; omega, w0, w1, w2⟩
  have e' : cs.toList = [.int .i64 k, .int .i64 n, .string s, u] := e
  rw [← e']
/-- A slice of terms as an argument. -/
theorem open_termsArg {H : Type} {enc : TypeId × Value → H} {W : World} {v : Value} {d : DataW H} {p : List MemPlace} (hv : v.cells.toList = [v]) (h : DataW.Trod enc Try.prog W 0 (fun _ => true) true 37 v d p) :
    ∃ T : Ts, Sl W (fun _ => True) v T ∧ T.nodes < Rows.uptoBulk d := by
  obtain ⟨fuel, hf⟩ := h
  rw [hv] at hf
  exact open_terms _ fuel v _ (Nat.le_refl _) hf

theorem trodAll_below {H : Type} {enc : TypeId × Value → H} {P : Program} (hl : laidOutB P = true) {W W' : World} (hb : Below W.heap.size W W') : ∀ {ts : List TypeId} {vs : List Value} {ds : List (DataW H)} {ps : List MemPlace}, (∀ t ∈ ts, P.readableRec t = true ∧ t < P.types.size) →
    DataW.TrodAll enc P W 0 (fun _ => true) true ts vs ds ps → (∀ x ∈ ps, x.block < W.heap.size) → DataW.TrodAll enc P W' 0 (fun b => decide (b < W.heap.size)) true ts vs ds ps
  | [], [], [], _, _, h, _ => h
  | [], [], _ :: _, _, _, h, _ => h.elim
  | [], _ :: _, _, _, _, h, _ => h.elim
  | _ :: _, [], _, _, _, h, _ => h.elim
  | _ :: _, _ :: _, [], _, _, h, _ => h.elim
  | t :: ts, v :: vs, d :: ds, ps, ht, ⟨p, q, h1, h2, e⟩, hlt => by
    subst e
    obtain ⟨a, b⟩ := ht t (List.mem_cons_self ..)
    exact ⟨p, q, Below.trod hl a b h1 hb fun x hx => hlt x (List.mem_append_left _ hx), trodAll_below hl hb (fun t ht' => ht t (List.mem_cons_of_mem _ ht')) h2 fun x hx => hlt x (List.mem_append_right _ hx), rfl⟩

/-- Behind a law's walk: it answered true, and of what was there nothing has turned. -/
theorem law_post {H : Type} {enc : TypeId × Value → H} {P : Program} {f : Func} {s : ChangeSpec} {W W' : World} {args : Array Value} {ds gs : List (DataW H)} {before : List MemPlace} (hl : laidOutB P = true) {bt : TypeId}
    (hres : f.resultTypes = #[bt]) (hbt : P.underlying bt = some .bool) (ht : (f.params.toList.all fun t => P.readableRec t && decide (t < P.types.size)) = true) (hvars : s.vars = [])
    (hfn : (s.fn H (ds ++ gs)).results = [.lit (.bool true)] ∧ (s.fn H (ds ++ gs)).args = ds ∧ (s.fn H (ds ++ gs)).vars = [])
    (hW : DataW.Whole enc P f.params.toList s.vars false W args.toList ds gs before) (hb : Below W.heap.size W W') :
    s.post enc P f false true false false W args (.bool true) W' := by
  have hlt := hW.lt
  have hW' := hW
  obtain ⟨p, q, hA, hV, rfl, hfz, hnd⟩ := hW
  refine ⟨ds, gs, p ++ q, [], p, [], hW', ?_, ?_, ?_, ?_, fun h => by cases h⟩
  · rw [hfn.1, hres]
    exact trodAll_cons_mk (shut_bool hbt _) trodAll_mk0
  · rw [hfn.2.1]
    exact trodAll_below hl hb (fun t h => by have := List.all_eq_true.1 ht t h; simpa using this) hA fun x hx => hlt x (List.mem_append_left _ hx)
  · rw [hfn.2.2, hvars]
    rfl
  · exact hb.frame _
end Go.Proofs.Ytjicoifjgokoiab
namespace Go.Proofs.Ytjicoifjgokoiab
open Go.RowKit Go.ChangeShapes Go.WideShapes Go.ChangeAt
set_option maxRecDepth 100000
set_option linter.unusedVariables false

theorem cells_cell : Try.prog.cellsOf 59 = 3 := by kernel_rfl
theorem cells_ccells : Try.prog.cellsOf 22 = 1 := by kernel_rfl
theorem cells_ints : Try.prog.cellsOf 23 = 1 := by kernel_rfl
theorem cells_heap : Try.prog.cellsOf 25 = 2 := by kernel_rfl

section
variable {H : Type} {enc : TypeId × Value → H} {w : World} {base : Nat} {spare : Nat → Bool} {held : Bool}
/-- A slice of elements that are read alike. -/
theorem open_flat {α : Type} (f : α → List Value) {sz st el : Nat} (hf : ∀ x, (f x).length = sz) (h0 : 0 < sz) (hst : Try.prog.underlying st = some (.slice el)) (hsz : Try.prog.cellsOf el = sz)
    (hel : ∀ (m : Nat) (cs : List Value) (x : DataW H × List MemPlace), DataW.trod enc Try.prog w base spare held m el cs = some x → ∃ a, cs = f a)
    {fuel : Nat} {v : Value} {x : DataW H × List MemPlace} (h : DataW.trod enc Try.prog w base spare held fuel st [v] = some x) :
    ∃ (L : List α) (A : Option Addr) (c : Nat), v = .slice A L.length c ∧ Flat sz (L.flatMap f) A L.length c w ∧ L.length ≤ 9223372036854775807 ∧ L.length < Rows.uptoBulk x.1 := by
  rcases Deep.open_slice hst h with ⟨e, rfl⟩ | ⟨a, len, cap, m, n, D, Pl, e, _, hl, hcm, hm, rfl, hi⟩
  · simp only [List.cons.injEq, and_true] at e
    subst e
    exact ⟨[], none, 0, rfl, Flat.nil_ _ _ _, by simp, by simp [Rows.uptoBulk]⟩
  · simp only [List.cons.injEq, and_true] at e
    subst e
    rw [hsz] at hi
    have hml : len ≤ m := by rw [hm]; split <;> omega
    have hspot : 0 < len → a.spot = none := fun hp => by
      obtain ⟨cs, hc, ht⟩ := hi 0 (by omega)
      obtain ⟨y, rfl⟩ := hel _ _ _ ht
      obtain ⟨_, _, hat⟩ := World.cells?_some hc
      have h1 := hat 0 (by omega)
      simp only [Nat.zero_mul, Addr.add, if_true] at h1
      rw [List.getElem?_eq_getElem (by rw [hf]; exact h0)] at h1
      unfold World.cell? at h1
      split at h1
      · split at h1
        · cases h1
        · rename_i hs; simpa using hs
      · cases h1
    have key : ∀ r j, j + r = len → ∃ L : List α, L.length = r ∧ (∀ q u, (L.flatMap f)[q]? = some u → w.cell? ⟨a.block, a.off + j * sz + q, none⟩ = some u) ∧ (L.flatMap f).length = r * sz ∧ r ≤ Rows.uptoBulkAll ((List.range' j r).map D) := by
      intro r
      induction r with
      | zero => intro j _; exact ⟨[], rfl, fun q u hq => by simp at hq, by simp, Nat.zero_le _⟩
      | succ r ihr =>
        intro j hj
        obtain ⟨L, hT1, hT2, hT3, hT4⟩ := ihr (j + 1) (by omega)
        obtain ⟨cs, hc, ht⟩ := hi j (by omega)
        obtain ⟨y, rfl⟩ := hel _ _ _ ht
        obtain ⟨_, _, hat⟩ := World.cells?_some hc
        have hsp := hspot (by omega)
        refine ⟨y :: L, by simp [hT1], fun q u hq => ?_, ?_, ?_⟩
        · rw [List.flatMap_cons] at hq
          by_cases hql : q < sz
          · rw [List.getElem?_append_left (by rw [hf]; exact hql)] at hq
            have h1 := (hat q hql).trans hq
            rw [Deep.add_add] at h1
            have h2 := addr_add h1 hsp
            rwa [← Nat.add_assoc] at h2
          · rw [List.getElem?_append_right (by rw [hf]; omega), hf] at hq
            have := hT2 _ _ hq
            rw [Nat.add_mul] at this
            rw [show a.off + j * sz + q = a.off + (j * sz + 1 * sz) + (q - sz) by omega]
            exact this
        · rw [List.flatMap_cons, List.length_append, hT3, hf, Nat.add_mul]; omega
        · simp only [List.range'_succ, List.map_cons, Rows.uptoBulkAll]
          have := bulk_pos (D j)
          omega
    obtain ⟨L, h1, h2, h3, h4⟩ := key len 0 (by omega)
    rw [← List.range_eq_range'] at h4
    refine ⟨L, some a, cap, by rw [h1], ⟨by rw [h3, h1], by omega, fun hp => ⟨a.block, a.off, ?_, by simpa using h2⟩⟩, by rw [h1]; have : maxLen = 9223372036854775807 := rfl; omega, ?_⟩
    · have := hspot (by omega)
      obtain ⟨b', o', sp⟩ := a
      simp only at this
      rw [this]
    · rw [h1]; simp only [Rows.uptoBulk]; omega
theorem open_intC {m : Nat} {cs : List Value} {x : DataW H × List MemPlace} (h : DataW.trod enc Try.prog w base spare held m 3 cs = some x) : ∃ a : Int, cs = [.int .i64 a] := by
  obtain ⟨k, e0, _, _⟩ := DataW.trod_int Try.underlying3 h
  exact ⟨k, e0⟩
theorem open_cellC {m : Nat} {cs : List Value} {x : DataW H × List MemPlace} (h : DataW.trod enc Try.prog w base spare held m 59 cs = some x) : ∃ c : HC, cs = hcs c := by
  obtain ⟨xs, m, _, hx, hlen, hxl, hf⟩ := DataW.trod_struct Try.underlying59 h
  rw [cells_cell] at hlen
  have f0 : DataW.trod enc Try.prog w base spare held m 3 ((cs.drop 0).take (Try.prog.cellsOf 3)) = xs[0]? := hf 0 _ rfl
  have f1 : DataW.trod enc Try.prog w base spare held m 3 ((cs.drop 1).take (Try.prog.cellsOf 3)) = xs[1]? := hf 1 _ rfl
  have f2 : DataW.trod enc Try.prog w base spare held m 9 ((cs.drop 2).take (Try.prog.cellsOf 9)) = xs[2]? := hf 2 _ rfl
  rw [cells_int] at f0 f1
  rw [cells_string] at f2
  match cs, hlen, xs, hxl, hx with
  | [c0, c1, c2], _, [y0, y1, y2], _, hx =>
    simp only [List.drop_zero, List.drop_succ_cons, List.take_succ_cons, List.take_zero, List.getElem?_cons_zero, List.getElem?_cons_succ] at f0 f1 f2
    obtain ⟨k, e0, r0, w0⟩ := DataW.trod_int Try.underlying3 f0
    obtain ⟨n, e1, r1, w1⟩ := DataW.trod_int Try.underlying3 f1
    obtain ⟨s, e2, r2, w2⟩ := DataW.trod_string Try.underlying9 f2
    simp only [List.cons.injEq, and_true] at e0 e1 e2
    subst e0 e1 e2
    exact ⟨⟨k, n, s⟩, rfl⟩
theorem hcsL_flat (L : List HC) : L.flatMap hcs = hcsL L := by
  induction L with
  | nil => rfl
  | cons c r ih => rw [List.flatMap_cons, ih]; rfl
theorem intsV_flat (L : List Int) : (L.flatMap fun x => [Value.int .i64 x]) = intsV L := by
  induction L with
  | nil => rfl
  | cons c r ih => rw [List.flatMap_cons, ih]; rfl
theorem open_intsT {fuel : Nat} {v : Value} {x : DataW H × List MemPlace} (h : DataW.trod enc Try.prog w base spare held fuel 23 [v] = some x) :
    ∃ (L : List Int) (A : Option Addr) (c : Nat), v = .slice A L.length c ∧ Flat 1 (intsV L) A L.length c w ∧ L.length ≤ 9223372036854775807 ∧ L.length < Rows.uptoBulk x.1 := by
  have := open_flat (α := Int) (fun x => [Value.int .i64 x]) (sz := 1) (fun _ => rfl) (by omega) Try.underlying23 cells_int (fun m cs x h => open_intC h) h
  simpa only [intsV_flat] using this
theorem open_cellsT {fuel : Nat} {v : Value} {x : DataW H × List MemPlace} (h : DataW.trod enc Try.prog w base spare held fuel 22 [v] = some x) :
    ∃ (L : List HC) (A : Option Addr) (c : Nat), v = .slice A L.length c ∧ Flat 3 (hcsL L) A L.length c w ∧ L.length ≤ 9223372036854775807 ∧ L.length < Rows.uptoBulk x.1 := by
  have := open_flat (α := HC) hcs (sz := 3) (fun _ => rfl) (by omega) Try.underlying22 cells_cell (fun m cs x h => open_cellC h) h
  simpa only [hcsL_flat] using this
end
/-- A list of numbers, as an argument. -/
theorem open_intsArg {H : Type} {enc : TypeId × Value → H} {W : World} {v : Value} {d : DataW H} {p : List MemPlace} (hv : v.cells.toList = [v]) (h : DataW.Trod enc Try.prog W 0 (fun _ => true) true 23 v d p) :
    ∃ (L : List Int) (A : Option Addr) (c : Nat), v = .slice A L.length c ∧ Flat 1 (intsV L) A L.length c W ∧ L.length ≤ 9223372036854775807 ∧ L.length < Rows.uptoBulk d := by
  obtain ⟨fuel, hf⟩ := h
  rw [hv] at hf
  exact open_intsT hf
/-- A list of cells, as an argument. -/
theorem open_cellsArg {H : Type} {enc : TypeId × Value → H} {W : World} {v : Value} {d : DataW H} {p : List MemPlace} (hv : v.cells.toList = [v]) (h : DataW.Trod enc Try.prog W 0 (fun _ => true) true 22 v d p) :
    ∃ (L : List HC) (A : Option Addr) (c : Nat), v = .slice A L.length c ∧ Flat 3 (hcsL L) A L.length c W ∧ L.length ≤ 9223372036854775807 ∧ L.length < Rows.uptoBulk d := by
  obtain ⟨fuel, hf⟩ := h
  rw [hv] at hf
  exact open_cellsT hf
/-- A heap, as an argument. -/
theorem open_heapArg {H : Type} {enc : TypeId × Value → H} {W : World} {b : Nat} {v : Value} {d : DataW H} {p : List MemPlace} (hok : Value.okWide Try.prog W .any b 25 v) (h : DataW.Trod enc Try.prog W 0 (fun _ => true) true 25 v d p) :
    ∃ (h : HH) (A : Option Addr) (c : Nat) (B : Option Addr) (e : Nat), v = hv h A c B e ∧ HFl h A c B e W ∧ h.cs.length ≤ 9223372036854775807 ∧ h.tr.length ≤ 9223372036854775807 ∧ h.cs.length + h.tr.length < Rows.uptoBulk d := by
  obtain ⟨fuel, h⟩ := h
  obtain ⟨cs, rfl, hsz⟩ := okWide_struct Try.underlying25 hok
  obtain ⟨xs, m, _, hx, hlen, hxl, hf⟩ := DataW.trod_struct Try.underlying25 h
  rw [cells_heap] at hlen
  obtain ⟨cs⟩ := cs
  replace hf : ∀ i fd, _ → _ := hf
  have f0 : DataW.trod enc Try.prog W 0 (fun _ => true) true m 22 ((cs.drop 0).take (Try.prog.cellsOf 22)) = xs[0]? := hf 0 _ rfl
  have f1 : DataW.trod enc Try.prog W 0 (fun _ => true) true m 23 ((cs.drop 1).take (Try.prog.cellsOf 23)) = xs[1]? := hf 1 _ rfl
  rw [cells_ccells] at f0
  rw [cells_ints] at f1
  replace hlen : cs.length = 2 := hlen
  match cs, hlen, xs, hxl, hx with
  | [c0, c1], _, [y0, y1], _, hx =>
    simp only [List.drop_zero, List.drop_succ_cons, List.take_succ_cons, List.take_zero, List.getElem?_cons_zero, List.getElem?_cons_succ] at f0 f1
    obtain ⟨L, A, c, rfl, hL, hl, hlb⟩ := open_cellsT f0
    obtain ⟨T, B, e, rfl, hT, ht, htb⟩ := open_intsT f1
    have hd := congrArg (fun q => Rows.uptoBulk q.1) hx
    simp only [List.map_cons, List.map_nil, Rows.uptoBulk, Rows.uptoBulkAll] at hd
    exact ⟨⟨L, T⟩, A, c, B, e, rfl, ⟨hL, hT⟩, hl, ht, by show L.length + T.length < _; omega⟩
end Go.Proofs.Ytjicoifjgokoiab
