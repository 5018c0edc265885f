/- CRow, HPure, HChain, HOne, HUndo, HTerm, Named, IsName, Copy, Path, Node: texts that follow one another, laid into one file. -/
import Derived.Test.YtdflngjfnpbpmabDoorG1
import Derived.Test.YtdflngjfnpbpmabDoorRows
import Derived.Deep.LoopGhost
import Derived.Ground.NamesProg
import Derived.Shelf.Strings.SlTrimAscii
import Derived.Lib.Hide
import Derived.StillTailTactics
import Derived.RegionTactic
import Derived.OneCell
namespace Go.Proofs.YtdflngjfnpbpmabDoor
open Go.RowKit
set_option linter.unusedVariables false
set_option linter.unusedSimpArgs false

section
variable {P : Program} {n : Nat} {e : Env} {w : World} {Q : Exit → Act → World → Prop} {ops : Array Oper} {rest : List Oper} {ty : TypeId} {pos : String} {after : Array Edge} {d : Nat}
variable {M : List Nat} {w0 : World} {H H' : List (Nat × Obj)} {F : List (World → Prop)} {x y : Operand} {v : Value} {t tx : TypeId}
/-- append(s, make(k)...) of a slice of the call's own. -/
theorem lst_appZ {el len k : Nat} {xs zs : List Value} {O : List (Nat × Obj)} {i : TypeInfo} {z : Value} {ki : IntKind} (hS : St M w0 H F w) (hx : ev n e x = v) (hy : ev n e y = .int .i64 (k : Nat)) (hT : isSliceP P t = some el) (hTx : P.underlying tx = some (.int ki)) (hi : P.info? el = some i) (hz : i.zero = some z) (hzs : z.cells.size = i.size) (hsz : 0 < i.size)
    (hzl : (Builtin.zeroCells z.cells k).toList = zs) (h1 : ∀ u ∈ zs, u.oneCell' = true) (hrow : Rw el i.size v len xs O) (hl : 0 < len) (hk : 0 < k) (hP : H.Perm (O ++ H')) (hfit : 2 * (len + k) * i.bytes ≤ 281474976710656) (hbig : len + k ≤ 4611686018427387904) (hd : Nat.blt d n = true)
    (h : ∀ v' O' w', Rw el i.size v' (len + k) (xs ++ zs) O' → St M w0 (O' ++ H') F w' → Lst P Q ops rest n ((d, v') :: e) w') :
    Lst P Q ops (⟨some d, .call ⟨.builtin .append, #[x, y], #[t, tx]⟩, ty, pos, after, none⟩ :: rest) n e w := by
  have hS := hS.perm hP
  have hys : zs.length = k * i.size := by rw [← hzl]; simp [Builtin.zeroCells, hzs]
  have hza : Builtin.zeroCells z.cells k = zs.toArray := by rw [← hzl]
  have hop : ∀ r w2, (Builtin.append_ #[t, tx] ty #[v, .int .i64 (k : Nat)]).run P w = .ok r w2 → (execOp (ev n e) ⟨some d, .call ⟨.builtin .append, #[x, y], #[t, tx]⟩, ty, pos, after, none⟩).run P w = .ok (.value r) w2 := by
    intro r w2 hr
    simp only [execOp, resolve, List.map_toArray, List.map_cons, List.map_nil, hx, hy, bind, pure, Sem.bind, invoke, builtin]
    rw [Sem.run_bind', hr]
    rfl
  have hw : IntKind.i64.wrap (k : Int) = k := wrap_of (by omega) (by omega)
  have hai : ∀ w, (asInt (.int .i64 (k : Nat))).run P w = .ok (k : Int) w := fun w => rfl
  have hz0 : ¬ ((k : Int) < 0) := by omega
  have h49 : ¬ ((281474976710656 : Int) < (k : Int) * (i.bytes : Int)) := by
    have : k * i.bytes ≤ 2 * (len + k) * i.bytes := Nat.mul_le_mul_right _ (by omega)
    have h5 : ((k * i.bytes : Nat) : Int) ≤ 281474976710656 := by omega
    rw [Int.natCast_mul] at h5; omega
  have hs1 : ¬ i.size = 0 := by omega
  have hk0 : ¬ k = 0 := by omega
  have hks : ¬ k * i.size = 0 := fun h0 => by rcases Nat.mul_eq_zero.1 h0 with h | h <;> omega
  cases hrow with
  | zero_ => omega
  | own_ hx2 hc2 hle hcp =>
    rename_i bl cap sp
    have hbl : w.heap[bl]? = some (.cells (xs ++ sp).toArray el) := hS.own (bl, _) (by simp)
    by_cases hroom : len + k ≤ cap
    · have hcc : (xs ++ sp).length = cap * i.size := hc2
      have hfitc : len * i.size + zs.length ≤ (xs ++ sp).length := by rw [hcc, hys, ← Nat.add_mul]; exact Nat.mul_le_mul_right _ hroom
      have hst := run_storeCells_cells (P := P) bl (0 + len * i.size) zs 0 w
        (fun j hj => by rw [cell_own hbl, Nat.zero_add]; simp only [Option.isSome_iff_exists]; exact ⟨_, List.getElem?_eq_getElem (by omega)⟩) (fun j hj => by simp [World.frozen?, hbl]) h1
      simp only [Nat.add_zero] at hst
      have hr : (Builtin.append_ #[t, tx] ty #[.slice (some ⟨bl, 0, none⟩) len cap, .int .i64 (k : Nat)]).run P w = .ok (.slice (some ⟨bl, 0, none⟩) (len + k) cap) (w.setCells bl (0 + len * i.size) zs) := by
        simp [Builtin.append_, run_underlying (sliceP hT), run_underlying hTx, sizeOf, typeInfo, zeroValue, hi, hz, hw, hai, hz0, h49, hroom, hza, hk0, hs1, Addr.add_lit]
        rw [if_neg hks]
        rw [Nat.zero_add] at hst
        rw [hst]; rfl
      obtain ⟨hs1, hs2⟩ := setCells_row zs (0 + len * i.size) (xs ++ sp) w hbl (by omega)
      refine lst_run (hop _ _ hr) hd ?_
      have hu : Upd ([(bl, Obj.cells (xs ++ sp).toArray el)] ++ H') bl (.cells (xs ++ sp).toArray el) (.cells ((xs ++ sp).take (0 + len * i.size) ++ zs ++ (xs ++ sp).drop (0 + len * i.size + zs.length)).toArray el)
          ((bl, .cells ((xs ++ sp).take (0 + len * i.size) ++ zs ++ (xs ++ sp).drop (0 + len * i.size + zs.length)).toArray el) :: H') := .head
      have h3 := hS.turn hu hs2 hs1
      have e1 : (xs ++ sp).take (0 + len * i.size) = xs := by rw [Nat.zero_add, ← hx2]; simp
      have e2 : (xs ++ sp).drop (0 + len * i.size + zs.length) = sp.drop zs.length := by
        rw [Nat.zero_add, ← hx2]; simp [List.drop_append]
      rw [e1, e2] at h3
      refine h _ _ _ (Rw.own_ (b := bl) (sp := sp.drop zs.length) ?_ ?_ hroom hcp) h3
      · rw [List.length_append, hx2, hys, Nat.add_mul]
      · simp only [List.length_append, List.length_drop] at hcc hfitc ⊢
        omega
    · have hn := Go.Room.nextslicecap_le' (show cap < len + k by omega)
      have h48 : ¬ (281474976710656 < Builtin.nextslicecap (len + k) cap * i.bytes) := by
        have := Nat.le_trans (Nat.mul_le_mul_right i.bytes hn) hfit
        omega
      have h63 : ¬ (9223372036854775807 < ((len : Int) + (k : Int))) := by omega
      have hf := run_firstCells_some (P := P) w.drew i.size len ⟨bl, 0, none⟩ len cap xs hx2 (fun j u hj => by
        have hjl : j < xs.length := by
          rcases Nat.lt_or_ge j xs.length with hl | hl
          · exact hl
          · rw [List.getElem?_eq_none hl] at hj; cases hj
        rw [addrPlus, cell_own (w := w.drew) hbl, Nat.zero_add, List.getElem?_append_left hjl]; exact hj)
      have hcapn : len + k ≤ grownCap w (len + k) cap el := by unfold grownCap Question.cut; exact Nat.le_add_right _ _
      have hr : (Builtin.append_ #[t, tx] ty #[.slice (some ⟨bl, 0, none⟩) len cap, .int .i64 (k : Nat)]).run P w = .ok (.slice (some ⟨w.heap.size, 0, none⟩) (len + k) (grownCap w (len + k) cap el)) (w.drew.alloc (.cells ((xs ++ zs).toArray ++ Builtin.zeroCells z.cells (grownCap w (len + k) cap el - (len + k))) el)) := by
        simp [Builtin.append_, run_underlying (sliceP hT), run_underlying hTx, sizeOf, typeInfo, zeroValue, hi, hz, hw, hai, hz0, h49, hroom, hza, hk0, hs1, h63, h48, Question.forced, hf, newRow, grownCap]
        first | rw [if_neg hks] | skip
        congr 3
        apply Array.ext'
        simp [List.append_assoc]
      refine lst_run (hop _ _ hr) hd ?_
      generalize grownCap w (len + k) cap el = nc at hcapn
      have hzc : (Builtin.zeroCells z.cells (nc - (len + k))) = (Builtin.zeroCells z.cells (nc - (len + k))).toList.toArray := by simp
      have hzl2 : (Builtin.zeroCells z.cells (nc - (len + k))).toList.length = (nc - (len + k)) * i.size := by simp [Builtin.zeroCells, hzs]
      generalize (Builtin.zeroCells z.cells (nc - (len + k))).toList = zl at hzc hzl2
      rw [hzc]
      have hS2 := (hS.drew.alloc (.cells ((xs ++ zs) ++ zl).toArray el))
      rw [show (xs ++ zs).toArray ++ zl.toArray = ((xs ++ zs) ++ zl).toArray by simp]
      refine h _ [(w.heap.size, .cells ((xs ++ zs) ++ zl).toArray el)] _ (Rw.own_ ?_ ?_ hcapn (by omega)) ?_
      · rw [List.length_append, hx2, hys, Nat.add_mul]
      · rw [List.length_append, List.length_append, hx2, hys, hzl2, ← Nat.add_mul, ← Nat.add_mul]; congr 1; omega
      · have h5 : St M w0 ((w.heap.size, .cells ((xs ++ zs) ++ zl).toArray el) :: ([(bl, Obj.cells (xs ++ sp).toArray el)] ++ H')) F _ := hS2
        exact St.dropL (L := [(bl, Obj.cells (xs ++ sp).toArray el)]) h5.sink
end
abbrev zC : HC := ⟨0, 0, eS⟩
theorem zero_hcs : ∀ k : Nat, (Builtin.zeroCells #[.int .i64 0, .int .i64 0, .string eS] k).toList = hcsL (List.replicate k zC)
  | 0 => by simp [Builtin.zeroCells, hcsL]
  | k + 1 => by
    have ih := zero_hcs k
    simp only [Builtin.zeroCells, Array.toList_map, Array.toList_range] at ih ⊢
    rw [List.replicate_succ', hcsL_app, ← ih]
    rw [show (k + 1) * (#[Value.int .i64 0, .int .i64 0, .string eS] : Array Value).size = k * 3 + 1 + 1 + 1 by simp; omega]
    rw [show k * (#[Value.int .i64 0, .int .i64 0, .string eS] : Array Value).size = k * 3 by simp]
    rw [List.range_succ, List.range_succ, List.range_succ]
    simp [hcsL, Nat.mul_mod_left, Nat.add_mod]
/-- A cell set, in the list and in its block. -/
theorem hcsL_setC : ∀ (L : List HC) (i : Nat) (c : HC), i < L.length → ∃ X Z : List Value, ∃ ys : List Value, hcsL L = X ++ (ys ++ Z) ∧ X.length = i * 3 ∧ ys.length = 3 ∧ hcsL (L.set i c) = X ++ (hcs c ++ Z)
  | [], i, c, h => by simp at h
  | x :: r, 0, c, h => ⟨[], hcsL r, hcs x, rfl, rfl, rfl, rfl⟩
  | x :: r, i + 1, c, h => by
    obtain ⟨X, Z, ys, h1, h2, h3, h4⟩ := hcsL_setC r i c (by simpa using h)
    refine ⟨hcs x ++ X, Z, ys, ?_, ?_, h3, ?_⟩
    · show hcs x ++ hcsL r = _
      rw [h1]; simp
    · simp [hcs, h2]; omega
    · show hcs x ++ hcsL (r.set i c) = _
      rw [h4]; simp
theorem hcsL_putC (L : List HC) (sp : List Value) (i : Nat) (c : HC) (hi : i < L.length) : PutN (hcsL L ++ sp) (i * 3) (hcs c) (hcsL (L.set i c) ++ sp) := by
  obtain ⟨X, Z, ys, h1, h2, h3, h4⟩ := hcsL_setC L i c hi
  rw [h1, h4]
  have := putN_mid X ys (hcs c) (Z ++ sp) (i * 3) h2 (by rw [h3]; rfl)
  simpa using this
end Go.Proofs.YtdflngjfnpbpmabDoor
namespace Go.Proofs.YtdflngjfnpbpmabDoor
open Go.RowKit
set_option linter.unusedVariables false
set_option linter.unusedSimpArgs false

theorem hatS {L : List HC} {a : Int} {c : HC} : hat L a = some c ↔ 0 ≤ a ∧ a < L.length ∧ L[a.toNat]? = some c := by
  unfold hat
  constructor
  · intro h
    split at h
    · rename_i h0
      refine ⟨h0, ?_, h⟩
      rcases Nat.lt_or_ge a.toNat L.length with hl | hl
      · omega
      · rw [List.getElem?_eq_none hl] at h; cases h
    · cases h
  · rintro ⟨h0, h1, h2⟩; rw [if_pos h0]; exact h2
theorem hat_in {L : List HC} {a : Int} (h0 : 0 ≤ a) (h1 : a < L.length) : ∃ c, hat L a = some c := ⟨L[a.toNat]'(by omega), hatS.2 ⟨h0, h1, List.getElem?_eq_getElem _⟩⟩
theorem goodL_get {n : Nat} : ∀ {L : List HC} {i : Nat} {c : HC}, goodL n L = true → L[i]? = some c → goodC n c (L.length - i - 1) = true
  | [], i, c, _, h => by simp at h
  | x :: r, 0, c, hg, h => by
    obtain rfl : x = c := by simpa using h
    simp only [goodL, Bool.and_eq_true] at hg
    simpa using hg.1
  | x :: r, i + 1, c, hg, h => by
    simp only [goodL, Bool.and_eq_true] at hg
    have := goodL_get (i := i) (c := c) hg.2 (by simpa using h)
    rw [List.length_cons, show r.length + 1 - (i + 1) - 1 = r.length - i - 1 by omega]; exact this
/-- What a good cell is. -/
theorem goodC_iff {n f : Nat} {c : HC} (h : goodC n c f = true) : (c.k = 0 ∧ 0 ≤ c.n ∧ c.n < n ∧ c.s = eS) ∨ (c.k = 1 ∧ c.n = 0 ∧ c.s ≠ eS) ∨ (c.k = 2 ∧ c.s = eS) ∨ (c.k = 3 ∧ 1 ≤ c.n ∧ c.n ≤ 4 ∧ c.n ≤ f ∧ c.s ≠ eS) := by
  unfold goodC at h
  split at h
  · simp only [Bool.and_eq_true, decide_eq_true_eq] at h; exact .inl ⟨‹_›, h.1, h.2.1, h.2.2⟩
  · split at h
    · simp only [Bool.and_eq_true, decide_eq_true_eq, Bool.not_eq_true', decide_eq_false_iff_not] at h; exact .inr (.inl ⟨‹_›, h.1, h.2⟩)
    · split at h
      · simp only [decide_eq_true_eq] at h; exact .inr (.inr (.inl ⟨‹_›, h⟩))
      · split at h
        · simp only [Bool.and_eq_true, decide_eq_true_eq, Bool.not_eq_true', decide_eq_false_iff_not] at h; exact .inr (.inr (.inr ⟨‹_›, h.1, h.2.1, h.2.2.1, h.2.2.2⟩))
        · cases h
theorem good_hat {n : Nat} {L : List HC} {a : Int} {c : HC} (hg : goodL n L = true) (h : hat L a = some c) : goodC n c (L.length - a.toNat - 1) = true := goodL_get hg (hatS.1 h).2.2
theorem good_args {n : Nat} {L : List HC} {a : Int} (hg : goodL n L = true) : argsAt L a ≤ 4 ∧ (argsAt L a = 0 ∨ (0 ≤ a ∧ a + argsAt L a < L.length)) := by
  unfold argsAt
  cases h : hat L a with
  | none => exact ⟨by simp, .inl rfl⟩
  | some c =>
    obtain ⟨h0, h1, _⟩ := hatS.1 h
    have hc := goodC_iff (good_hat hg h)
    simp only [argsC]
    split
    · rcases hc with hc | hc | hc | hc
      · omega
      · omega
      · omega
      · refine ⟨by omega, .inr ⟨h0, ?_⟩⟩
        omega
    · exact ⟨by simp, .inl rfl⟩
theorem good_ref {n : Nat} {L : List HC} {a : Int} {c : HC} (hg : goodL n L = true) (h : hat L a = some c) (hk : c.k = 0) : 0 ≤ c.n ∧ c.n < n := by
  rcases goodC_iff (good_hat hg h) with hc | hc | hc | hc <;> omega
theorem setN_good {n : Nat} {x : Int} (h0 : 0 ≤ x) (h1 : x < n) : ∀ {L : List HC} {i : Nat}, goodL n L = true → (∀ c, L[i]? = some c → c.k = 0) → goodL n (setN L i x) = true
  | [], i, hg, _ => by rw [setN_nil]; rfl
  | y :: r, 0, hg, hk => by
    rw [setN_zero]
    simp only [goodL, Bool.and_eq_true] at hg ⊢
    refine ⟨?_, hg.2⟩
    have hk0 := hk y (by simp)
    have := hg.1
    unfold goodC at this ⊢
    simp only [hk0, if_true] at this ⊢
    simp only [Bool.and_eq_true, decide_eq_true_eq] at this ⊢
    exact ⟨h0, h1, this.2.2⟩
  | y :: r, i + 1, hg, hk => by
    rw [setN_cons]
    simp only [goodL, Bool.and_eq_true] at hg ⊢
    rw [setN_len]
    exact ⟨hg.1, setN_good h0 h1 hg.2 fun c hc => hk c (by simpa using hc)⟩
/-- Where Look ends. -/
theorem hlookF_end {L : List HC} : ∀ (f : Nat) (a : Int), hlookF L f a = -1 ∨ ∃ c, hat L (hlookF L f a) = some c ∧ (c.k = 0 → c.n = hlookF L f a)
  | 0, a => .inl rfl
  | f + 1, a => by
    cases h : hat L a with
    | none => left; simp only [hlookF, h]
    | some c =>
      by_cases hb : c.k = 0 ∧ c.n ≠ a
      · simp only [hlookF, h, if_pos hb]; exact hlookF_end f c.n
      · right
        simp only [hlookF, h, if_neg hb]
        exact ⟨c, rfl, fun hk => Classical.byContradiction fun hn => hb ⟨hk, hn⟩⟩
theorem hlook_end {L : List HC} {a : Int} (h : ¬ hlook L a < 0) : ∃ c, hat L (hlook L a) = some c ∧ (c.k = 0 → c.n = hlook L a) := by
  rcases hlookF_end (L := L) L.length a with h1 | h1
  · exact absurd (show hlook L a < 0 by unfold hlook; rw [h1]; decide) h
  · exact h1
/-- A unifier over a good heap of n cells. -/
structure GU (n : Nat) (u : HU) : Prop where
  len : u.cs.length = n
  good : goodL n u.cs = true
  wk : u.lg = false → u.w ≤ 400
  trl : u.tr.length ≤ 65536 + u.w
theorem GU.step {n : Nat} {u : HU} (h : GU n u) : GU n u.step := by
  refine ⟨h.len, h.good, fun hl => ?_, ?_⟩
  · simp only [HU.step, Bool.or_eq_false_iff, decide_eq_false_iff_not] at hl ⊢; omega
  · have := h.trl; simp only [HU.step]; omega
theorem GU.look {n : Nat} {u : HU} (h : GU n u) (a : Int) : GU n (u.look a).2 := by
  unfold HU.look
  split
  · exact h
  · rename_i hl; exact ⟨h.len, h.good, fun _ => h.wk (by simpa using hl), h.trl⟩
theorem look_w (u : HU) (a : Int) : (u.look a).2.w = u.w ∧ (u.look a).2.cs = u.cs ∧ (u.look a).2.tr = u.tr := by
  unfold HU.look
  split <;> exact ⟨rfl, rfl, rfl⟩
theorem look_ok {u : HU} {a : Int} (h : (u.look a).2.lg = false) : u.lg = false ∧ (u.look a).1 = hlook u.cs a ∧ ¬ hlook u.cs a < 0 := by
  unfold HU.look at h ⊢
  split at h
  · rename_i hl; rw [hl] at h; cases h
  · rename_i hl
    rw [if_neg hl]
    exact ⟨by simpa using hl, rfl, by simpa using h⟩
theorem GU.bind {n : Nat} {u : HU} (h : GU n u) {a x : Int} {c : HC} (ha : hat u.cs a = some c) (hk : c.k = 0) (h0 : 0 ≤ x) (h1 : x < n) (ht : u.tr.length < 65536 + u.w) : GU n (u.bind a x) := by
  refine ⟨by simp only [HU.bind]; rw [setN_len]; exact h.len, ?_, h.wk, by simp only [HU.bind, List.length_append, List.length_cons, List.length_nil]; omega⟩
  refine setN_good h0 h1 h.good fun c' hc' => ?_
  rw [(hatS.1 ha).2.2] at hc'
  obtain rfl := Option.some.inj hc'
  exact hk
/-- Occurs: nothing is bound; the work. -/
structure OU (n f : Nat) (u v : HU) : Prop where
  cs : v.cs = u.cs
  tr : v.tr = u.tr
  lt : u.w < v.w
  le : v.w ≤ max (u.w + 1) (401 + 4 * f)
  wk : v.lg = false → v.w ≤ 400
  lg : u.lg = true → v.lg = true
theorem any_up {n f : Nat} {g : Int → HU → Bool × HU} {cs : List HC} (hg : ∀ x u, u.cs = cs → (u.lg = false → u.w ≤ 400) → OU n f u (g x u).2) :
    ∀ (m : Nat) (x : Int) (u : HU), u.cs = cs → (u.lg = false → u.w ≤ 400) → (anyU g m x u).2.cs = u.cs ∧ (anyU g m x u).2.tr = u.tr ∧ u.w ≤ (anyU g m x u).2.w ∧ (anyU g m x u).2.w ≤ max (u.w + m) (401 + 4 * f + m) ∧ ((anyU g m x u).2.lg = false → (anyU g m x u).2.w ≤ 400) ∧ (u.lg = true → (anyU g m x u).2.lg = true)
  | 0, x, u, hcs, hu => ⟨rfl, rfl, Nat.le_refl _, by simp only [anyU]; omega, hu, fun h => h⟩
  | m + 1, x, u, hcs, hu => by
    have h1 := hg x u hcs hu
    simp only [anyU]
    split
    · exact ⟨h1.cs, h1.tr, Nat.le_of_lt h1.lt, by have := h1.le; omega, h1.wk, h1.lg⟩
    · obtain ⟨a1, a2, a3, a4, a5, a6⟩ := any_up hg m (x + 1) (g x u).2 (h1.cs.trans hcs) h1.wk
      refine ⟨a1.trans h1.cs, a2.trans h1.tr, Nat.le_trans (Nat.le_of_lt h1.lt) a3, ?_, a5, fun h => a6 (h1.lg h)⟩
      have := h1.le
      omega
theorem occ_up {n : Nat} (a : Int) : ∀ (f : Nat) (b : Int) (u : HU), goodL n u.cs = true → (u.lg = false → u.w ≤ 400) → OU n f u (occU a f b u).2
  | f, b, u, hgd, hu => by
    have hs : OU n f u (u.step.look b).2 := by
      have hw := look_w u.step b
      refine ⟨hw.2.1, hw.2.2, ?_, ?_, fun h => ?_, fun h => ?_⟩
      · rw [hw.1]; exact Nat.lt_succ_self _
      · rw [hw.1]; show u.w + 1 ≤ _; omega
      · rw [hw.1]
        have := (look_ok h).1
        simp only [HU.step, Bool.or_eq_false_iff, decide_eq_false_iff_not] at this
        show u.w + 1 ≤ 400
        omega
      · cases hq : (u.step.look b).2.lg with
        | true => rfl
        | false =>
          have := (look_ok hq).1
          simp only [HU.step, Bool.or_eq_false_iff] at this
          rw [h] at this; cases this.1
    cases f with
    | zero => exact hs
    | succ f =>
      simp only [occU]
      split
      · exact hs
      · split
        · exact hs
        · rename_i hl _
          have hl' : (u.step.look b).2.lg = false := by simpa using hl
          have hcs0 : (u.step.look b).2.cs = u.cs := (look_w u.step b).2.1
          have hA := (good_args (a := (u.step.look b).1) hgd).1
          obtain ⟨a1, a2, a3, a4, a5, a6⟩ := any_up (n := n) (f := f) (g := occU a f) (cs := u.cs) (fun x v hv hw => occ_up a f x v (by rw [hv]; exact hgd) hw) (argsAt u.cs (u.step.look b).1) ((u.step.look b).1 + 1) (u.step.look b).2 hcs0 hs.wk
          refine ⟨a1.trans hs.cs, a2.trans hs.tr, Nat.lt_of_lt_of_le hs.lt a3, ?_, a5, fun h => a6 (hs.lg h)⟩
          have hwl := hs.wk hl'
          omega
/-- What unification leaves. -/
structure UU (n : Nat) (u : HU) (r : Bool × HU) : Prop where
  gu : GU n r.2
  lt : u.w < r.2.w
  le : r.2.w ≤ 3000
  ok : r.1 = true → r.2.lg = false
  ext : u.tr.length + r.2.w ≤ r.2.tr.length + r.2.w ∧ r.2.tr.length ≤ u.tr.length + (r.2.w - u.w)
theorem asg_up {n : Nat} {u : HU} (h : GU n u) (hl : u.lg = false) {a b : Int} {c : HC} (ha : hat u.cs a = some c) (hk : c.k = 0) (h0 : 0 ≤ b) (h1 : b < n) : UU n u (asgU a b u) := by
  have ho := occ_up (n := n) a 401 b u h.good h.wk
  have hw := h.wk hl
  have hle := ho.le
  have hlt := ho.lt
  have ht := h.trl
  have hgu : GU n (occU a 401 b u).2 := ⟨by rw [ho.cs]; exact h.len, by rw [ho.cs]; exact h.good, ho.wk, by rw [ho.tr]; omega⟩
  unfold asgU
  split
  · exact ⟨hgu, hlt, (by show (occU a 401 b u).2.w ≤ 3000; omega), fun h => (by cases h), (by dsimp only; rw [ho.tr]; constructor <;> omega)⟩
  · rename_i hn
    have hlg : (occU a 401 b u).2.lg = false := by
      cases hq : (occU a 401 b u).2.lg with
      | false => rfl
      | true => exact absurd (.inr hq) hn
    refine ⟨hgu.bind (by rw [ho.cs]; exact ha) hk h0 h1 (by rw [ho.tr]; omega), hlt, by show (occU a 401 b u).2.w ≤ 3000; omega, fun _ => hlg, ?_⟩
    show u.tr.length + (occU a 401 b u).2.w ≤ ((occU a 401 b u).2.tr ++ [a]).length + (occU a 401 b u).2.w ∧ ((occU a 401 b u).2.tr ++ [a]).length ≤ u.tr.length + ((occU a 401 b u).2.w - u.w)
    rw [ho.tr]
    simp only [List.length_append, List.length_cons, List.length_nil]
    omega
theorem all_up {n : Nat} {g : Int → Int → HU → Bool × HU} (hg : ∀ x y u, GU n u → u.lg = false → UU n u (g x y u)) :
    ∀ (m : Nat) (x y : Int) (u : HU), GU n u → u.lg = false → GU n (allU g m x y u).2 ∧ u.w ≤ (allU g m x y u).2.w ∧ (allU g m x y u).2.w ≤ 3000 ∧ ((allU g m x y u).1 = true → (allU g m x y u).2.lg = false) ∧ u.tr.length ≤ (allU g m x y u).2.tr.length ∧ (allU g m x y u).2.tr.length ≤ u.tr.length + ((allU g m x y u).2.w - u.w)
  | 0, x, y, u, h, hl => ⟨h, Nat.le_refl _, by have := h.wk hl; simp only [allU]; omega, fun _ => hl, Nat.le_refl _, by simp only [allU]; omega⟩
  | m + 1, x, y, u, h, hl => by
    have h1 := hg x y u h hl
    have hx := h1.ext
    simp only [allU]
    split
    · rename_i hok
      obtain ⟨a1, a2, a3, a4, a5, a6⟩ := all_up hg m (x + 1) (y + 1) (g x y u).2 h1.gu (h1.ok hok)
      have := h1.lt
      exact ⟨a1, by omega, a3, a4, by omega, by omega⟩
    · exact ⟨h1.gu, Nat.le_of_lt h1.lt, h1.le, h1.ok, by omega, by omega⟩
theorem uni_up {n : Nat} : ∀ (f : Nat) (a b : Int) (u : HU), GU n u → u.lg = false → UU n u (uniU f a b u)
  | f, a, b, u, h, hl => by
    have hw0 := h.wk hl
    have hwa := look_w u.step a
    have hwb := look_w (u.step.look a).2 b
    have hg2 : GU n ((u.step.look a).2.look b).2 := (h.step.look a).look b
    have hw2 : ((u.step.look a).2.look b).2.w = u.w + 1 := by rw [hwb.1, hwa.1]; rfl
    have hcs2 : ((u.step.look a).2.look b).2.cs = u.cs := by rw [hwb.2.1, hwa.2.1]; rfl
    have htr2 : ((u.step.look a).2.look b).2.tr = u.tr := by rw [hwb.2.2, hwa.2.2]; rfl
    have hfail : UU n u (false, ((u.step.look a).2.look b).2) := ⟨hg2, (by show u.w < ((u.step.look a).2.look b).2.w; rw [hw2]; omega), (by show ((u.step.look a).2.look b).2.w ≤ 3000; rw [hw2]; omega), fun h => (by cases h), (by dsimp only; rw [htr2, hw2]; constructor <;> omega)⟩
    cases f with
    | zero => exact hfail
    | succ f =>
      simp only [uniU]
      split
      · exact hfail
      rename_i hl2
      have hl2' : ((u.step.look a).2.look b).2.lg = false := by simpa using hl2
      obtain ⟨hla, hb1, hb2⟩ := look_ok hl2'
      obtain ⟨_, ha1, ha2⟩ := look_ok hla
      rw [hwa.2.1] at hb1 hb2
      obtain ⟨x, hx, hxe⟩ := hlook_end ha2
      obtain ⟨y, hy, hye⟩ := hlook_end hb2
      rw [← ha1] at hx hxe
      rw [← hb1] at hy hye
      replace hx : hat u.cs (u.step.look a).1 = some x := hx
      replace hy : hat u.cs ((u.step.look a).2.look b).1 = some y := hy
      obtain ⟨x0, x1, _⟩ := hatS.1 hx
      obtain ⟨y0, y1, _⟩ := hatS.1 hy
      rw [h.len] at x1 y1
      have hkx : kindAt u.cs (u.step.look a).1 = x.k := by unfold kindAt; rw [hx]
      have hky : kindAt u.cs ((u.step.look a).2.look b).1 = y.k := by unfold kindAt; rw [hy]
      rw [hkx, hky]
      have hstep : ∀ {r : Bool × HU}, UU n ((u.step.look a).2.look b).2 r → UU n u r := fun {r} hr => by
        have h1 := hr.lt
        have h2 := hr.ext
        rw [hw2] at h1 h2
        rw [htr2] at h2
        exact ⟨hr.gu, by omega, hr.le, hr.ok, by omega, by omega⟩
      split
      · rename_i hk0
        split
        · rename_i hk1
          split
          · exact ⟨hg2, by show u.w < ((u.step.look a).2.look b).2.w; rw [hw2]; omega, by show ((u.step.look a).2.look b).2.w ≤ 3000; rw [hw2]; omega, fun _ => hl2', by dsimp only; rw [htr2, hw2]; constructor <;> omega⟩
          · have ht := h.trl
            have hbd : GU n (((u.step.look a).2.look b).2.bind (max (u.step.look a).1 ((u.step.look a).2.look b).1) (min (u.step.look a).1 ((u.step.look a).2.look b).1)) := by
              rcases Int.le_total (u.step.look a).1 ((u.step.look a).2.look b).1 with hle | hle
              · rw [Int.max_eq_right hle, Int.min_eq_left hle]
                exact hg2.bind (by rw [hcs2]; exact hy) hk1 x0 x1 (by rw [htr2, hw2]; omega)
              · rw [Int.max_eq_left hle, Int.min_eq_right hle]
                exact hg2.bind (by rw [hcs2]; exact hx) hk0 y0 y1 (by rw [htr2, hw2]; omega)
            refine ⟨hbd, by show u.w < ((u.step.look a).2.look b).2.w; rw [hw2]; omega, by show ((u.step.look a).2.look b).2.w ≤ 3000; rw [hw2]; omega, fun _ => hl2', ?_⟩
            simp only [HU.bind, List.length_append, List.length_cons, List.length_nil]
            rw [htr2, hw2]
            constructor <;> omega
        · exact hstep (asg_up hg2 hl2' (by rw [hcs2]; exact hx) hk0 y0 y1)
      · split
        · rename_i hk1
          exact hstep (asg_up hg2 hl2' (by rw [hcs2]; exact hy) hk1 x0 x1)
        · unfold partsU
          split
          · obtain ⟨a1, a2, a3, a4, a5, a6⟩ := all_up (fun x y v hv hlv => uni_up f x y v hv hlv) (argsAt ((u.step.look a).2.look b).2.cs (u.step.look a).1) ((u.step.look a).1 + 1) (((u.step.look a).2.look b).1 + 1) _ hg2 hl2'
            rw [hw2] at a2 a6
            rw [htr2] at a5 a6
            exact ⟨a1, by omega, a3, a4, by omega, by omega⟩
          · exact hfail
end Go.Proofs.YtdflngjfnpbpmabDoor
namespace Go.Proofs.YtdflngjfnpbpmabDoor
open Go.RowKit
set_option linter.unusedVariables false
set_option linter.unusedSimpArgs false

/-- From a, over n Refs, one comes to x, and there is no further way. -/
inductive EndsN (L : List HC) : Nat → Int → Int → Prop
  | here {a : Int} {c : HC} : hat L a = some c → ¬ (c.k = 0 ∧ c.n ≠ a) → EndsN L 0 a a
  | there {n : Nat} {a x : Int} {c : HC} : hat L a = some c → c.k = 0 → c.n ≠ a → EndsN L n c.n x → EndsN L (n + 1) a x
def End (L : List HC) (a x : Int) : Prop := ∃ n, EndsN L n a x
theorem EndsN.det {L : List HC} {n m : Nat} {a x y : Int} (h : EndsN L n a x) : EndsN L m a y → n = m ∧ x = y := by
  induction h generalizing m with
  | here h0 h1 =>
    intro g
    cases g with
    | here g0 g1 => exact ⟨rfl, rfl⟩
    | there g0 g1 g2 _ => rw [h0] at g0; cases g0; exact absurd ⟨g1, g2⟩ h1
  | there h0 h1 h2 _ ih =>
    intro g
    cases g with
    | here g0 g1 => rw [h0] at g0; cases g0; exact absurd ⟨h1, h2⟩ g1
    | there g0 g1 g2 g3 =>
      rw [h0] at g0; cases g0
      obtain ⟨e1, e2⟩ := ih g3
      exact ⟨by omega, e2⟩
theorem End.det {L : List HC} {a x y : Int} (h : End L a x) (g : End L a y) : x = y := by
  obtain ⟨_, h⟩ := h
  obtain ⟨_, g⟩ := g
  exact (h.det g).2
theorem EndsN.last {L : List HC} {n : Nat} {a x : Int} (h : EndsN L n a x) : ∃ c, hat L x = some c ∧ ¬ (c.k = 0 ∧ c.n ≠ x) := by
  induction h with
  | here h0 h1 => exact ⟨_, h0, h1⟩
  | there _ _ _ _ ih => exact ih
theorem End.last {L : List HC} {a x : Int} (h : End L a x) : ∃ c, hat L x = some c ∧ ¬ (c.k = 0 ∧ c.n ≠ x) := by
  obtain ⟨_, h⟩ := h; exact h.last
theorem End.self {L : List HC} {a x : Int} (h : End L a x) : End L x x := by
  obtain ⟨c, h0, h1⟩ := h.last
  exact ⟨0, .here h0 h1⟩
theorem End.of_nonvar {L : List HC} {x : Int} {c : HC} (h : hat L x = some c) (hk : c.k ≠ 0) : End L x x := ⟨0, .here h fun e => hk e.1⟩
theorem End.first {L : List HC} {a x : Int} (h : End L a x) : ∃ c, hat L a = some c := by
  obtain ⟨_, h⟩ := h
  cases h with
  | here h0 _ => exact ⟨_, h0⟩
  | there h0 _ _ _ => exact ⟨_, h0⟩
/-- A list of different numbers below n has at most n. -/
theorem nodup_len : ∀ (n : Nat) (l : List Nat), l.Nodup → (∀ y ∈ l, y < n) → l.length ≤ n
  | 0, l, _, h => by
    cases l with
    | nil => simp
    | cons y l => exact absurd (h y (by simp)) (by omega)
  | n + 1, l, hn, h => by
    by_cases hm : n ∈ l
    · have h1 := nodup_len n (l.erase n) (hn.erase n) fun y hy => by
        have h2 := (hn.mem_erase_iff).1 hy
        have h3 := h y h2.2
        have h4 := h2.1
        omega
      rw [List.length_erase_of_mem hm] at h1
      omega
    · have := nodup_len n l hn fun y hy => by
        have h3 := h y hy
        have h4 : y ≠ n := fun e => hm (e ▸ hy)
        omega
      omega
theorem EndsN.list {L : List HC} {n : Nat} {a x : Int} (h : EndsN L n a x) : ∃ l : List Nat, l.length = n + 1 ∧ l.Nodup ∧ (∀ y ∈ l, y < L.length) ∧ ∀ y ∈ l, ∃ j, j ≤ n ∧ EndsN L j (y : Int) x := by
  induction h with
  | @here a c h0 h1 =>
    obtain ⟨g0, g1, _⟩ := hatS.1 h0
    refine ⟨[a.toNat], rfl, by simp, fun y hy => ?_, fun y hy => ⟨0, Nat.le_refl _, ?_⟩⟩
    · simp at hy; omega
    · simp at hy
      rw [show ((y : Nat) : Int) = a by omega]
      exact .here h0 h1
  | @there n a x c h0 h1 h2 h3 ih =>
    obtain ⟨g0, g1, _⟩ := hatS.1 h0
    obtain ⟨l, l1, l2, l3, l4⟩ := ih
    have ha : ((a.toNat : Nat) : Int) = a := by omega
    refine ⟨a.toNat :: l, by simp [l1], List.nodup_cons.2 ⟨fun hm => ?_, l2⟩, fun y hy => ?_, fun y hy => ?_⟩
    · obtain ⟨j, hj, he⟩ := l4 _ hm
      rw [ha] at he
      have := (he.det (.there h0 h1 h2 h3)).1
      omega
    · rcases List.mem_cons.1 hy with rfl | hy
      · omega
      · exact l3 y hy
    · rcases List.mem_cons.1 hy with rfl | hy
      · rw [ha]; exact ⟨n + 1, Nat.le_refl _, .there h0 h1 h2 h3⟩
      · obtain ⟨j, hj, he⟩ := l4 y hy
        exact ⟨j, by omega, he⟩
theorem EndsN.lt {L : List HC} {n : Nat} {a x : Int} (h : EndsN L n a x) : n < L.length := by
  obtain ⟨l, l1, l2, l3, _⟩ := h.list
  have := nodup_len L.length l l2 l3
  omega
theorem hlookF_of {L : List HC} {n : Nat} {a x : Int} (h : EndsN L n a x) : ∀ f, n < f → hlookF L f a = x := by
  induction h with
  | here h0 h1 =>
    intro f hf
    obtain ⟨f, rfl⟩ : ∃ g, f = g + 1 := ⟨f - 1, by omega⟩
    simp only [hlookF, h0, if_neg h1]
  | there h0 h1 h2 _ ih =>
    intro f hf
    obtain ⟨f, rfl⟩ : ∃ g, f = g + 1 := ⟨f - 1, by omega⟩
    simp only [hlookF, h0, if_pos (And.intro h1 h2)]
    exact ih f (by omega)
theorem end_of_hlookF {L : List HC} : ∀ (f : Nat) (a : Int), ¬ hlookF L f a < 0 → ∃ n, EndsN L n a (hlookF L f a)
  | 0, a, h => absurd (show hlookF L 0 a < 0 by simp [hlookF]) h
  | f + 1, a, h => by
    cases hc : hat L a with
    | none => simp only [hlookF, hc] at h; exact absurd (by decide) h
    | some c =>
      by_cases hb : c.k = 0 ∧ c.n ≠ a
      · simp only [hlookF, hc, if_pos hb] at h ⊢
        obtain ⟨n, hn⟩ := end_of_hlookF f c.n h
        exact ⟨n + 1, .there hc hb.1 hb.2 hn⟩
      · simp only [hlookF, hc, if_neg hb]
        exact ⟨0, .here hc hb⟩
theorem End.look {L : List HC} {a x : Int} (h : End L a x) : hlook L a = x := by
  obtain ⟨n, h⟩ := h
  exact hlookF_of h _ h.lt
theorem end_look {L : List HC} {a : Int} (h : ¬ hlook L a < 0) : End L a (hlook L a) := end_of_hlookF _ _ h
theorem End.nonneg {L : List HC} {a x : Int} (h : End L a x) : 0 ≤ x := by
  obtain ⟨c, h0, _⟩ := h.last; exact (hatS.1 h0).1
theorem hlook_none {L : List HC} {a : Int} (h : ¬ ∃ x, End L a x) : hlook L a = -1 := by
  rcases hlookF_end (L := L) L.length a with h1 | ⟨c, h1, _⟩
  · exact h1
  · refine absurd ⟨hlook L a, end_look ?_⟩ h
    have := (hatS.1 h1).1
    unfold hlook; omega
/-- A cell's number set: what is there then. -/
theorem hat_setN {L : List HC} {r : Int} {c : HC} (hr : hat L r = some c) (y a : Int) : hat (setN L r.toNat y) a = if a = r then some ⟨c.k, y, c.s⟩ else hat L a := by
  obtain ⟨r0, r1, r2⟩ := hatS.1 hr
  unfold hat
  by_cases ha : 0 ≤ a
  · rw [if_pos ha, if_pos ha, setN_get]
    by_cases he : a = r
    · rw [if_pos he, if_pos (by rw [he]), he, r2]; rfl
    · rw [if_neg he, if_neg (by omega)]
  · rw [if_neg ha, if_neg ha, if_neg (by omega)]
/-- What more bindings leave. -/
structure Up (L L' : List HC) : Prop where
  ends : ∀ a x, End L a x → ∃ y, End L' a y ∧ End L' x y
  cell : ∀ a c, hat L a = some c → c.k ≠ 0 → hat L' a = some c
theorem Up.refl (L : List HC) : Up L L := ⟨fun a x h => ⟨x, h, h.self⟩, fun _ _ h _ => h⟩
theorem Up.trans {L L' L'' : List HC} (h : Up L L') (g : Up L' L'') : Up L L'' := by
  refine ⟨fun a x hx => ?_, fun a c hc hk => g.cell a c (h.cell a c hc hk) hk⟩
  obtain ⟨y, h1, h2⟩ := h.ends a x hx
  obtain ⟨z, g1, g2⟩ := g.ends a y h1
  obtain ⟨z', g3, g4⟩ := g.ends x y h2
  have := g2.det g4
  subst this
  exact ⟨z, g1, g3⟩
theorem Up.nonvar {L L' : List HC} (h : Up L L') {a x : Int} {c : HC} (ha : End L a x) (hx : hat L x = some c) (hk : c.k ≠ 0) : End L' a x := by
  obtain ⟨y, h1, h2⟩ := h.ends a x ha
  have := h2.det (End.of_nonvar (h.cell x c hx hk) hk)
  subst this; exact h1
/-- A variable bound to what ends elsewhere. -/
theorem end_bind {L : List HC} {r y : Int} {c : HC} (hr : hat L r = some c) (hk : c.k = 0) (hn : c.n = r) (hy : End L y y) (hne : y ≠ r) :
    (∀ a x, End L a x → x ≠ r → End (setN L r.toNat y) a x) ∧ (∀ a, End L a r → End (setN L r.toNat y) a y) := by
  have hyy : End (setN L r.toNat y) y y := by
    obtain ⟨d, d0, d1⟩ := hy.last
    exact ⟨0, .here (by rw [hat_setN hr, if_neg hne]; exact d0) d1⟩
  have key : ∀ n a x, EndsN L n a x → End (setN L r.toNat y) a (if x = r then y else x) := by
    intro n a x h
    induction h with
    | @here a d h0 h1 =>
      by_cases ha : a = r
      · rw [if_pos ha]
        obtain ⟨m, hm⟩ := hyy
        exact ⟨m + 1, .there (c := ⟨c.k, y, c.s⟩) (by rw [hat_setN hr, if_pos ha]) hk (by rw [ha]; exact hne) hm⟩
      · rw [if_neg ha]
        exact ⟨0, .here (by rw [hat_setN hr, if_neg ha]; exact h0) h1⟩
    | @there n a x d h0 h1 h2 _ ih =>
      have ha : a ≠ r := fun e => by
        rw [e, hr] at h0; cases h0
        rw [e] at h2; exact h2 hn
      obtain ⟨m, hm⟩ := ih
      exact ⟨m + 1, .there (by rw [hat_setN hr, if_neg ha]; exact h0) h1 h2 hm⟩
  refine ⟨fun a x ⟨n, h⟩ hx => ?_, fun a ⟨n, h⟩ => ?_⟩
  · have := key n a x h; rwa [if_neg hx] at this
  · have := key n a r h; rwa [if_pos rfl] at this
theorem up_bind {L : List HC} {r y : Int} {c : HC} (hr : hat L r = some c) (hk : c.k = 0) (hn : c.n = r) (hy : End L y y) (hne : y ≠ r) : Up L (setN L r.toNat y) := by
  obtain ⟨h1, h2⟩ := end_bind hr hk hn hy hne
  refine ⟨fun a x hx => ?_, fun a d hd hdk => ?_⟩
  · by_cases he : x = r
    · subst he; exact ⟨y, h2 a hx, h2 _ hx.self⟩
    · exact ⟨x, h1 a x hx he, h1 x x hx.self he⟩
  · rw [hat_setN hr, if_neg]
    · exact hd
    · intro e; rw [e, hr] at hd; cases hd; exact hdk hk
/-- A relation between places under which ends are the same, or cells are, with their arguments. -/
def Bis (L : List HC) (R : Int → Int → Prop) : Prop := ∀ a b, R a b → a = b ∨ ∃ x y, End L a x ∧ End L b y ∧ (x = y ∨ ∃ c, hat L x = some c ∧ hat L y = some c ∧ c.k ≠ 0 ∧ ∀ i : Int, 0 ≤ i → i < argsC c → R (x + 1 + i) (y + 1 + i))
/-- Two places that are one. -/
def Sm (L : List HC) (a b : Int) : Prop := ∃ R, Bis L R ∧ R a b
theorem Sm.ends {L : List HC} {a b : Int} (h : Sm L a b) : a = b ∨ ∃ x y, End L a x ∧ End L b y ∧ (x = y ∨ ∃ c, hat L x = some c ∧ hat L y = some c ∧ c.k ≠ 0 ∧ ∀ i : Int, 0 ≤ i → i < argsC c → Sm L (x + 1 + i) (y + 1 + i)) := by
  obtain ⟨R, hR, hab⟩ := h
  rcases hR a b hab with e | ⟨x, y, hx, hy, e | ⟨c, h1, h2, h3, h4⟩⟩
  · exact .inl e
  · exact .inr ⟨x, y, hx, hy, .inl e⟩
  · exact .inr ⟨x, y, hx, hy, .inr ⟨c, h1, h2, h3, fun i i0 i1 => ⟨R, hR, h4 i i0 i1⟩⟩⟩
theorem Sm.step {L : List HC} {a b : Int} (h : Sm L a b) {x y : Int} (hx : End L a x) (hy : End L b y) : x = y ∨ ∃ c, hat L x = some c ∧ hat L y = some c ∧ c.k ≠ 0 ∧ ∀ i : Int, 0 ≤ i → i < argsC c → Sm L (x + 1 + i) (y + 1 + i) := by
  rcases h.ends with e | ⟨x', y', hx', hy', e⟩
  · subst e; exact .inl (hx.det hy)
  · have e1 := hx.det hx'
    have e2 := hy.det hy'
    subst e1 e2; exact e
theorem Sm.of {L : List HC} {a b x y : Int} (hx : End L a x) (hy : End L b y) (h : x = y ∨ ∃ c, hat L x = some c ∧ hat L y = some c ∧ c.k ≠ 0 ∧ ∀ i : Int, 0 ≤ i → i < argsC c → Sm L (x + 1 + i) (y + 1 + i)) : Sm L a b := by
  refine ⟨fun p q => Sm L p q ∨ (p = a ∧ q = b), fun p q hpq => ?_, .inr ⟨rfl, rfl⟩⟩
  have : p = q ∨ ∃ x y, End L p x ∧ End L q y ∧ (x = y ∨ ∃ c, hat L x = some c ∧ hat L y = some c ∧ c.k ≠ 0 ∧ ∀ i : Int, 0 ≤ i → i < argsC c → Sm L (x + 1 + i) (y + 1 + i)) := by
    rcases hpq with h1 | ⟨rfl, rfl⟩
    · exact h1.ends
    · exact .inr ⟨x, y, hx, hy, h⟩
  rcases this with e | ⟨x, y, hx, hy, e | ⟨c, h1, h2, h3, h4⟩⟩
  · exact .inl e
  · exact .inr ⟨x, y, hx, hy, .inl e⟩
  · exact .inr ⟨x, y, hx, hy, .inr ⟨c, h1, h2, h3, fun i i0 i1 => .inl (h4 i i0 i1)⟩⟩
theorem Sm.refl (L : List HC) (a : Int) : Sm L a a := ⟨fun p q => p = q, fun p q e => .inl e, rfl⟩
theorem Sm.symm {L : List HC} {a b : Int} (h : Sm L a b) : Sm L b a := by
  obtain ⟨R, hR, hab⟩ := h
  refine ⟨fun p q => R q p, fun p q hpq => ?_, hab⟩
  rcases hR q p hpq with e | ⟨x, y, hx, hy, e | ⟨c, h1, h2, h3, h4⟩⟩
  · exact .inl e.symm
  · exact .inr ⟨y, x, hy, hx, .inl e.symm⟩
  · exact .inr ⟨y, x, hy, hx, .inr ⟨c, h2, h1, h3, h4⟩⟩
theorem Sm.meet {L : List HC} {a b x : Int} (ha : End L a x) (hb : End L b x) : Sm L a b := Sm.of ha hb (.inl rfl)
end Go.Proofs.YtdflngjfnpbpmabDoor
namespace Go.Proofs.YtdflngjfnpbpmabDoor
open Go.RowKit
set_option linter.unusedVariables false
set_option linter.unusedSimpArgs false

theorem stepLong {u : HU} (h : 400 ≤ u.w) : u.step.lg = true := by
  simp only [HU.step]; rw [decide_eq_true (by omega)]; simp
/-- Two looks, one after the other. -/
theorem looks_ok {u : HU} {a b : Int} (h : ((u.step.look a).2.look b).2.lg = false) :
    u.step.lg = false ∧ (u.step.look a).1 = hlook u.cs a ∧ ((u.step.look a).2.look b).1 = hlook u.cs b ∧ End u.cs a (hlook u.cs a) ∧ End u.cs b (hlook u.cs b) ∧ ((u.step.look a).2.look b).2.cs = u.cs ∧ ((u.step.look a).2.look b).2.tr = u.tr ∧ ((u.step.look a).2.look b).2.w = u.w + 1 := by
  have hwa := look_w u.step a
  have hwb := look_w (u.step.look a).2 b
  obtain ⟨hla, hb1, hb2⟩ := look_ok h
  obtain ⟨hls, ha1, ha2⟩ := look_ok hla
  rw [hwa.2.1] at hb1 hb2
  exact ⟨hls, ha1, hb1, end_look ha2, end_look hb2, by rw [hwb.2.1, hwa.2.1]; rfl, by rw [hwb.2.2, hwa.2.2]; rfl, by rw [hwb.1, hwa.1]; rfl⟩
/-- What a run that comes to an end without being long has made of two places. -/
structure One (a b : Int) (u : HU) (v : HU) : Prop where
  up : Up u.cs v.cs
  sm : ∀ L, Up v.cs L → Sm L a b
theorem all_one {n : Nat} {g : Int → Int → HU → Bool × HU} (hu : ∀ x y u, GU n u → u.lg = false → UU n u (g x y u)) (hg : ∀ x y u, GU n u → u.lg = false → (g x y u).1 = true → One x y u (g x y u).2) :
    ∀ (m : Nat) (x y : Int) (u : HU), GU n u → u.lg = false → (allU g m x y u).1 = true → Up u.cs (allU g m x y u).2.cs ∧ ∀ L, Up (allU g m x y u).2.cs L → ∀ i : Int, 0 ≤ i → i < m → Sm L (x + i) (y + i)
  | 0, x, y, u, h, hl, _ => ⟨Up.refl _, fun L _ i i0 i1 => by omega⟩
  | m + 1, x, y, u, h, hl, hr => by
    have h1 := hu x y u h hl
    simp only [allU] at hr ⊢
    by_cases hok : (g x y u).1 = true
    · rw [if_pos hok] at hr ⊢
      have o1 := hg x y u h hl hok
      obtain ⟨u1, u2⟩ := all_one hu hg m (x + 1) (y + 1) (g x y u).2 h1.gu (h1.ok hok) hr
      refine ⟨o1.up.trans u1, fun L hL i i0 i1 => ?_⟩
      by_cases hi : i = 0
      · subst hi
        have := o1.sm L (u1.trans hL)
        simpa using this
      · have := u2 L hL (i - 1) (by omega) (by omega)
        rw [show x + 1 + (i - 1) = x + i by omega, show y + 1 + (i - 1) = y + i by omega] at this
        exact this
    · rw [if_neg hok] at hr; exact absurd hr hok
theorem asg_one {n : Nat} {u : HU} (h : GU n u) {p q : Int} {x y : HC} (hx : hat u.cs p = some x) (hxk : x.k = 0) (hxe : x.n = p) (hy : hat u.cs q = some y) (hyk : y.k ≠ 0) (hr : (asgU p q u).1 = true) :
    (asgU p q u).2.cs = setN u.cs p.toNat q ∧ (asgU p q u).2.tr = u.tr ++ [p] ∧ q ≠ p := by
  have ho := occ_up (n := n) p 401 q u h.good h.wk
  unfold asgU at hr ⊢
  split at hr
  · cases hr
  · rename_i hn
    rw [if_neg hn]
    refine ⟨by simp only [HU.bind]; rw [ho.cs], by simp only [HU.bind]; rw [ho.tr], fun e => ?_⟩
    rw [e, hx] at hy; cases hy; exact hyk hxk
theorem uni_one {n : Nat} : ∀ (f : Nat) (a b : Int) (u : HU), GU n u → u.lg = false → (uniU f a b u).1 = true → One a b u (uniU f a b u).2
  | 0, a, b, u, h, hl, hr => by simp [uniU] at hr
  | f + 1, a, b, u, h, hl, hr => by
    have hg2 : GU n ((u.step.look a).2.look b).2 := (h.step.look a).look b
    simp only [uniU] at hr ⊢
    by_cases hl2 : ((u.step.look a).2.look b).2.lg = true
    · rw [if_pos hl2] at hr; cases hr
    have hl3 : ((u.step.look a).2.look b).2.lg = false := by simpa using hl2
    rw [if_neg hl2] at hr ⊢
    obtain ⟨_, ha, hb, ea, eb, hcs, htr, _⟩ := looks_ok hl3
    rw [ha, hb] at hr ⊢
    obtain ⟨x, hx, hxe⟩ := ea.last
    obtain ⟨y, hy, hye⟩ := eb.last
    generalize hp : hlook u.cs a = p at *
    generalize hq : hlook u.cs b = q at *
    generalize ((u.step.look a).2.look b).2 = v at *
    rw [show kindAt u.cs p = x.k by unfold kindAt; rw [hx], show kindAt u.cs q = y.k by unfold kindAt; rw [hy]] at hr ⊢
    have fin : ∀ {L1 : List HC} {z : Int}, Up u.cs L1 → End L1 a z → End L1 b z → ∀ {v' : HU}, v'.cs = L1 → One a b u v' := fun hU h1 h2 v' e => ⟨by rw [e]; exact hU, fun L hL => by
      rw [e] at hL
      obtain ⟨s, s1, s2⟩ := hL.ends _ _ h1
      obtain ⟨t, t1, t2⟩ := hL.ends _ _ h2
      have := s2.det t2
      subst this
      exact Sm.meet s1 t1⟩
    have bindOne : ∀ {r z : Int} {c : HC}, hat u.cs r = some c → c.k = 0 → c.n = r → End u.cs z z → z ≠ r → (∀ a', End u.cs a' r ∨ End u.cs a' z → End (setN u.cs r.toNat z) a' z) := fun hr' hk' hn' hz hne a' ha' => by
      obtain ⟨k1, k2⟩ := end_bind hr' hk' hn' hz hne
      rcases ha' with g | g
      · exact k2 _ g
      · exact k1 _ _ g hne
    by_cases hxk : x.k = 0
    · have hxn : x.n = p := Classical.byContradiction fun e => hxe ⟨hxk, e⟩
      rw [if_pos hxk] at hr ⊢
      by_cases hyk : y.k = 0
      · have hyn : y.n = q := Classical.byContradiction fun e => hye ⟨hyk, e⟩
        rw [if_pos hyk] at hr ⊢
        by_cases hpq : p = q
        · rw [if_pos hpq]
          subst hpq
          exact fin (Up.refl _) ea eb hcs
        · rw [if_neg hpq]
          rcases Int.le_total p q with hle | hle
          · rw [Int.max_eq_right hle, Int.min_eq_left hle]
            have := bindOne hy hyk hyn ea.self hpq
            exact fin (up_bind hy hyk hyn ea.self hpq) (this a (.inr ea)) (this b (.inl eb)) (by simp only [HU.bind]; rw [hcs])
          · rw [Int.max_eq_left hle, Int.min_eq_right hle]
            have := bindOne hx hxk hxn eb.self (Ne.symm hpq)
            exact fin (up_bind hx hxk hxn eb.self (Ne.symm hpq)) (this a (.inl ea)) (this b (.inr eb)) (by simp only [HU.bind]; rw [hcs])
      · rw [if_neg hyk] at hr ⊢
        obtain ⟨e1, _, hne⟩ := asg_one hg2 (p := p) (q := q) (by rw [hcs]; exact hx) hxk hxn (by rw [hcs]; exact hy) hyk hr
        rw [hcs] at e1
        have := bindOne hx hxk hxn eb.self hne
        exact fin (up_bind hx hxk hxn eb.self hne) (this a (.inl ea)) (this b (.inr eb)) e1
    · rw [if_neg hxk] at hr ⊢
      by_cases hyk : y.k = 0
      · have hyn : y.n = q := Classical.byContradiction fun e => hye ⟨hyk, e⟩
        rw [if_pos hyk] at hr ⊢
        obtain ⟨e1, _, hne⟩ := asg_one hg2 (p := q) (q := p) (by rw [hcs]; exact hy) hyk hyn (by rw [hcs]; exact hx) hxk hr
        rw [hcs] at e1
        have := bindOne hy hyk hyn ea.self hne
        exact fin (up_bind hy hyk hyn ea.self hne) (this a (.inr ea)) (this b (.inl eb)) e1
      · rw [if_neg hyk] at hr ⊢
        unfold partsU at hr ⊢
        by_cases hxy : hat v.cs p = hat v.cs q
        · rw [if_pos hxy] at hr ⊢
          obtain ⟨u1, u2⟩ := all_one (n := n) (fun x y u => uni_up f x y u) (fun x y u h hl hr => uni_one f x y u h hl hr) _ _ _ v hg2 hl3 hr
          replace u1 : Up u.cs (allU (uniU f) (argsAt v.cs p) (p + 1) (q + 1) v).2.cs := by rw [← hcs]; exact u1
          rw [hcs] at hxy
          rw [hx, hy] at hxy
          obtain rfl := Option.some.inj hxy
          have hA : argsAt v.cs p = (argsC x).toNat := by unfold argsAt; rw [hcs, hx]
          refine ⟨u1, fun L hL => ?_⟩
          have hU := u1.trans hL
          exact Sm.of (hU.nonvar ea hx hxk) (hU.nonvar eb hy hyk) (.inr ⟨x, hU.cell _ _ hx hxk, hU.cell _ _ hy hyk, hxk, fun i i0 i1 => u2 L hL i i0 (by rw [hA]; omega)⟩)
        · rw [if_neg hxy] at hr; cases hr
/-- What is one needs nothing more. -/
def Still (u : HU) (r : Bool × HU) : Prop := r.2.lg = true ∨ (r.1 = true ∧ r.2.cs = u.cs ∧ r.2.tr = u.tr ∧ u.w ≤ r.2.w ∧ r.2.lg = false)
theorem all_still {n : Nat} {g : Int → Int → HU → Bool × HU} {L : List HC} {k : Nat} (hu : ∀ x y u, GU n u → u.lg = false → UU n u (g x y u)) (hg : ∀ x y u, GU n u → u.lg = false → u.cs = L → k ≤ u.w → Sm L x y → Still u (g x y u)) :
    ∀ (m : Nat) (x y : Int) (u : HU), GU n u → u.lg = false → u.cs = L → k ≤ u.w → (∀ i : Int, 0 ≤ i → i < m → Sm L (x + i) (y + i)) → Still u (allU g m x y u)
  | 0, x, y, u, h, hl, hc, hw, _ => .inr ⟨rfl, rfl, rfl, Nat.le_refl _, hl⟩
  | m + 1, x, y, u, h, hl, hc, hw, hs => by
    have h1 := hu x y u h hl
    simp only [allU]
    rcases hg x y u h hl hc hw (by simpa using hs 0 (by omega) (by omega)) with h2 | ⟨h2, h3, h4, h5, h6⟩
    · by_cases hok : (g x y u).1 = true
      · rw [h1.ok hok] at h2; cases h2
      · rw [if_neg hok]; exact .inl h2
    · rw [if_pos h2]
      rcases all_still hu hg m (x + 1) (y + 1) (g x y u).2 h1.gu h6 (h3.trans hc) (by omega) (fun i i0 i1 => by
        have := hs (i + 1) (by omega) (by omega)
        rw [show x + 1 + i = x + (i + 1) by omega, show y + 1 + i = y + (i + 1) by omega]; exact this) with g2 | ⟨g2, g3, g4, g5, g6⟩
      · exact .inl g2
      · exact .inr ⟨g2, g3.trans h3, g4.trans h4, by omega, g6⟩
theorem uni_still {n : Nat} {L : List HC} : ∀ (f : Nat) (a b : Int) (u : HU), GU n u → u.lg = false → u.cs = L → 400 ≤ u.w + f → Sm L a b → Still u (uniU f a b u)
  | 0, a, b, u, h, hl, hc, hw, hs => by
    left
    simp only [uniU]
    cases hq : ((u.step.look a).2.look b).2.lg with
    | true => rfl
    | false => have := (looks_ok hq).1; rw [stepLong (by omega)] at this; cases this
  | f + 1, a, b, u, h, hl, hc, hw, hs => by
    have hg2 : GU n ((u.step.look a).2.look b).2 := (h.step.look a).look b
    simp only [uniU]
    by_cases hl2 : ((u.step.look a).2.look b).2.lg = true
    · rw [if_pos hl2]; exact .inl hl2
    have hl3 : ((u.step.look a).2.look b).2.lg = false := by simpa using hl2
    rw [if_neg hl2]
    obtain ⟨_, ha, hb, ea, eb, hcs, htr, hw2⟩ := looks_ok hl3
    rw [ha, hb]
    obtain ⟨x, hx, hxe⟩ := ea.last
    obtain ⟨y, hy, hye⟩ := eb.last
    have hstep := hs.step (by rw [← hc]; exact ea) (by rw [← hc]; exact eb)
    rw [← hc] at hstep
    generalize hlook u.cs a = p at *
    generalize hlook u.cs b = q at *
    generalize ((u.step.look a).2.look b).2 = v at *
    rw [show kindAt u.cs p = x.k by unfold kindAt; rw [hx], show kindAt u.cs q = y.k by unfold kindAt; rw [hy]]
    have parts : (∀ i : Int, 0 ≤ i → i < argsC x → Sm L (p + 1 + i) (q + 1 + i)) → hat u.cs p = hat u.cs q → Still u (partsU (uniU f) p q v) := fun hch he => by
      unfold partsU
      rw [if_pos (by rw [hcs]; exact he)]
      have hA : argsAt v.cs p = (argsC x).toNat := by unfold argsAt; rw [hcs, hx]
      rcases all_still (n := n) (L := L) (k := v.w) (fun x y u => uni_up f x y u) (fun x y u g1 g2 g3 g4 g5 => uni_still f x y u g1 g2 g3 (by omega) g5) (argsAt v.cs p) (p + 1) (q + 1) v hg2 hl3 (hcs.trans hc) (Nat.le_refl _) (fun i i0 i1 => hch i i0 (by rw [hA] at i1; omega)) with g2 | ⟨g2, g3, g4, g5, g6⟩
      · exact .inl g2
      · exact .inr ⟨g2, g3.trans hcs, g4.trans htr, by omega, g6⟩
    rcases hstep with e | ⟨c, h1, h2, h3, h4⟩
    · subst e
      rw [hx] at hy; cases hy
      by_cases hk : x.k = 0
      · rw [if_pos hk, if_pos hk, if_pos rfl]
        exact .inr ⟨rfl, hcs, htr, by show u.w ≤ v.w; omega, hl3⟩
      · rw [if_neg hk, if_neg hk]
        exact parts (fun i _ _ => Sm.refl L _) rfl
    · rw [hx] at h1; cases h1
      rw [hy] at h2; cases h2
      rw [if_neg h3, if_neg h3]
      exact parts (fun i i0 i1 => by rw [← hc]; exact h4 i i0 i1) (by rw [hx, hy])
end Go.Proofs.YtdflngjfnpbpmabDoor
namespace Go.Proofs.YtdflngjfnpbpmabDoor
open Go.RowKit
set_option linter.unusedVariables false
set_option linter.unusedSimpArgs false

/-- Of the cells of L just those at N, all unbound, have been told another number. -/
def Bd (N : List Int) (L L' : List HC) : Prop := (∀ r ∈ N, 0 ≤ r) ∧ ∀ i : Nat, ((i : Int) ∈ N → ∃ c n, L[i]? = some c ∧ c.k = 0 ∧ c.n = (i : Int) ∧ L'[i]? = some ⟨c.k, n, c.s⟩) ∧ ((i : Int) ∉ N → L'[i]? = L[i]?)
theorem Bd.refl (L : List HC) : Bd [] L L := ⟨fun r h => by simp at h, fun i => ⟨fun h => by simp at h, fun _ => rfl⟩⟩
theorem Bd.trans {N N' : List Int} {L L' L'' : List HC} (h : Bd N L L') (g : Bd N' L' L'') : Bd (N ++ N') L L'' := by
  refine ⟨fun r hr => (List.mem_append.1 hr).elim (h.1 r) (g.1 r), fun i => ⟨fun hi => ?_, fun hi => ?_⟩⟩
  · by_cases h1 : (i : Int) ∈ N
    · obtain ⟨c, n, c1, c2, c3, c4⟩ := (h.2 i).1 h1
      by_cases h2 : (i : Int) ∈ N'
      · obtain ⟨d, m, d1, d2, d3, d4⟩ := (g.2 i).1 h2
        rw [c4] at d1; cases d1
        exact ⟨c, m, c1, c2, c3, d4⟩
      · rw [← (g.2 i).2 h2] at c4
        exact ⟨c, n, c1, c2, c3, c4⟩
    · have h2 : (i : Int) ∈ N' := by rcases List.mem_append.1 hi with h | h; exact absurd h h1; exact h
      obtain ⟨d, m, d1, d2, d3, d4⟩ := (g.2 i).1 h2
      rw [(h.2 i).2 h1] at d1
      exact ⟨d, m, d1, d2, d3, d4⟩
  · rw [(g.2 i).2 (fun h' => hi (List.mem_append_right _ h')), (h.2 i).2 (fun h' => hi (List.mem_append_left _ h'))]
theorem Bd.one {L : List HC} {r y : Int} {c : HC} (hr : hat L r = some c) (hk : c.k = 0) (hn : c.n = r) : Bd [r] L (setN L r.toNat y) := by
  obtain ⟨r0, r1, r2⟩ := hatS.1 hr
  refine ⟨fun s hs => by simp at hs; omega, fun i => ⟨fun hi => ?_, fun hi => ?_⟩⟩
  · simp at hi
    have e : r.toNat = i := by omega
    rw [e] at r2 ⊢
    exact ⟨c, y, r2, hk, by omega, by rw [setN_get, if_pos rfl, r2]; rfl⟩
  · simp at hi
    rw [setN_get, if_neg (by omega)]
theorem undoL_get : ∀ (N : List Int) (L : List HC), (∀ r ∈ N, 0 ≤ r) → ∀ i : Nat, (undoL L N)[i]? = if (i : Int) ∈ N then (L[i]?).map (fun c => ⟨c.k, i, c.s⟩) else L[i]?
  | [], L, _, i => by simp [undoL]
  | r :: N, L, h, i => by
    have r0 := h r (by simp)
    unfold undoL
    rw [undoL_get N _ (fun s hs => h s (.tail _ hs)) i, setN_get]
    by_cases e : r.toNat = i
    · have e2 : (i : Int) = r := by omega
      have hm : (i : Int) ∈ r :: N := by rw [e2]; exact .head _
      rw [if_pos e, if_pos hm]
      by_cases h2 : (i : Int) ∈ N
      · rw [if_pos h2, Option.map_map]; rfl
      · rw [if_neg h2, e2]
    · rw [if_neg e]
      have : (i : Int) ∈ r :: N ↔ (i : Int) ∈ N := by
        simp only [List.mem_cons]
        constructor
        · rintro (h | h)
          · omega
          · exact h
        · exact .inr
      simp only [this]
theorem Bd.undo {N : List Int} {L L' : List HC} (h : Bd N L L') : undoL L' N = L := by
  refine List.ext_getElem? fun i => ?_
  rw [undoL_get N L' h.1 i]
  by_cases hi : (i : Int) ∈ N
  · rw [if_pos hi]
    obtain ⟨c, n, c1, c2, c3, c4⟩ := (h.2 i).1 hi
    rw [c4, c1, Option.map_some, ← c3]
  · rw [if_neg hi]; exact (h.2 i).2 hi
theorem Bd.kind {N : List Int} {L L' : List HC} (h : Bd N L L') {r : Int} {c : HC} (hr : hat L r = some c) : ∃ d, hat L' r = some d ∧ d.k = c.k := by
  obtain ⟨r0, r1, r2⟩ := hatS.1 hr
  have e : ((r.toNat : Nat) : Int) = r := by omega
  have key : ∃ d, L'[r.toNat]? = some d ∧ d.k = c.k := by
    by_cases hi : ((r.toNat : Nat) : Int) ∈ N
    · obtain ⟨d, n, c1, c2, c3, c4⟩ := (h.2 r.toNat).1 hi
      rw [r2] at c1; cases c1
      exact ⟨_, c4, rfl⟩
    · exact ⟨c, by rw [(h.2 r.toNat).2 hi]; exact r2, rfl⟩
  obtain ⟨d, d1, d2⟩ := key
  exact ⟨d, by unfold hat; rw [if_pos r0]; exact d1, d2⟩
/-- The trail says what has been bound. -/
def Trl (u v : HU) : Prop := ∃ N, v.tr = u.tr ++ N ∧ Bd N u.cs v.cs
theorem Trl.same {u v : HU} (h1 : v.cs = u.cs) (h2 : v.tr = u.tr) : Trl u v := ⟨[], by simp [h2], by rw [h1]; exact Bd.refl _⟩
theorem Trl.trans {u v w : HU} (h : Trl u v) (g : Trl v w) : Trl u w := by
  obtain ⟨N, h1, h2⟩ := h
  obtain ⟨N', g1, g2⟩ := g
  exact ⟨N ++ N', by rw [g1, h1, List.append_assoc], h2.trans g2⟩
theorem Trl.bind {u v : HU} {r y : Int} {c : HC} (hr : hat u.cs r = some c) (hk : c.k = 0) (hn : c.n = r) (h1 : v.cs = setN u.cs r.toNat y) (h2 : v.tr = u.tr ++ [r]) : Trl u v := ⟨[r], h2, by rw [h1]; exact Bd.one hr hk hn⟩
theorem all_trl {n : Nat} {g : Int → Int → HU → Bool × HU} (hu : ∀ x y u, GU n u → u.lg = false → UU n u (g x y u)) (hg : ∀ x y u, GU n u → u.lg = false → Trl u (g x y u).2) :
    ∀ (m : Nat) (x y : Int) (u : HU), GU n u → u.lg = false → Trl u (allU g m x y u).2
  | 0, x, y, u, h, hl => Trl.same rfl rfl
  | m + 1, x, y, u, h, hl => by
    have h1 := hu x y u h hl
    simp only [allU]
    split
    · rename_i hok
      exact (hg x y u h hl).trans (all_trl hu hg m (x + 1) (y + 1) _ h1.gu (h1.ok hok))
    · exact hg x y u h hl
theorem asg_trl {n : Nat} {u : HU} (h : GU n u) {p q : Int} {x : HC} (hx : hat u.cs p = some x) (hxk : x.k = 0) (hxe : x.n = p) : Trl u (asgU p q u).2 := by
  have ho := occ_up (n := n) p 401 q u h.good h.wk
  unfold asgU
  split
  · exact Trl.same ho.cs ho.tr
  · exact Trl.bind hx hxk hxe (by simp only [HU.bind]; rw [ho.cs]) (by simp only [HU.bind]; rw [ho.tr])
theorem uni_trl {n : Nat} : ∀ (f : Nat) (a b : Int) (u : HU), GU n u → u.lg = false → Trl u (uniU f a b u).2
  | f, a, b, u, h, hl => by
    have hg2 : GU n ((u.step.look a).2.look b).2 := (h.step.look a).look b
    have hwa := look_w u.step a
    have hwb := look_w (u.step.look a).2 b
    have hcs2 : ((u.step.look a).2.look b).2.cs = u.cs := by rw [hwb.2.1, hwa.2.1]; rfl
    have htr2 : ((u.step.look a).2.look b).2.tr = u.tr := by rw [hwb.2.2, hwa.2.2]; rfl
    have hfail : Trl u ((u.step.look a).2.look b).2 := Trl.same hcs2 htr2
    cases f with
    | zero => exact hfail
    | succ f =>
    simp only [uniU]
    by_cases hl2 : ((u.step.look a).2.look b).2.lg = true
    · rw [if_pos hl2]; exact hfail
    have hl3 : ((u.step.look a).2.look b).2.lg = false := by simpa using hl2
    rw [if_neg hl2]
    obtain ⟨_, ha, hb, ea, eb, hcs, htr, _⟩ := looks_ok hl3
    rw [ha, hb]
    obtain ⟨x, hx, hxe⟩ := ea.last
    obtain ⟨y, hy, hye⟩ := eb.last
    generalize hlook u.cs a = p at *
    generalize hlook u.cs b = q at *
    generalize ((u.step.look a).2.look b).2 = v at *
    rw [show kindAt u.cs p = x.k by unfold kindAt; rw [hx], show kindAt u.cs q = y.k by unfold kindAt; rw [hy]]
    by_cases hxk : x.k = 0
    · have hxn : x.n = p := Classical.byContradiction fun e => hxe ⟨hxk, e⟩
      rw [if_pos hxk]
      by_cases hyk : y.k = 0
      · have hyn : y.n = q := Classical.byContradiction fun e => hye ⟨hyk, e⟩
        rw [if_pos hyk]
        by_cases hpq : p = q
        · rw [if_pos hpq]; exact hfail
        · rw [if_neg hpq]
          rcases Int.le_total p q with hle | hle
          · rw [Int.max_eq_right hle, Int.min_eq_left hle]
            exact Trl.bind hy hyk hyn (by simp only [HU.bind]; rw [hcs]) (by simp only [HU.bind]; rw [htr])
          · rw [Int.max_eq_left hle, Int.min_eq_right hle]
            exact Trl.bind hx hxk hxn (by simp only [HU.bind]; rw [hcs]) (by simp only [HU.bind]; rw [htr])
      · rw [if_neg hyk]
        exact hfail.trans (asg_trl hg2 (by rw [hcs]; exact hx) hxk hxn)
    · rw [if_neg hxk]
      by_cases hyk : y.k = 0
      · have hyn : y.n = q := Classical.byContradiction fun e => hye ⟨hyk, e⟩
        rw [if_pos hyk]
        exact hfail.trans (asg_trl hg2 (by rw [hcs]; exact hy) hyk hyn)
      · rw [if_neg hyk]
        unfold partsU
        split
        · exact hfail.trans (all_trl (n := n) (fun x y u => uni_up f x y u) (fun x y u h hl => uni_trl f x y u h hl) _ _ _ v hg2 hl3)
        · exact hfail
theorem hpure_gu {h : HH} (hg : goodH h = true) : GU h.cs.length ⟨h.cs, h.tr, 0, false⟩ := by
  unfold goodH goodCs goodTr at hg
  simp only [Bool.and_eq_true, decide_eq_true_eq] at hg
  exact ⟨rfl, hg.1.2, fun _ => by show (0 : Nat) ≤ 400; omega, by show h.tr.length ≤ 65536 + 0; omega⟩
/-- What Unify gives when two places could be made one. -/
theorem unify_ok {h u : HH} {a b : Int} {e : Int} (hu : unifyH h a b = (u, true, e)) : goodH h = true ∧ e = 0 ∧ goodH u = true ∧ Sm u.cs a b ∧ undoH u (h.tr.length : Nat) = (h, 0) ∧ isAddr u.cs a = true ∧ isAddr u.cs b = true ∧ u.tr.length ≤ 65536 := by
  unfold unifyH at hu
  by_cases hg : goodH h = false
  · rw [if_pos hg] at hu; simp at hu
  rw [if_neg hg] at hu
  have hg : goodH h = true := by simpa using hg
  by_cases hab : (isAddr h.cs a && isAddr h.cs b) = false
  · rw [if_pos hab] at hu; simp at hu
  rw [if_neg hab] at hu
  have hab : isAddr h.cs a = true ∧ isAddr h.cs b = true := by simpa using hab
  have hG := hpure_gu hg
  have huu := uni_up 401 a b _ hG rfl
  have hone := uni_one 401 a b _ hG rfl
  have htrl := uni_trl 401 a b _ hG rfl
  generalize uniU 401 a b ⟨h.cs, h.tr, 0, false⟩ = r at *
  split at hu
  · simp at hu
  rename_i hn
  split at hu
  · simp at hu
  rename_i hok
  simp only [Prod.mk.injEq, true_and] at hu
  obtain ⟨rfl, rfl⟩ := hu
  have hok : r.1 = true := by simpa using hok
  have hlen : r.2.tr.length ≤ 65536 := by
    rcases Nat.lt_or_ge 65536 r.2.tr.length with h1 | h1
    · exact absurd (.inr ⟨hok, h1⟩) hn
    · exact h1
  obtain ⟨N, t1, t2⟩ := htrl
  replace t1 : r.2.tr = h.tr ++ N := t1
  replace t2 : Bd N h.cs r.2.cs := t2
  have hln := huu.gu.len
  have hgu : goodH ⟨r.2.cs, r.2.tr⟩ = true := by
    have hg' := hg
    unfold goodH goodCs goodTr at hg ⊢
    simp only [Bool.and_eq_true, decide_eq_true_eq, List.all_eq_true] at hg ⊢
    refine ⟨⟨by rw [hln]; exact hg.1.1, by rw [hln]; exact huu.gu.good⟩, hlen, fun s hs => ?_⟩
    rw [t1] at hs
    unfold goodTr1
    rcases List.mem_append.1 hs with hs | hs
    · have := hg.2.2 s hs
      unfold goodTr1 at this
      split at this
      · rename_i c hc
        obtain ⟨d, d1, d2⟩ := t2.kind hc
        rw [d1]; dsimp only; rw [d2]; exact this
      · cases this
    · have s0 := t2.1 s hs
      have e : ((s.toNat : Nat) : Int) = s := by omega
      obtain ⟨c, n, c1, c2, c3, c4⟩ := (t2.2 s.toNat).1 (by rw [e]; exact hs)
      rw [show hat r.2.cs s = some ⟨c.k, n, c.s⟩ by unfold hat; rw [if_pos s0]; exact c4]
      simp [c2]
  refine ⟨hg, rfl, hgu, (hone hok).sm _ (Up.refl _), ?_, ?_, ?_, hlen⟩
  · unfold undoH
    rw [if_neg (by rw [hgu]; decide), if_neg (by dsimp only; rw [t1]; simp; omega)]
    dsimp only
    rw [t1, show ((h.tr.length : Nat) : Int).toNat = h.tr.length by omega, List.drop_left, List.take_left, t2.undo]
  · have := hab.1; unfold isAddr at this ⊢; rw [hln]; exact this
  · have := hab.2; unfold isAddr at this ⊢; rw [hln]; exact this
theorem unify_not {h u : HH} {a b : Int} {e : Int} (hu : unifyH h a b = (u, false, e)) : u = h := by
  unfold unifyH at hu
  by_cases h1 : goodH h = false
  · rw [if_pos h1] at hu; simp at hu; exact hu.1.symm
  rw [if_neg h1] at hu
  by_cases h2 : (isAddr h.cs a && isAddr h.cs b) = false
  · rw [if_pos h2] at hu; simp at hu; exact hu.1.symm
  rw [if_neg h2] at hu
  split at hu
  · simp at hu; exact hu.1.symm
  · split at hu
    · simp at hu; exact hu.1.symm
    · simp at hu
/-- What is one is one again, unless that takes too long. -/
theorem unify_again {u : HH} {a b : Int} (hg : goodH u = true) (ha : isAddr u.cs a = true) (hb : isAddr u.cs b = true) (hs : Sm u.cs a b) : unifyH u a b = (u, false, 3) ∨ unifyH u a b = (u, true, 0) := by
  have hG := hpure_gu hg
  have htl : u.tr.length ≤ 65536 := by
    unfold goodH goodTr at hg
    simp only [Bool.and_eq_true, decide_eq_true_eq] at hg
    exact hg.2.1
  have hst := uni_still (L := u.cs) 401 a b _ hG rfl rfl (by show 400 ≤ 0 + 401; omega) hs
  unfold unifyH
  rw [if_neg (by rw [hg]; decide), ha, hb, if_neg (by decide)]
  generalize uniU 401 a b ⟨u.cs, u.tr, 0, false⟩ = r at *
  rcases hst with h1 | ⟨h1, h2, h3, h4, h5⟩
  · rw [if_pos (.inl h1)]; exact .inl rfl
  · replace h2 : r.2.cs = u.cs := h2
    replace h3 : r.2.tr = u.tr := h3
    rw [if_neg (by rw [h5, h3]; simp; omega), if_neg (by rw [h1]; decide), h2, h3]
    exact .inr rfl
end Go.Proofs.YtdflngjfnpbpmabDoor
namespace Go.Proofs.YtdflngjfnpbpmabDoor
open Go.RowKit
set_option linter.unusedVariables false
set_option linter.unusedSimpArgs false

/-- The terms at m places from a on: g gives the one at a place. -/
def listT (g : Int → Nat → Option (Tm × Nat)) : Nat → Int → Nat → Option (Ts × Nat)
  | 0, _, l => some (.nil, l)
  | m + 1, a, l => (g a l).bind fun p => (listT g m (a + 1) p.2).map fun q => (.cons p.1.k p.1.n p.1.s p.1.ar q.1, q.2)
/-- The term at a place, and how many nodes are left; none: there are not enough, or a Ref leads nowhere. -/
def tmAt (L : List HC) : Nat → Int → Nat → Option (Tm × Nat)
  | 0, _, _ => none
  | f + 1, a, l => if l = 0 then none else match hat L (hlook L a) with
    | none => none
    | some c => if c.k = 0 then some (⟨0, hlook L a, eS, .nil⟩, l - 1)
      else if c.k = 1 then some (⟨1, 0, c.s, .nil⟩, l - 1)
      else if c.k = 2 then some (⟨2, c.n, eS, .nil⟩, l - 1)
      else (listT (tmAt L f) (argsC c).toNat (hlook L a + 1) (l - 1)).map fun p => (⟨3, 0, c.s, p.1⟩, p.2)
def zeroTm : Tm := ⟨0, 0, eS, .nil⟩
def mostN (most : Int) : Nat := (min most 65536).toNat
def termH (h : HH) (a most : Int) : Tm × Nat × Int :=
  if goodH h = false then (zeroTm, 0, 1)
  else if isAddr h.cs a = false then (zeroTm, 0, 4)
  else match tmAt h.cs (mostN most) a (mostN most) with
    | none => (zeroTm, 0, 3)
    | some (t, l) => (t, mostN most - l, 0)
theorem tmAt_hat {L : List HC} {f : Nat} {a : Int} {l : Nat} {c : HC} (hl : l ≠ 0) (hc : hat L (hlook L a) = some c) : tmAt L (f + 1) a l = if c.k = 0 then some (⟨0, hlook L a, eS, .nil⟩, l - 1)
      else if c.k = 1 then some (⟨1, 0, c.s, .nil⟩, l - 1)
      else if c.k = 2 then some (⟨2, c.n, eS, .nil⟩, l - 1)
      else (listT (tmAt L f) (argsC c).toNat (hlook L a + 1) (l - 1)).map fun p => (⟨3, 0, c.s, p.1⟩, p.2) := by
  simp only [tmAt]; rw [if_neg hl, hc]
theorem tmAt_none {L : List HC} {f : Nat} {a : Int} {l : Nat} (hc : hlook L a < 0) : tmAt L f a l = none := by
  cases f with
  | zero => rfl
  | succ f =>
    simp only [tmAt]
    split
    · rfl
    · rw [show hat L (hlook L a) = none by unfold hat; rw [if_neg (by omega)]]
theorem listT_sm {L : List HC} {g : Int → Nat → Option (Tm × Nat)} (hg : ∀ a b l, Sm L a b → g a l = g b l) : ∀ (m : Nat) (a b : Int) (l : Nat), (∀ i : Int, 0 ≤ i → i < m → Sm L (a + i) (b + i)) → listT g m a l = listT g m b l
  | 0, a, b, l, _ => rfl
  | m + 1, a, b, l, h => by
    simp only [listT]
    have h0 := h 0 (by omega) (by omega)
    rw [hg a b l (by simpa using h0)]
    congr 1
    funext p
    rw [listT_sm hg m (a + 1) (b + 1) p.2 fun i i0 i1 => by
      have := h (i + 1) (by omega) (by omega)
      rw [show a + 1 + i = a + (i + 1) by omega, show b + 1 + i = b + (i + 1) by omega]; exact this]
theorem tmAt_sm {L : List HC} : ∀ (f : Nat) (a b : Int) (l : Nat), Sm L a b → tmAt L f a l = tmAt L f b l
  | 0, a, b, l, _ => rfl
  | f + 1, a, b, l, h => by
    by_cases hl : l = 0
    · simp only [tmAt]; rw [if_pos hl, if_pos hl]
    rcases h.ends with e | ⟨x, y, hx, hy, e⟩
    · rw [e]
    obtain ⟨c, c1, _⟩ := hx.last
    obtain ⟨d, d1, _⟩ := hy.last
    rw [tmAt_hat hl (by rw [hx.look]; exact c1), tmAt_hat hl (by rw [hy.look]; exact d1), hx.look, hy.look]
    rcases e with e | ⟨z, z1, z2, z3, z4⟩
    · subst e; rw [c1] at d1; cases d1; rfl
    · rw [c1] at z1; cases z1
      rw [d1] at z2; cases z2
      rw [if_neg z3, if_neg z3]
      by_cases k1 : c.k = 1
      · rw [if_pos k1, if_pos k1]
      by_cases k2 : c.k = 2
      · rw [if_neg k1, if_neg k1, if_pos k2, if_pos k2]
      rw [if_neg k1, if_neg k1, if_neg k2, if_neg k2]
      rw [listT_sm (fun a b l => tmAt_sm f a b l) (argsC c).toNat (x + 1) (y + 1) (l - 1) fun i i0 i1 => z4 i i0 (by omega)]
theorem listT_nodes {g : Int → Nat → Option (Tm × Nat)} (hg : ∀ a l p, g a l = some p → p.1.ar.nodes + 1 + p.2 = l) : ∀ (m : Nat) (a : Int) (l : Nat) (p : Ts × Nat), listT g m a l = some p → p.1.nodes + p.2 = l ∧ p.1.length = m
  | 0, a, l, p, h => by simp only [listT, Option.some.injEq] at h; subst h; simp [Ts.nodes, Ts.length]
  | m + 1, a, l, p, h => by
    simp only [listT] at h
    cases h1 : g a l with
    | none => rw [h1] at h; simp at h
    | some q =>
      rw [h1, Option.bind_some] at h
      cases h2 : listT g m (a + 1) q.2 with
      | none => rw [h2] at h; simp at h
      | some r =>
        rw [h2, Option.map_some, Option.some.injEq] at h
        subst h
        have e1 := hg a l q h1
        obtain ⟨e2, e3⟩ := listT_nodes hg m (a + 1) q.2 r h2
        simp only [Ts.nodes, Ts.length]
        omega
theorem tmAt_nodes {L : List HC} : ∀ (f : Nat) (a : Int) (l : Nat) (p : Tm × Nat), tmAt L f a l = some p → p.1.ar.nodes + 1 + p.2 = l
  | 0, a, l, p, h => by cases h
  | f + 1, a, l, p, h => by
    by_cases hl : l = 0
    · simp only [tmAt] at h; rw [if_pos hl] at h; cases h
    cases hc : hat L (hlook L a) with
    | none => simp only [tmAt] at h; rw [if_neg hl, hc] at h; cases h
    | some c =>
      rw [tmAt_hat hl hc] at h
      split at h
      · cases h; simp only [Ts.nodes]; omega
      split at h
      · cases h; simp only [Ts.nodes]; omega
      split at h
      · cases h; simp only [Ts.nodes]; omega
      cases h2 : listT (tmAt L f) (argsC c).toNat (hlook L a + 1) (l - 1) with
      | none => rw [h2] at h; cases h
      | some r =>
        rw [h2, Option.map_some, Option.some.injEq] at h
        subst h
        have := (listT_nodes (fun a l p => tmAt_nodes f a l p) _ _ _ _ h2).1
        show r.1.nodes + 1 + r.2 = l
        omega
end Go.Proofs.YtdflngjfnpbpmabDoor
namespace Go.Proofs.YtdflngjfnpbpmabDoor
open Go.RowKit

def lowerB (c : UInt8) : Bool := decide (97 ≤ c.toNat) && decide (c.toNat ≤ 122)
/-- Is it a name? -/
def nameB (s : ByteArray) : Bool := decide (s.data.toList = [33]) || (decide (1 ≤ s.size) && decide (s.size ≤ 8) && s.data.toList.all lowerB)
/-- The first k + 1 letters are the first k and the next one. -/
theorem letters_succ (s : ByteArray) (k : Nat) (h : k < s.size) : s.data.toList.take (k + 1) = s.data.toList.take k ++ [s[k]] :=
  List.take_succ_eq_append_getElem (l := s.data.toList) (i := k) (by simpa using h)

theorem all_false {s : ByteArray} {k : Nat} {c : UInt8} (h : s.data.toList.take (k + 1) = s.data.toList.take k ++ [c]) (hc : lowerB c = false) : s.data.toList.all lowerB = false := by
  have e : s.data.toList = s.data.toList.take (k + 1) ++ s.data.toList.drop (k + 1) := (List.take_append_drop _ _).symm
  rw [e, List.all_append, h, List.all_append]
  simp [hc]

set_option maxHeartbeats 400000 in
theorem named_any (s : ByteArray) (w : World) : Calls Tryd.prog 41 #[.string s] w fun e w' => e = .returned (.bool (nameB s)) ∧ w = w' := by
  by_cases h0 : s.data.toList = [33]
  · have r : nameB s = true := by simp [nameB, h0]
    have h1 : s.toList = [33] := by rw [ByteArray.toList_eq]; exact h0
    rw [r]
    clear r h0
    go_enter Tryd.func41, Tryd.ntmps41
    go_wp2_with fail
    go_ret
    exact ⟨rfl, rfl⟩
  have h1 : (s.toList == [33]) = false := by rw [ByteArray.toList_eq]; simpa using h0
  by_cases h2 : s.size < 1
  · have r : nameB s = false := by simp [nameB, h0]; omega
    rw [r]
    clear r h0
    go_enter Tryd.func41, Tryd.ntmps41
    go_wp2_with fail
    go_ret
    exact ⟨rfl, rfl⟩
  by_cases h3 : 8 < s.size
  · have r : nameB s = false := by simp [nameB, h0]; omega
    rw [r]
    clear r h0
    go_enter Tryd.func41, Tryd.ntmps41
    go_wp2_with fail
    go_ret
    exact ⟨rfl, rfl⟩
  have r : nameB s = s.data.toList.all lowerB := by
    have a : 1 ≤ s.size := by omega
    have b : s.size ≤ 8 := by omega
    simp [nameB, h0, a, b]
  have R := Lib.hid r
  clear r h0
  go_enter Tryd.func41, Tryd.ntmps41
  go_wp2_with fail
  go_loopg [16] s.size (fun g i wr => w = wr ∧ ∃ k : Nat, k ≤ s.size ∧ g = s.size - k ∧ i = .int .i64 k ∧ (s.data.toList.take k).all lowerB = true)
  case atStart => exact ⟨rfl, 0, Nat.zero_le _, rfl, rfl, rfl⟩
  case round =>
    obtain ⟨rfl, k, hk, hg, rfl, ha⟩ := hrel
    have HA := Lib.hid ha
    have HG := Lib.hid hg
    clear ha hg
    by_cases hlt : k < s.size
    · have hts := letters_succ s k hlt
      have hbig := s[k].toNat_lt
      by_cases hlo : (s[k].toNat : Int) < 97
      · have hf := Lib.hid (all_false hts (show lowerB s[k] = false by simp [lowerB]; omega))
        clear hts
        go_wp2_with fail
        go_ret
        exact ⟨by rw [R.out, hf.out]; rfl, rfl⟩
      by_cases hhi : (122 : Int) < (s[k].toNat : Int)
      · have hf := Lib.hid (all_false hts (show lowerB s[k] = false by simp [lowerB]; omega))
        clear hts
        go_wp2_with fail
        go_ret
        exact ⟨by rw [R.out, hf.out]; rfl, rfl⟩
      · have hf : Hid ((s.data.toList.take (k + 1)).all lowerB = true) := Lib.hid (by
          rw [hts, List.all_append, HA.out]
          simp [lowerB]; omega)
        clear hts
        go_wp2_with fail
        go_roundg (s.size - (k + 1))
        case measure => rw [HG.out]; omega
        case rel => exact ⟨rfl, k + 1, by omega, rfl, rfl, hf.out⟩
    · go_wp2_with fail
      go_ret
      refine ⟨?_, rfl⟩
      have h4 := HA.out
      rw [List.take_of_length_le (by simp; omega)] at h4
      rw [R.out, h4]; rfl
end Go.Proofs.YtdflngjfnpbpmabDoor
namespace Go.Proofs
open Go.Shelf
def Tryd.lays160_ren : Go.Shelf.Ren := ⟨fun | 160 => 42 | 232 => 44 | 231 => 43 | 227 => 45 | 234 => 47 | 233 => 46 | 236 => 49 | 235 => 48 | 228 => 50 | 271 => 53 | 151 => 52 | 197 => 51 | 120 => 56 | 152 => 55 | 260 => 54 | 137 => 57 | 119 => 58 | 224 => 59 | 225 => 60 | 217 => 61 | 266 => 62 | n => n, fun | 9 => 9 | 4 => 4 | 3 => 3 | 5 => 5 | 117 => 71 | 116 => 70 | 0 => 0 | 124 => 74 | 21 => 21 | 105 => 76 | 46 => 81 | 119 => 80 | 139 => 84 | 138 => 83 | n => n, fun | 3 => 0 | 4 => 1 | n => n⟩
theorem Tryd.lays160 : Go.Proofs.Lays.n160 Tryd.prog Tryd.lays160_ren := {
  mixed := by kernel_rfl
  f119 := Tryd.func58.trans (congrArg some (by kernel_rfl))
  f120 := Tryd.func56.trans (congrArg some (by kernel_rfl))
  f137 := Tryd.func57.trans (congrArg some (by kernel_rfl))
  f151 := Tryd.func52.trans (congrArg some (by kernel_rfl))
  f152 := Tryd.func55.trans (congrArg some (by kernel_rfl))
  f160 := Tryd.func42.trans (congrArg some (by kernel_rfl))
  f197 := Tryd.func51.trans (congrArg some (by kernel_rfl))
  f217 := Tryd.func61.trans (congrArg some (by kernel_rfl))
  f224 := Tryd.func59.trans (congrArg some (by kernel_rfl))
  f225 := Tryd.func60.trans (congrArg some (by kernel_rfl))
  f227 := Tryd.func45.trans (congrArg some (by kernel_rfl))
  f228 := Tryd.func50.trans (congrArg some (by kernel_rfl))
  f231 := Tryd.func43.trans (congrArg some (by kernel_rfl))
  f232 := Tryd.func44.trans (congrArg some (by kernel_rfl))
  f233 := Tryd.func46.trans (congrArg some (by kernel_rfl))
  f234 := Tryd.func47.trans (congrArg some (by kernel_rfl))
  f235 := Tryd.func48.trans (congrArg some (by kernel_rfl))
  f236 := Tryd.func49.trans (congrArg some (by kernel_rfl))
  f260 := Tryd.func54.trans (congrArg some (by kernel_rfl))
  f266 := Tryd.func62.trans (congrArg some (by kernel_rfl))
  f271 := Tryd.func53.trans (congrArg some (by kernel_rfl))
  t0 := Tryd.underlying0
  a0 := Tryd.isAgg0
  z0 := Tryd.sizeOf0
  v0 := Tryd.zeroValue0
  t3 := Tryd.underlying3
  a3 := Tryd.isAgg3
  z3 := Tryd.sizeOf3
  v3 := Tryd.zeroValue3
  t4 := Tryd.underlying4
  a4 := Tryd.isAgg4
  z4 := Tryd.sizeOf4
  v4 := Tryd.zeroValue4
  t5 := Tryd.underlying5
  a5 := Tryd.isAgg5
  z5 := Tryd.sizeOf5
  v5 := Tryd.zeroValue5
  t9 := Tryd.underlying9
  a9 := Tryd.isAgg9
  z9 := Tryd.sizeOf9
  v9 := Tryd.zeroValue9
  t21 := Tryd.underlying21
  a21 := Tryd.isAgg21
  z21 := Tryd.sizeOf21
  v21 := Tryd.zeroValue21
  t46 := Tryd.underlying81
  a46 := Tryd.isAgg81
  z46 := Tryd.sizeOf81
  v46 := Tryd.zeroValue81
  t105 := Tryd.underlying76
  a105 := Tryd.isAgg76
  z105 := Tryd.sizeOf76
  v105 := Tryd.zeroValue76
  t116 := Tryd.underlying70
  a116 := Tryd.isAgg70
  z116 := Tryd.sizeOf70
  t117 := Tryd.underlying71
  a117 := Tryd.isAgg71
  z117 := Tryd.sizeOf71
  v117 := Tryd.zeroValue71
  t119 := Tryd.underlying80
  a119 := Tryd.isAgg80
  z119 := Tryd.sizeOf80
  t124 := Tryd.underlying74
  a124 := Tryd.isAgg74
  z124 := Tryd.sizeOf74
  v124 := Tryd.zeroValue74
  t138 := Tryd.underlying83
  a138 := Tryd.isAgg83
  z138 := Tryd.sizeOf83
  v138 := Tryd.zeroValue83
  t139 := Tryd.underlying84
  a139 := Tryd.isAgg84
  z139 := Tryd.sizeOf84
  v139 := Tryd.zeroValue84
  g3 := by kernel_rfl
  g4 := by kernel_rfl }
end Go.Proofs
namespace Go.Proofs.YtdflngjfnpbpmabDoor
open Go.RowKit Go.Shelf

/-- The small letters. -/
def abc : List UInt8 := [97, 98, 99, 100, 101, 102, 103, 104, 105, 106, 107, 108, 109, 110, 111, 112, 113, 114, 115, 116, 117, 118, 119, 120, 121, 122]
theorem abc_lower (c : UInt8) : abc.contains c = lowerB c := by
  have h : ∀ n : Fin 256, abc.contains (UInt8.ofNat n.val) = lowerB (UInt8.ofNat n.val) := by decide +kernel
  have := h ⟨c.toNat, c.toNat_lt⟩
  simpa using this
theorem head_drop {p : UInt8 → Bool} {a : UInt8} {t : List UInt8} : ∀ {l : List UInt8}, l.dropWhile p = a :: t → p a = false
  | [], h => by cases h
  | x :: r, h => by
    cases hx : p x with
    | true => rw [List.dropWhile_cons_of_pos hx] at h; exact head_drop h
    | false => rw [List.dropWhile_cons_of_neg (by simp [hx])] at h; cases h; exact hx
theorem drop_nil {p : UInt8 → Bool} : ∀ {l : List UInt8}, l.dropWhile p = [] ↔ ∀ x ∈ l, p x = true
  | [] => by simp
  | x :: r => by
    cases hx : p x with
    | true => rw [List.dropWhile_cons_of_pos hx, drop_nil]; simp [hx]
    | false => rw [List.dropWhile_cons_of_neg (by simp [hx])]; simp [hx]
/-- Trimmed of small letters, nothing is left where there are no others. -/
theorem trim_abc (l : List UInt8) : (Lib.trimS l abc).isEmpty = l.all lowerB := by
  have e : (fun c => abc.contains c) = lowerB := funext abc_lower
  unfold Lib.trimS Lib.trimLeftS Lib.trimRightS
  rw [e]
  cases h : l.all lowerB with
  | true =>
    have h1 : l.reverse.dropWhile lowerB = [] := by
      rw [drop_nil]
      intro x hx
      exact List.all_eq_true.1 h x (List.mem_reverse.1 hx)
    rw [h1]; rfl
  | false =>
    cases h1 : l.reverse.dropWhile lowerB with
    | nil =>
      rw [drop_nil] at h1
      have : l.all lowerB = true := List.all_eq_true.2 fun x hx => h1 x (List.mem_reverse.2 hx)
      rw [h] at this; cases this
    | cons a t =>
      have ha := head_drop h1
      cases h2 : (a :: t).reverse.dropWhile lowerB with
      | nil =>
        rw [drop_nil] at h2
        have := h2 a (List.mem_reverse.2 (List.mem_cons_self ..))
        rw [ha] at this; cases this
      | cons b u => rfl

set_option maxHeartbeats 400000 in
theorem isName_any (s : ByteArray) (w : World) : Calls Tryd.prog 40 #[.string s] w fun e w' => e = .returned (.bool (nameB s)) ∧ Below w.heap.size w w' := by
  by_cases h0 : s.data.toList = [33]
  · have r : nameB s = true := by simp [nameB, h0]
    have h1 : s.toList = [33] := by rw [ByteArray.toList_eq]; exact h0
    rw [r]
    clear r h0
    go_enter Tryd.func40, Tryd.ntmps40
    go_wp2_with fail
    go_ret
    exact ⟨rfl, Below.refl _ _⟩
  have h1 : (s.toList == [33]) = false := by rw [ByteArray.toList_eq]; simpa using h0
  by_cases h2 : s.size < 1
  · have r : nameB s = false := by simp [nameB, h0]; omega
    have h3 : s.toList = [] := by rw [ByteArray.toList_eq]; exact List.eq_nil_of_length_eq_zero (by rw [Array.length_toList]; exact Nat.lt_one_iff.1 h2)
    rw [r]
    clear r h0
    go_enter Tryd.func40, Tryd.ntmps40
    go_wp2_with fail
    go_ret
    exact ⟨rfl, Below.refl _ _⟩
  have h4 : s.toList.isEmpty = false := by
    rw [ByteArray.toList_eq]
    cases hl : s.data.toList with
    | nil =>
      have : s.size = 0 := by
        have := congrArg List.length hl
        rw [Array.length_toList] at this
        exact this
      omega
    | cons _ _ => rfl
  by_cases h3 : 8 < s.size
  · have r : nameB s = false := by simp [nameB, h0]; omega
    rw [r]
    clear r h0
    go_enter Tryd.func40, Tryd.ntmps40
    go_wp2_with fail
    go_ret
    exact ⟨rfl, Below.refl _ _⟩
  have r : nameB s = s.data.toList.all lowerB := by
    have a : 1 ≤ s.size := by omega
    have b : s.size ≤ 8 := by omega
    simp [nameB, h0, a, b]
  have hcon := Any.strings_Trim_laid Tryd.lays160 (by kernel_rfl) s ⟨#[97, 98, 99, 100, 101, 102, 103, 104, 105, 106, 107, 108, 109, 110, 111, 112, 113, 114, 115, 116, 117, 118, 119, 120, 121, 122]⟩ w (by omega) (by decide) (ascii_of_all (by decide))
  change Calls Tryd.prog 42 _ _ (fun e w' => e = .returned (.string ⟨(Lib.trimS s.data.toList abc).toArray⟩) ∧ Below w.heap.size w w') at hcon
  have hr : (⟨(Lib.trimS s.data.toList abc).toArray⟩ : ByteArray).toList.isEmpty = nameB s := by rw [ByteArray.toList_eq, r]; exact trim_abc _
  generalize (⟨(Lib.trimS s.data.toList abc).toArray⟩ : ByteArray) = t at hcon hr
  generalize hb : nameB s = nb at *
  clear r hb h0
  go_enter Tryd.func40, Tryd.ntmps40
  go_wp2_with fail
  refine hcon.mono ?_
  rintro e w' ⟨rfl, hB⟩
  go_wp2_with fail
  go_ret
  exact ⟨rfl, hB⟩
end Go.Proofs.YtdflngjfnpbpmabDoor
namespace Go.Proofs.YtdflngjfnpbpmabDoor
open Go.RowKit

theorem info_term : (Tryd.prog.info? 24).map (fun i => (i.zero, i.size, i.bytes)) = some (some (.agg #[.int .i64 0, .int .i64 0, .string .empty, .slice none 0 0]), 4, 56) := by kernel_rfl

def CopySaid (T : Ts) : Prop := ∀ (w : World) (v : Value), Sl w (fun _ => True) v T → T.nodes ≤ 1048576 →
    Calls Tryd.prog 8 #[v] w fun e w' => ∃ v', e = .returned v' ∧ Sl w' (fun k => w.heap.size ≤ k) v' T ∧ Below w.heap.size w w'

set_option maxHeartbeats 400000 in
theorem copyTerm_of {ar : Ts} (ih : CopySaid ar) (hn : ar.nodes ≤ 1048576) (k n : Int) (s : ByteArray) (v : Value) (w : World) (hv : Sl w (fun _ => True) v ar) :
    Calls Tryd.prog 16 #[.agg #[.int .i64 k, .int .i64 n, .string s, v]] w fun e w' => ∃ v', e = .returned (.agg #[.int .i64 k, .int .i64 n, .string s, v']) ∧ Sl w' (fun k => w.heap.size ≤ k) v' ar ∧ Below w.heap.size w w' := by
  go_enter Tryd.func16, Tryd.ntmps16
  go_wp2_with fail
  refine (ih _ v ?_ hn).mono ?_
  · exact hv.below (((Below.refl _ _).alloc (Nat.le_refl _) _).alloc (by simp) _)
  rintro e w1 ⟨v', rfl, hv', hb⟩
  obtain ⟨a0, a1, a2, a3, af⟩ := (((Plot.new w 24 #[.int .i64 k, .int .i64 n, .string s, v]).alloc _).below hb).four
  obtain ⟨b0, b1, b2, b3, bf⟩ := ((Plot.new (w.alloc _) 24 _).below hb).four
  simp only [World.size_alloc] at b0 b1 b2 b3 bf
  have hz : w.heap.size + 1 < w1.heap.size := by have := hb.size; simp at this; omega
  obtain ⟨A, c, rfl, h2⟩ := hv'
  go_wp2_with fail
  have hs : Below w.heap.size w (((((w1.setCell ⟨w.heap.size, 3, none⟩ (.slice A ar.length c)).setCell ⟨w.heap.size + 1, 0, none⟩ (.int .i64 k)).setCell ⟨w.heap.size + 1, 1, none⟩ (.int .i64 n)).setCell ⟨w.heap.size + 1, 2, none⟩ (.string s)).setCell ⟨w.heap.size + 1, 3, none⟩ (.slice A ar.length c)) := by
    refine (((((Below.trans ?_ (hb.mono (by simp; omega))).setCell (by simp) _).setCell (by simp) _).setCell (by simp) _).setCell (by simp) _).setCell (by simp) _
    exact ((Below.refl _ _).alloc (Nat.le_refl _) _).alloc (by simp) _
  refine bodyPost_ret (v := .agg #[.int .i64 k, .int .i64 n, .string s, .slice A ar.length c]) (by simp [results, Tryd.results16, go_sem, b0, b1, b2, b3]) rfl ⟨_, rfl, ?_, hs⟩
  have h3 : Sl w1 (fun k => w.heap.size + 2 ≤ k) (.slice A ar.length c) ar := by
    refine Sl.imp ⟨A, c, rfl, h2⟩ fun k hk _ => ?_
    simp at hk; omega
  refine (h3.keep (w' := _) fun k hk _ => ?_).imp fun k hk _ => by omega
  simp only [World.setCell, Array.getElem?_modify]
  repeat rw [if_neg (by omega)]

def CopyRel (w : World) (T : Ts) (A : Option Addr) (g : Nat) (s3 s8 : Value) (wr : World) : Prop :=
  ∃ (D R : Ts) (xs : List Value), T = D.app R ∧ g = R.length ∧ s8 = .int .i64 D.length ∧ wr.ownsRow w.heap.size 24 4 s3 D.length xs ∧
    Cs wr (fun k => w.heap.size ≤ k ∧ s3.ownBlock ≠ some k) D xs ∧ Below w.heap.size w wr ∧ (0 < R.length → ∃ b o, A = some ⟨b, o, none⟩ ∧ Seg w (fun _ => True) R b (o + 4 * D.length))

theorem CopyRel.start (w : World) (T : Ts) (A : Option Addr) (hs : 0 < T.length → ∃ b o, A = some ⟨b, o, none⟩ ∧ Seg w (fun _ => True) T b o) :
    CopyRel w T A T.length (.slice none 0 0) (.int .i64 0) w :=
  ⟨.nil, T, [], rfl, rfl, rfl, World.ownsRow_nil _ _ _ _, rfl, Below.refl _ _, fun h => by simpa [Ts.length] using hs h⟩

/-- What a round's append does to the relation. W: the world at the append, grown out of the round's own by what CopyTerm made. -/
theorem CopyRel.step {w wr W w3 : World} {T D r : Ts} {A : Option Addr} {u3 v3 : Value} {xs : List Value} {k n : Int} {s : ByteArray} {v : Value} {ar : Ts}
    (hT : T = D.app (.cons k n s ar r)) (hown : wr.ownsRow w.heap.size 24 4 u3 D.length xs)
    (hcs : Cs wr (fun k => w.heap.size ≤ k ∧ u3.ownBlock ≠ some k) D xs) (hb : Below w.heap.size w wr) (hW : Below wr.heap.size wr W)
    (hv : Sl W (fun k => wr.heap.size ≤ k) v ar) (ho3 : w3.ownsRow w.heap.size 24 4 v3 (D.length + 1) (xs ++ [.int .i64 k, .int .i64 n, .string s, v]))
    (hg : W.grownBy w3 u3.ownBlock) (hat : v3.ownBlock = u3.ownBlock ∨ v3.ownBlock = some W.heap.size)
    (hA : ∃ b o, A = some ⟨b, o, none⟩ ∧ Seg w (fun _ => True) (.cons k n s ar r) b (o + 4 * D.length)) :
    CopyRel w T A r.length v3 (.int .i64 ((D.length : Int) + 1)) w3 := by
  have hlt := hown.lt
  have hn : (D.app (.cons k n s ar .nil)).length = D.length + 1 := by rw [Ts.length_app]; rfl
  refine ⟨D.app (.cons k n s ar .nil), r, _, by rw [hT, Ts.app_assoc]; rfl, rfl, by rw [hn]; rfl, by rw [hn]; exact ho3, ?_, ?_, fun _ => ?_⟩
  · have h1 : Cs W (fun k => (w.heap.size ≤ k ∧ v3.ownBlock ≠ some k) ∧ u3.ownBlock ≠ some k) (D.app (.cons k n s ar .nil)) (xs ++ [.int .i64 k, .int .i64 n, .string s, v]) := by
      refine Cs.app ?_ ⟨v, [], rfl, ?_, rfl⟩
      · refine (hcs.imp (q := fun k => (w.heap.size ≤ k ∧ v3.ownBlock ≠ some k) ∧ u3.ownBlock ≠ some k) fun k hk hl => ⟨⟨hk.1, ?_⟩, hk.2⟩).below hW
        rcases hat with e | e <;> rw [e]
        · exact hk.2
        · intro e2; have := hW.size; simp at e2; omega
      · refine hv.imp fun k hk hl => ⟨⟨?_, ?_⟩, ?_⟩
        · have := hb.size; omega
        · rcases hat with e | e <;> rw [e]
          · intro e2; have := (hlt k e2).2; omega
          · intro e2; simp at e2; omega
        · intro e2; have := (hlt k e2).2; omega
    exact (h1.keep fun k hk hl => hg.block k hl (fun e => hk.2 e.symm)).imp fun k hk _ => hk.1
  · exact (hb.trans (hW.mono hb.size)).grown hg (by have := hb.size; have := hW.size; omega) fun k hk => (hlt k hk).1
  · obtain ⟨b, o, e, hs⟩ := hA
    refine ⟨b, o, e, ?_⟩
    rw [hn, show o + 4 * (D.length + 1) = o + 4 * D.length + 4 by omega]
    exact (seg_cons.1 hs).2.2.2.2.2

set_option maxHeartbeats 400000 in
theorem copyTerms_of (m : Nat) (ih : ∀ T : Ts, T.nodes < m → CopySaid T) (T : Ts) (hm : T.nodes ≤ m) : CopySaid T := by
  intro w v hv hn
  obtain ⟨A, c, rfl, hc, hs⟩ := hv
  have hl := T.length_le
  have h0 := CopyRel.start w T A hs
  clear hs
  obtain ⟨i0, hi0, hz0, hz1, hz2⟩ := info_parts info_term
  go_enter Tryd.func8, Tryd.ntmps8
  go_wp2_with fail
  go_loopg [3, 8] T.length (CopyRel w T A)
  case atStart => exact h0
  case round =>
    clear h0
    obtain ⟨D, R, xs, hT, hg, rfl, hown, hcs, hb, hseg⟩ := hrel
    cases R with
    | nil =>
      have e : D.length = T.length := by rw [hT, Ts.app_nil]
      have hsl : Sl wr (fun k => w.heap.size ≤ k) u3 T := by
        have h1 : D = T := by rw [hT, Ts.app_nil]
        subst h1
        exact Sl.own hown (hcs.imp fun k hk _ => hk.1) fun g hg => (hown.lt g hg).1
      go_wp2_with fail
      go_ret
      exact ⟨_, rfl, hsl, hb⟩
    | cons k n s ar r =>
      have e : D.length < T.length := by rw [hT, Ts.length_app]; simp [Ts.length]
      have e2 : ar.nodes < m := by rw [hT, Ts.nodes_app] at hm; simp [Ts.nodes] at hm; omega
      have e3 : ar.nodes ≤ 1048576 := by rw [hT, Ts.nodes_app] at hn; simp [Ts.nodes] at hn; omega
      obtain ⟨b, o, rfl, hsg⟩ := hseg (by simp [Ts.length])
      have HT := Lib.hid hT
      have HG := Lib.hid hg
      clear hT hseg hg
      obtain ⟨_, c0, c1, c2, ⟨v, c3, hv⟩, hsr⟩ := seg_cons.1 ((hsg.imp (q := fun k => k < w.heap.size) fun _ _ h => h).keep (w' := wr) fun k hk _ => hb.block k hk)
      rw [Nat.mul_comm 4] at c0 c1 c2 c3
      obtain ⟨Av, cv, rfl, hv⟩ := hv.form
      go_wp2_with fail
      refine (copyTerm_of (ih ar e2) e3 k n s _ _ ?_).mono ?_
      · exact hv.any.below ((Below.refl _ _).alloc (Nat.le_refl _) _)
      rintro e w2 ⟨v', rfl, hv', hb2⟩
      obtain ⟨Aw, cw, rfl, hv'⟩ := hv'.form
      have hW : Below wr.heap.size wr (w2.alloc (.cells #[.int .i64 k, .int .i64 n, .string s, .slice Aw ar.length cw] 24)) :=
        (((Below.refl _ _).alloc (Nat.le_refl _) _).trans (hb2.mono (by simp))).alloc (by have := hb2.size; simp at this; omega) _
      have hbz : w.heap.size ≤ w2.heap.size := by have := hb.size; have := hb2.size; simp at this; omega
      have hvW := hv'.below (((Below.refl _ w2).alloc (Nat.le_refl _) (.cells #[.int .i64 k, .int .i64 n, .string s, .slice Aw ar.length cw] 24)))
      go_wp2_with (at_builtin; refine wpList_append_at _ rfl (.tmp 12) (.tmp 15) _ rfl w.heap.size 24 i0 _ 4 56 Tryd.underlying22 hi0 hz0 hz1 hz2 rfl (by omega) u3 D.length xs rfl (own_below hown hW) ⟨w2.heap.size, 0, none⟩ 1 1 [.int .i64 k, .int .i64 n, .string s, .slice Aw ar.length cw] rfl rfl ?cells (by simp [Value.oneCell']) (by simp only [maxLen]; omega) (by omega) (by simp; omega) ?next)
      case cells => exact cell_lit w2 [.int .i64 k, .int .i64 n, .string s, .slice Aw ar.length cw] 24
      case next =>
        intro v3 w3 ho3 hg3 hat3
        go_wp2_with fail
        go_roundg r.length
        case measure => rw [HG.out]; simp [Ts.length]
        case rel => exact CopyRel.step HT.out hown hcs hb hW (hvW.imp fun k hk _ => by simp at hk; omega) ho3 hg3 (by simpa using hat3) ⟨b, o, rfl, hsg⟩

theorem copy_said (T : Ts) : CopySaid T := by
  have : ∀ m, ∀ T : Ts, T.nodes < m → CopySaid T := by
    intro m
    induction m with
    | zero => intro T h; omega
    | succ m ih => intro T h; exact copyTerms_of m ih T (by omega)
  exact this _ T (Nat.lt_succ_self _)
end Go.Proofs.YtdflngjfnpbpmabDoor
namespace Go.Proofs.YtdflngjfnpbpmabDoor
open Go.RowKit

theorem info_terms : (Tryd.prog.info? 22).map (fun i => (i.zero, i.size, i.bytes)) = some (some (.slice none 0 0), 1, 24) := by kernel_rfl

theorem run_equalIn_slice_nil {P : Program} (w : World) (d : Nat) (t e : TypeId) (a : Option Addr) (l c : Nat) (h : P.underlying t = some (.slice e)) : (Op.equalIn (d + 1) t (.slice a l c) (.slice none 0 0)).run P w = .ok a.isNone w := by
  cases a <;> simp [Op.equalIn, run_underlying h]
theorem run_equal_slice_nil {P : Program} (w : World) (t e : TypeId) (a : Option Addr) (l c : Nat) (h : P.underlying t = some (.slice e)) : (Op.equal t (.slice a l c) (.slice none 0 0)).run P w = .ok a.isNone w := run_equalIn_slice_nil w 9999 t e a l c h
theorem run_eql_slice_nil {P : Program} (w : World) (t e : TypeId) (a : Option Addr) (l c : Nat) (h : P.underlying t = some (.slice e)) : (binOp .eql t (.slice a l c) (.slice none 0 0)).run P w = .ok (.bool a.isNone) w := by
  simp [binOp, run_equal_slice_nil w t e a l c h]

/-- The variable in block pb is a path: a row of the call's own of the slices xs. -/
structure IsPath (w : World) (B pb : Nat) (pv : Value) (xs : List Value) : Prop where
  var : Plot w pb 60 #[pv]
  own : w.ownsRow B 22 1 pv xs.length xs
  apart : pv.ownBlock ≠ some pb

theorem Plot.ne_ {w : World} {g g' : Nat} {t t' : TypeId} {cs cs' : Array Value} (h : Plot w g t cs) (h' : Plot w g' t' cs') (hne : t ≠ t') : g ≠ g' := by
  rintro rfl
  unfold Plot at h h'
  rw [h] at h'
  injection h' with h'
  injection h' with _ ht
  exact hne ht
theorem IsPath.chg {S : Nat → Prop} {w w' : World} {B pb : Nat} {pv : Value} {xs : List Value} (h : IsPath w B pb pv xs) (hc : Chg S w w') (h1 : ¬ S pb) (h2 : ∀ g, pv.ownBlock = some g → ¬ S g) : IsPath w' B pb pv xs :=
  ⟨h.var.chg hc h1, own_chg h.own hc h2, h.apart⟩
theorem IsPath.other {w : World} {B pb b : Nat} {pv : Value} {xs : List Value} {cur : Array Value} (h : IsPath w B pb pv xs) (hb : Plot w b 24 cur) : b ≠ pb ∧ pv.ownBlock ≠ some b := by
  refine ⟨hb.ne_ h.var (by decide), fun e => ?_⟩
  rcases h.own.2 with ⟨e1, _⟩ | ⟨g, cap, cur', e1, _, hh, _⟩
  · rw [e1] at e; simp [Value.ownBlock] at e
  · rw [e1] at e
    simp only [Value.ownBlock, Option.some.injEq] at e
    subst e
    exact hb.ne_ (t' := 22) hh (by decide) rfl
theorem IsPath.set {w : World} {B pb b i : Nat} {pv u : Value} {xs : List Value} {cur : Array Value} (h : IsPath w B pb pv xs) (hb : Plot w b 24 cur) : IsPath (w.setCell ⟨b, i, none⟩ u) B pb pv xs := by
  obtain ⟨h1, h2⟩ := h.other hb
  exact h.chg ((Chg.refl (fun k => k = b) w).setCell (fun _ => rfl) u) (fun e => h1 e.symm) fun g hg e => h2 (by rw [hg, e])
theorem IsPath.keep {w w' : World} {B pb k : Nat} {pv : Value} {xs : List Value} {cur : Array Value} (h : IsPath w B pb pv xs) (hc : Chg (fun k => k = pb ∨ pv.ownBlock = some k) w w') (hk : Plot w k 24 cur) : Plot w' k 24 cur := by
  obtain ⟨h1, h2⟩ := h.other hk
  exact hk.chg hc fun hS => hS.elim h1 h2

set_option maxHeartbeats 400000 in
theorem newPath_any (k n : Int) (s : ByteArray) (A : Option Addr) (l c : Nat) (w : World) :
    Calls Tryd.prog 36 #[.agg #[.int .i64 k, .int .i64 n, .string s, .slice A l c]] w fun e w' => e = .returned (.slice (some ⟨w.heap.size + 2, 0, none⟩) 1 1) ∧
      w' = ((w.alloc (.cells #[.int .i64 k, .int .i64 n, .string s, .slice A l c] 24)).alloc (.cells #[.int .i64 k, .int .i64 n, .string s, .slice A l c] 24)).alloc (.cells #[.slice (some ⟨w.heap.size + 1, 0, none⟩) 1 1] 22) := by
  go_enter Tryd.func36, Tryd.ntmps36
  go_wp2_with fail
  go_ret
  exact ⟨rfl, rfl⟩

set_option maxHeartbeats 400000 in
theorem next_last {w : World} {B pb : Nat} {pv : Value} {ys : List Value} {b o cap : Nat} (hp : IsPath w B pb pv (ys ++ [.slice (some ⟨b, o, none⟩) 1 cap])) (hn : ys.length ≤ 1073741824) :
    Calls Tryd.prog 37 #[.pointer (some ⟨pb, 0, none⟩)] w fun e w' => e = .returned (.pointer (some ⟨b, o, none⟩)) ∧
      ∃ pv', IsPath w' B pb pv' ys ∧ pv'.ownBlock = pv.ownBlock ∧ Chg (fun k => k = pb ∨ pv.ownBlock = some k) w w' := by
  obtain ⟨hv, ho, ha⟩ := hp
  rcases ho.2 with ⟨_, h0⟩ | ⟨g, cp, cur, rfl, hg, hh, hnc, hcm, hcs, htk⟩
  · simp at h0
  have c0 : w.cell? ⟨pb, 0, none⟩ = some (.slice (some ⟨g, 0, none⟩) (ys ++ [Value.slice (some ⟨b, o, none⟩) 1 cap]).length cp) := hv.cell 0
  have f0 : w.frozen? ⟨pb, 0, none⟩ = false := hv.frozen 0
  have c1 : w.cell? ⟨g, ys.length, none⟩ = some (.slice (some ⟨b, o, none⟩) 1 cap) := by
    rw [ho.cellAt _ (by simp)]; simp
  simp only [List.length_append, List.length_cons, List.length_nil, Nat.zero_add] at c0 hnc
  have hgp : g ≠ pb := fun e => ha (by rw [e]; rfl)
  have hfin : IsPath (w.setCell ⟨pb, 0, none⟩ (.slice (some ⟨g, 0, none⟩) ys.length cp)) B pb (.slice (some ⟨g, 0, none⟩) ys.length cp) ys := by
    refine ⟨hv.set_ 0 _, ⟨by simp, .inr ⟨g, cp, cur, rfl, hg, (Below.heap_setCell _ _ _ _ hgp).trans hh, by omega, hcm, hcs, ?_⟩⟩, by simpa [Value.ownBlock] using hgp⟩
    have := congrArg (List.take (ys.length * 1)) htk
    rw [List.take_take] at this
    simpa [Nat.min_eq_left] using this
  have hchg : Chg (fun k => k = pb ∨ (Value.slice (some ⟨g, 0, none⟩) (ys ++ [Value.slice (some ⟨b, o, none⟩) 1 cap]).length cp).ownBlock = some k) w (w.setCell ⟨pb, 0, none⟩ (.slice (some ⟨g, 0, none⟩) ys.length cp)) :=
    (Chg.refl _ _).setCell (fun _ => .inl rfl) _
  clear hv ho ha htk
  go_enter Tryd.func37, Tryd.ntmps37
  go_wp2_with fail
  go_ret
  exact ⟨rfl, _, hfin, rfl, hchg⟩

set_option maxHeartbeats 400000 in
theorem next_more {w : World} {B pb : Nat} {pv : Value} {ys : List Value} {b o l cap : Nat} (hp : IsPath w B pb pv (ys ++ [.slice (some ⟨b, o, none⟩) (l + 2) cap])) (hn : ys.length ≤ 1073741824) (hl : l ≤ 1073741824) (hc : l + 2 ≤ cap) :
    Calls Tryd.prog 37 #[.pointer (some ⟨pb, 0, none⟩)] w fun e w' => e = .returned (.pointer (some ⟨b, o, none⟩)) ∧
      ∃ pv', IsPath w' B pb pv' (ys ++ [.slice (some ⟨b, o + 4, none⟩) (l + 1) (cap - 1)]) ∧ pv'.ownBlock = pv.ownBlock ∧ Chg (fun k => k = pb ∨ pv.ownBlock = some k) w w' := by
  obtain ⟨hv, ho, ha⟩ := hp
  rcases ho.2 with ⟨_, h0⟩ | ⟨g, cp, cur, rfl, hg, hh, hnc, hcm, hcs, htk⟩
  · simp at h0
  have c0 : w.cell? ⟨pb, 0, none⟩ = some (.slice (some ⟨g, 0, none⟩) (ys ++ [Value.slice (some ⟨b, o, none⟩) (l + 2) cap]).length cp) := hv.cell 0
  have c1 : w.cell? ⟨g, ys.length, none⟩ = some (.slice (some ⟨b, o, none⟩) (l + 2) cap) := by
    rw [ho.cellAt _ (by simp)]; simp
  have f1 : w.frozen? ⟨g, ys.length, none⟩ = false := ho.frozenAt _
  simp only [List.length_append, List.length_cons, List.length_nil, Nat.zero_add] at c0 hnc
  have hgp : g ≠ pb := fun e => ha (by rw [e]; rfl)
  have hst := (ho.stored ys.length (.slice (some ⟨b, o + 4, none⟩) (l + 1) (cap - 1))).1
  have hfin : IsPath (w.setCell ⟨g, ys.length, none⟩ (.slice (some ⟨b, o + 4, none⟩) (l + 1) (cap - 1))).drew B pb (.slice (some ⟨g, 0, none⟩) (ys.length + 1) cp) (ys ++ [.slice (some ⟨b, o + 4, none⟩) (l + 1) (cap - 1)]) := by
    refine ⟨?_, ?_, by simpa [Value.ownBlock] using hgp⟩
    · have := hv.far (p := ⟨g, ys.length, none⟩) (Ne.symm hgp) (.slice (some ⟨b, o + 4, none⟩) (l + 1) (cap - 1))
      simp only [List.length_append, List.length_cons, List.length_nil, Nat.zero_add] at this
      exact this
    · simp at hst
      have e : (ys ++ [Value.slice (some ⟨b, o + 4, none⟩) (l + 1) (cap - 1)]).length = ys.length + 1 := by simp
      rw [e]
      exact hst
  have hchg : Chg (fun k => k = pb ∨ (Value.slice (some ⟨g, 0, none⟩) (ys ++ [Value.slice (some ⟨b, o, none⟩) (l + 2) cap]).length cp).ownBlock = some k) w (w.setCell ⟨g, ys.length, none⟩ (.slice (some ⟨b, o + 4, none⟩) (l + 1) (cap - 1))).drew :=
    ((Chg.refl _ _).setCell (fun _ => .inr rfl) _).drew
  have hl1 : (((l + 2 : Nat) : Int) == 1) = false := by rw [beq_eq_false_iff_ne]; omega
  clear hv ho ha htk hst
  go_enter Tryd.func37, Tryd.ntmps37
  go_wp2_with fail
  go_region
  go_wp2_with fail
  go_ret
  exact ⟨rfl, _, hfin, rfl, hchg⟩

set_option maxHeartbeats 400000 in
theorem add_none {w : World} (v : Value) (A : Option Addr) (c : Nat) : Calls Tryd.prog 39 #[v, .slice A 0 c] w fun e w' => e = .returned (.tuple #[]) ∧ w = w' := by
  go_enter Tryd.func39, Tryd.ntmps39
  go_wp2_with fail
  go_end0
  exact ⟨rfl, rfl⟩

set_option maxHeartbeats 400000 in
theorem add_some {w : World} {B pb : Nat} {pv : Value} {xs : List Value} {A : Option Addr} {l c : Nat} (hp : IsPath w B pb pv xs) (hB : B ≤ w.heap.size) (hn : xs.length ≤ 1073741824) :
    Calls Tryd.prog 39 #[.pointer (some ⟨pb, 0, none⟩), .slice A (l + 1) c] w fun e w' => e = .returned (.tuple #[]) ∧
      ∃ pv', IsPath w' B pb pv' (xs ++ [.slice A (l + 1) c]) ∧ (pv'.ownBlock = pv.ownBlock ∨ ∃ g, pv'.ownBlock = some g ∧ w.heap.size ≤ g) ∧ Chg (fun k => k = pb ∨ pv.ownBlock = some k) w w' := by
  obtain ⟨hv, ho, ha⟩ := hp
  obtain ⟨i0, hi0, hz0, hz1, hz2⟩ := info_parts info_terms
  have c0 : w.cell? ⟨pb, 0, none⟩ = some pv := hv.cell 0
  have hW : Below w.heap.size w (w.alloc (.cells #[.slice A (l + 1) c] 22)) := (Below.refl _ _).alloc (Nat.le_refl _) _
  have ho' := own_below ho hW
  have hlt := hv.lt
  have HB := Lib.hid ha
  clear ha
  go_enter Tryd.func39, Tryd.ntmps39
  go_wp2_with (at_builtin; refine wpList_append_at _ rfl (.tmp 10) (.tmp 12) _ rfl B 22 i0 _ 1 24 Tryd.underlying60 hi0 hz0 hz1 hz2 rfl (by omega) pv xs.length xs rfl ho' ⟨w.heap.size, 0, none⟩ 1 1 [.slice A (l + 1) c] rfl rfl (cell_lit w [.slice A (l + 1) c] 22) (by simp [Value.oneCell']) (by simp only [maxLen]; omega) (by omega) (by simp; omega) ?next)
  case next =>
    intro v' w' hov hg hat
    have cp : Plot w' pb 60 #[pv] := (hv.alloc _).grown hg (fun e => HB.out e.symm)
    have c1 : w'.cell? ⟨pb, 0, none⟩ = some pv := cp.cell 0
    have f1 : w'.frozen? ⟨pb, 0, none⟩ = false := cp.frozen 0
    rcases hov.2 with ⟨_, h0⟩ | ⟨g, cap, cur, rfl, hgB, hh, hnc, hcm, hcs, htk⟩
    · omega
    have hne : g ≠ pb := by
      rcases hat with e | e
      · intro e2; subst e2; exact HB.out e.symm
      · simp [Value.ownBlock] at e; omega
    have hfin : IsPath (w'.setCell ⟨pb, 0, none⟩ (.slice (some ⟨g, 0, none⟩) (xs.length + 1) cap)) B pb (.slice (some ⟨g, 0, none⟩) (xs.length + 1) cap) (xs ++ [.slice A (l + 1) c]) := by
      refine ⟨cp.set_ 0 _, ?_, by simpa [Value.ownBlock] using hne⟩
      have := ownsRow_setCell_other hov (a := ⟨pb, 0, none⟩) (by simpa [Value.ownBlock] using hne) (.slice (some ⟨g, 0, none⟩) (xs.length + 1) cap)
      simpa using this
    have hat' : (Value.slice (some ⟨g, 0, none⟩) (xs.length + 1) cap).ownBlock = pv.ownBlock ∨ ∃ g', (Value.slice (some ⟨g, 0, none⟩) (xs.length + 1) cap).ownBlock = some g' ∧ w.heap.size ≤ g' := by
      rcases hat with e | e
      · exact .inl e
      · exact .inr ⟨_, e, by omega⟩
    have hchg : Chg (fun k => k = pb ∨ pv.ownBlock = some k) w (w'.setCell ⟨pb, 0, none⟩ (.slice (some ⟨g, 0, none⟩) (xs.length + 1) cap)) := by
      refine Chg.setCell ?_ (fun _ => .inl rfl) _
      exact ((Chg.refl _ w).alloc _).trans (Chg.of_grown hg) fun k _ e => .inr e
    have HX := Lib.hid hat'
    clear hat hat' htk hov
    go_wp2_with fail
    go_end0
    exact ⟨rfl, _, hfin, HX.out, hchg⟩

/-- The value v is a slice whose cells, four an element, are xs. -/
def Raw (w : World) (v : Value) (l : Nat) (xs : List Value) : Prop :=
  ∃ A c, v = .slice A l c ∧ l ≤ c ∧ xs.length = l * 4 ∧ (∀ u ∈ xs, u.oneCell' = true) ∧ (0 < l → ∃ b o, A = some ⟨b, o, none⟩ ∧ ∀ j u, xs[j]? = some u → w.cell? ⟨b, o + j, none⟩ = some u)
theorem Sl.raw {w : World} {p : Nat → Prop} {v : Value} {T : Ts} (h : Sl w p v T) : ∃ xs, Raw w v T.length xs ∧ Cs w p T xs := by
  obtain ⟨A, c, rfl, hc, hs⟩ := h
  rcases Nat.eq_zero_or_pos T.length with h | h
  · rw [Ts.nil_of_length h]
    exact ⟨[], ⟨A, c, rfl, Nat.zero_le _, rfl, fun u hu => (by cases hu), fun h => absurd h (Nat.lt_irrefl _)⟩, rfl⟩
  · obtain ⟨b, o, e, hseg⟩ := hs h
    obtain ⟨xs, h1, h2⟩ := hseg.cells
    exact ⟨xs, ⟨A, c, rfl, hc, h1.length, h1.one, fun _ => ⟨b, o, e, h2⟩⟩, h1⟩

/-- A list of terms that is still to be visited: from cell o of block b on. -/
structure Lev where
  b : Nat
  o : Nat
  T : Ts
def push (T : Ts) (b o : Nat) (L : List Lev) : List Lev := if T.length = 0 then L else ⟨b, o, T⟩ :: L
def nodesOf (L : List Lev) : Nat := (L.map fun l => l.T.nodes).sum
theorem nodesOf_push (T : Ts) (b o : Nat) (L : List Lev) : nodesOf (push T b o L) = T.nodes + nodesOf L := by
  unfold push
  split
  · rename_i h; rw [Ts.nil_of_length h]; simp [Ts.nodes]
  · simp [nodesOf]
/-- The path's slices, the newest last, are the levels, the newest first. -/
def PV : List Lev → List Value → Prop
  | [], xs => xs = []
  | l :: r, xs => ∃ ys cap, xs = ys ++ [.slice (some ⟨l.b, l.o, none⟩) l.T.length cap] ∧ l.T.length ≤ cap ∧ 0 < l.T.length ∧ PV r ys
theorem PV.length : ∀ {L : List Lev} {xs : List Value}, PV L xs → xs.length = L.length
  | [], xs, h => by rw [show xs = [] from h]; rfl
  | l :: r, xs, ⟨ys, cap, e, _, _, h⟩ => by rw [e]; simp [h.length]
theorem PV.le : ∀ {L : List Lev} {xs : List Value}, PV L xs → L.length ≤ nodesOf L
  | [], xs, h => by simp [nodesOf]
  | l :: r, xs, ⟨ys, cap, e, _, h0, h⟩ => by
    have := h.le
    have := l.T.length_le
    simp only [List.length_cons, nodesOf, List.map_cons, List.sum_cons] at *
    omega

theorem next_lev {w : World} {B pb : Nat} {pv : Value} {xs : List Value} {b o : Nat} {k n : Int} {s : ByteArray} {ar r : Ts} {L : List Lev} (hp : IsPath w B pb pv xs) (hv : PV (⟨b, o, .cons k n s ar r⟩ :: L) xs) (hn : nodesOf (⟨b, o, .cons k n s ar r⟩ :: L) ≤ 1073741824) :
    Calls Tryd.prog 37 #[.pointer (some ⟨pb, 0, none⟩)] w fun e w' => e = .returned (.pointer (some ⟨b, o, none⟩)) ∧
      ∃ pv' xs', IsPath w' B pb pv' xs' ∧ PV (push r b (o + 4) L) xs' ∧ pv'.ownBlock = pv.ownBlock ∧ Chg (fun k => k = pb ∨ pv.ownBlock = some k) w w' := by
  have hle := hv.le
  obtain ⟨ys, cap, rfl, hcap, _, hys⟩ := hv
  have hyl := hys.length
  have hrl := r.length_le
  simp only [List.length_cons, nodesOf, List.map_cons, List.sum_cons, Ts.nodes] at hle hn
  simp only [Ts.length] at hp hcap
  cases hr : r.length with
  | zero =>
    rw [hr] at hp
    refine (next_last hp (by omega)).mono ?_
    rintro e w' ⟨he, pv', h1, h2, h3⟩
    exact ⟨he, pv', ys, h1, by simpa [push, hr] using hys, h2, h3⟩
  | succ l =>
    rw [hr] at hp hcap
    refine (next_more hp (by omega) (by omega) hcap).mono ?_
    rintro e w' ⟨he, pv', h1, h2, h3⟩
    refine ⟨he, pv', _, h1, ?_, h2, h3⟩
    have e : push r b (o + 4) L = ⟨b, o + 4, r⟩ :: L := by simp [push, hr]
    rw [e]
    exact ⟨ys, cap - 1, by rw [hr], by show r.length ≤ _; omega, by show 0 < r.length; omega, hys⟩

theorem add_lev {w : World} {B pb : Nat} {pv : Value} {xs : List Value} {A : Option Addr} {c : Nat} {T : Ts} {b o : Nat} {L : List Lev} (hp : IsPath w B pb pv xs) (hv : PV L xs) (hB : B ≤ w.heap.size) (hn : nodesOf L ≤ 1073741824) (hc : T.length ≤ c) (hA : 0 < T.length → A = some ⟨b, o, none⟩) :
    Calls Tryd.prog 39 #[.pointer (some ⟨pb, 0, none⟩), .slice A T.length c] w fun e w' => e = .returned (.tuple #[]) ∧
      ∃ pv' xs', IsPath w' B pb pv' xs' ∧ PV (push T b o L) xs' ∧ (pv'.ownBlock = pv.ownBlock ∨ ∃ g, pv'.ownBlock = some g ∧ w.heap.size ≤ g) ∧ Chg (fun k => k = pb ∨ pv.ownBlock = some k) w w' := by
  have hle := hv.le
  have hyl := hv.length
  cases hl : T.length with
  | zero =>
    refine (add_none _ _ _).mono ?_
    rintro e w' ⟨he, rfl⟩
    exact ⟨he, pv, xs, hp, by simpa [push, hl] using hv, .inl rfl, Chg.refl _ _⟩
  | succ l =>
    refine (add_some hp hB (by omega)).mono ?_
    rintro e w' ⟨he, pv', h1, h2, h3⟩
    refine ⟨he, pv', _, h1, ?_, h2, h3⟩
    have e : push T b o L = ⟨b, o, T⟩ :: L := by simp [push, hl]
    rw [e]
    refine ⟨xs, c, ?_, hc, by show 0 < T.length; omega, hv⟩
    rw [hA (by omega), hl]
end Go.Proofs.YtdflngjfnpbpmabDoor
namespace Go.Proofs.YtdflngjfnpbpmabDoor
open Go.RowKit

/-- Is a term good, whatever its arguments are? -/
def nodeB (vars k n : Int) (s : ByteArray) (l : Nat) : Bool :=
  if k = 0 then decide (0 ≤ n) && decide (n < vars) && decide (s.toList = []) && decide (l = 0)
  else if k = 1 then decide (n = 0) && nameB s && decide (l = 0)
  else if k = 2 then decide (-1099511627776 ≤ n) && decide (n ≤ 1099511627776) && decide (s.toList = []) && decide (l = 0)
  else if k = 3 then decide (n = 0) && nameB s && decide (¬ s.toList = [33]) && decide (1 ≤ l) && decide (l ≤ 4)
  else false

theorem ret_bool {a b : Bool} (h : a = b) : Ending.returned (.bool a) = .returned (.bool b) := by rw [h]

set_option maxHeartbeats 1000000 in
theorem goodNode_any (vars k n : Int) (s : ByteArray) (A : Option Addr) (l c : Nat) (w : World) :
    Calls Tryd.prog 38 #[.agg #[.int .i64 k, .int .i64 n, .string s, .slice A l c], .int .i64 vars] w fun e w' => e = .returned (.bool (nodeB vars k n s l)) ∧ Below w.heap.size w w' := by
  by_cases h0 : k = 0
  · subst h0
    have R := Lib.hid (show nodeB vars 0 n s l = (decide (0 ≤ n) && decide (n < vars) && decide (s.toList = []) && decide (l = 0)) by simp [nodeB])
    go_enter Tryd.func38, Tryd.ntmps38
    go_wp2_with fail
    all_goals go_ret
    all_goals refine ⟨?_, (Below.refl _ _).alloc (Nat.le_refl _) _⟩
    all_goals rw [R.out]
    all_goals refine ret_bool ?_
    all_goals rw [Bool.eq_iff_iff]
    all_goals simp [*]
    all_goals try omega
  have g0 : (k == 0) = false := by simpa using h0
  by_cases h1 : k = 1
  · subst h1
    have R := Lib.hid (show nodeB vars 1 n s l = (decide (n = 0) && nameB s && decide (l = 0)) by simp [nodeB])
    clear h0 g0
    cases hb : nameB s
    all_goals
      have HB := Lib.hid hb
      clear hb
      go_enter Tryd.func38, Tryd.ntmps38
      go_wp2_with (go_at_call 41; refine (named_any _ _).mono ?_; rintro e w' ⟨rfl, rfl⟩; rw [HB.out])
      all_goals go_ret
      all_goals refine ⟨?_, (Below.refl _ _).alloc (Nat.le_refl _) _⟩
      all_goals rw [R.out, HB.out]
      all_goals refine ret_bool ?_
      all_goals rw [Bool.eq_iff_iff]
      all_goals simp [*]
      all_goals try omega
  have g1 : (k == 1) = false := by simpa using h1
  by_cases h2 : k = 2
  · subst h2
    have R := Lib.hid (show nodeB vars 2 n s l = (decide (-1099511627776 ≤ n) && decide (n ≤ 1099511627776) && decide (s.toList = []) && decide (l = 0)) by simp [nodeB])
    clear h0 g0 h1 g1
    go_enter Tryd.func38, Tryd.ntmps38
    go_wp2_with fail
    all_goals go_ret
    all_goals refine ⟨?_, (Below.refl _ _).alloc (Nat.le_refl _) _⟩
    all_goals rw [R.out]
    all_goals refine ret_bool ?_
    all_goals rw [Bool.eq_iff_iff]
    all_goals simp [*]
    all_goals try omega
  have g2 : (k == 2) = false := by simpa using h2
  by_cases h3 : k = 3
  · subst h3
    clear h0 g0 h1 g1 h2 g2
    by_cases hn : n = 0
    · subst hn
      have R := Lib.hid (show nodeB vars 3 0 s l = (nameB s && decide (¬ s.toList = [33]) && decide (1 ≤ l) && decide (l ≤ 4)) by simp [nodeB])
      cases hb : nameB s
      all_goals
        have HB := Lib.hid hb
        clear hb
        go_enter Tryd.func38, Tryd.ntmps38
        go_wp2_with (go_at_call 41; refine (named_any _ _).mono ?_; rintro e w' ⟨rfl, rfl⟩; rw [HB.out])
        all_goals go_ret
        all_goals refine ⟨?_, (Below.refl _ _).alloc (Nat.le_refl _) _⟩
        all_goals rw [R.out, HB.out]
        all_goals refine ret_bool ?_
        all_goals rw [Bool.eq_iff_iff]
        all_goals simp [*]
        all_goals try omega
    · have hn' : (n == 0) = false := by simpa using hn
      have R := Lib.hid (show nodeB vars 3 n s l = false by simp [nodeB, hn])
      clear hn
      go_enter Tryd.func38, Tryd.ntmps38
      go_wp2_with fail
      go_ret
      exact ⟨by rw [R.out]; rfl, (Below.refl _ _).alloc (Nat.le_refl _) _⟩
  have g3 : (k == 3) = false := by simpa using h3
  have R := Lib.hid (show nodeB vars k n s l = false by simp [nodeB, h0, h1, h2, h3])
  clear h0 h1 h2 h3
  go_enter Tryd.func38, Tryd.ntmps38
  go_wp2_with fail
  go_ret
  exact ⟨by rw [R.out]; rfl, (Below.refl _ _).alloc (Nat.le_refl _) _⟩
end Go.Proofs.YtdflngjfnpbpmabDoor
