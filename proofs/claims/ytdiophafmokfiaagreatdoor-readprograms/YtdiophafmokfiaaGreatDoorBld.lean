/-
  The methods of a strings.Builder that lies at the head of a printer, walked.
-/
import Derived.Test.YtdiophafmokfiaaGreatDoorAppend
import Derived.Test.YtdiophafmokfiaaGreatDoorProg
import Derived.Lib.Builder
import Derived.Lib.UnsafeStr
import Derived.Laws.Externs
namespace Go.Proofs.YtdiophafmokfiaaGreatDoor
open Go.RowKit
set_option linter.unusedVariables false
set_option maxRecDepth 100000
set_option maxHeartbeats 1000000

section
variable {P : Program} {n : Nat} {e : Env} {w : World} {ty : TypeId} {pos : String} {after : Array Edge} {x y : Operand} {dst : Option Nat} {t t2 el : TypeId} {a : Addr}
theorem run_neq_ptr_self {j : TypeInfo} (hx : ev n e x = .pointer (some a)) (hy : ev n e y = .pointer (some a)) (hT : isPtrP P t = some el) (hi : P.info? el = some j) :
    (execOp (ev n e) ⟨dst, .binOp .neq t x y t2, ty, pos, after, none⟩).run P w = .ok (.value (.bool false)) w := by
  have h1 := Lib.run_neq_ptr_same (P := P) w a (ptrP hT) hi
  have h2 : (execOp (ev n e) ⟨dst, .binOp .neq t x y t2, ty, pos, after, none⟩) = (binOp .neq t (.pointer (some a)) (.pointer (some a))).bind fun r => .pure (.value r) := by
    simp only [execOp, hx, hy, eqGuard]
    simp only [bind, pure, Bool.not_true, Bool.false_eq_true, if_false, Sem.bind]
  rw [h2, Sem.run_bind', h1]
  rfl
theorem run_convert_by {u v : Value} {src dt : TypeId} (hx : ev n e x = u) (h : (convert src dt u).run P w = .ok v w) : (execOp (ev n e) ⟨dst, .convert src dt x, ty, pos, after, none⟩).run P w = .ok (.value v) w := by
  subst hx
  show (Sem.bind (convert _ _ _) _).run _ _ = _
  rw [Sem.run_bind', h]
  rfl
theorem run_sliceData {u v : Value} {ts : Array TypeId} (hx : ev n e x = u) (h : (Builtin.unsafeSliceData_ ts ty #[u]).run P w = .ok v w) : (execOp (ev n e) ⟨dst, .call ⟨.builtin .unsafeSliceData, #[x], ts⟩, ty, pos, after, none⟩).run P w = .ok (.value v) w := by
  simp only [execOp, resolve, List.map_toArray, List.map_cons, List.map_nil, hx, bind, pure, Sem.bind, invoke, builtin]
  rw [Sem.run_bind', h]
  rfl
theorem run_unsafeStr {u v r : Value} {ts : Array TypeId} {w' : World} (hx : ev n e x = u) (hy : ev n e y = v) (h : (Builtin.unsafeString_ ts ty #[u, v]).run P w = .ok r w') : (execOp (ev n e) ⟨dst, .call ⟨.builtin .unsafeString, #[x, y], ts⟩, ty, pos, after, none⟩).run P w = .ok (.value r) w' := by
  simp only [execOp, resolve, List.map_toArray, List.map_cons, List.map_nil, hx, hy, bind, pure, Sem.bind, invoke, builtin]
  rw [Sem.run_bind', h]
  rfl
theorem run_extern1 {g : FuncId} {fn : Func} {ex : Array Value → Sem Value} {u v : Value} {ar : Array Operand} {ts : Array TypeId} (ha : ar.map (ev n e) = #[u]) (hf : P.funcs[g]? = some fn) (hname : (fn.name == "runtime.NumGoroutine") = false) (hb : fn.body.isNone = true) (hn : Extern.findNext fn = none) (he : Extern.find fn = some ex)
    (h : (ex #[u]).run P w = .ok v w) : (execOp (ev n e) ⟨dst, .call ⟨.value (.func g), ar, ts⟩, ty, pos, after, none⟩).run P w = .ok (.value v) w := by
  have h1 := run_callFunc_extern hf hname hb hn he #[u] w
  rw [h] at h1
  rw [← ha] at h1
  simpa [execOp, resolve, ev, Deferred.ofValue, invoke, bind, Sem.bind, pure, Sem.run] using h1
end
abbrev pptr (b : Nat) : Value := .pointer (some ⟨b, 0, none⟩)
/-- The printer's block: the Builder's two cells, and the list of what is open. -/
abbrev prn (p B V : Value) : Obj := .cells [p, B, V].toArray 65
def Fresh (b : Nat) (p : Value) : Prop := p = .pointer none ∨ p = pptr b
section
variable {M : List Nat} {w0 : World} {H : List (Nat × Obj)} {F : List (World → Prop)} {b : Nat}
theorem shape_own {w : World} {cs : List Value} {ct : TypeId} (h : w.heap[b]? = some (.cells cs.toArray ct)) : w.shape? b = some (ct, cs.length) := by simp [World.shape?, h]
theorem copyCheck_any (p : Value) (A A2 : Option Addr) (l c l2 c2 : Nat) (w : World) (hp : Fresh b p) (hS : St M w0 ((b, prn p (.slice A l c) (.slice A2 l2 c2)) :: H) F w) :
    Calls Tryz.prog 65 #[pptr b] w fun e w' => e = .returned (.tuple #[]) ∧ St M w0 ((b, prn (pptr b) (.slice A l c) (.slice A2 l2 c2)) :: H) F w' := by
  have hsh := shape_own (hS.at_ .head)
  rcases hp with rfl | rfl
  · refine goes_enter1 Tryz.func65 rfl Tryz.ntmps65 rfl ?_
    refine goes_seq ?_
    refine goes_region ?_
    refine lst_run (run_move (by conv => lhs; whnf)) rfl ?_
    refine lst_run (run_nilCheck rfl) rfl ?_
    refine lst_run (run_fieldAddr (off := 0) rfl rfl) rfl ?_
    first
      | refine lst_run (run_load1_own hS rfl rfl (by first | exact .head | exact .tail .head | exact .tail (.tail .head) | exact .tail (.tail (.tail .head)) | exact .tail (.tail (.tail (.tail .head))) | exact .tail (.tail (.tail (.tail (.tail .head))))) (by repeat constructor)) rfl ?_
      | refine lst_run (run_load1 rfl rfl (by first | assumption | exact hS.cell0 (by assumption) | exact lv_next hS | exact lv_list hS)) rfl ?_
    first
      | refine lst_run (run_eql_ptr_yes rfl rfl rfl) rfl ?_
      | refine lst_run (run_eql_ptr_no rfl rfl rfl) rfl ?_
    refine lst_done ?_
    refine goes_true rfl ?_
    refine goes_region ?_
    refine lst_run (run_move (by conv => lhs; whnf)) rfl ?_
    refine lst_run (run_move (by conv => lhs; whnf)) rfl ?_
    refine lst_run (run_convert_by rfl (Lib.run_to_unsafe (P := Tryz.prog) w (t := 62) ⟨b, 0, none⟩ rfl rfl rfl (by decide) hsh (by simp))) rfl ?_
    refine lst_run (run_extern1 (ex := Extern.AbiNoEscape.same) (args_1 rfl) Tryz.func85 (by kernel_rfl) (by kernel_rfl) (by kernel_rfl) (by kernel_rfl) (Lib.run_noEscape w _)) rfl ?_
    refine lst_run (run_convert_by rfl (Lib.run_from_unsafe (P := Tryz.prog) w (u := 62) ⟨b, 0, none⟩ rfl rfl rfl hsh (by kernel_rfl))) rfl ?_
    refine lst_run (run_nilCheck rfl) rfl ?_
    refine lst_run (run_fieldAddr (off := 0) rfl rfl) rfl ?_
    refine lst_store1 hS rfl (by conv => lhs; whnf) rfl rfl (by first | exact .head | exact .tail .head | exact .tail (.tail .head) | exact .tail (.tail (.tail .head)) | exact .tail (.tail (.tail (.tail .head))) | exact .tail (.tail (.tail (.tail (.tail .head))))) (by repeat constructor) (by first | exact .head | exact .tail .head | exact .tail (.tail .head) | exact .tail (.tail (.tail .head)) | exact .tail (.tail (.tail (.tail .head))) | exact .tail (.tail (.tail (.tail (.tail .head))))) ?_
    clear hS
    intro wx1 hS
    refine lst_done ?_
    refine goes_end0 Tryz.func65 rfl ?_
    exact ⟨rfl, hS⟩
  · refine goes_enter1 Tryz.func65 rfl Tryz.ntmps65 rfl ?_
    refine goes_seq ?_
    refine goes_region ?_
    refine lst_run (run_move (by conv => lhs; whnf)) rfl ?_
    refine lst_run (run_nilCheck rfl) rfl ?_
    refine lst_run (run_fieldAddr (off := 0) rfl rfl) rfl ?_
    first
      | refine lst_run (run_load1_own hS rfl rfl (by first | exact .head | exact .tail .head | exact .tail (.tail .head) | exact .tail (.tail (.tail .head)) | exact .tail (.tail (.tail (.tail .head))) | exact .tail (.tail (.tail (.tail (.tail .head))))) (by repeat constructor)) rfl ?_
      | refine lst_run (run_load1 rfl rfl (by first | assumption | exact hS.cell0 (by assumption) | exact lv_next hS | exact lv_list hS)) rfl ?_
    first
      | refine lst_run (run_eql_ptr_yes rfl rfl rfl) rfl ?_
      | refine lst_run (run_eql_ptr_no rfl rfl rfl) rfl ?_
    refine lst_done ?_
    refine goes_false rfl ?_
    refine goes_seq ?_
    refine goes_region ?_
    refine lst_run (run_move (by conv => lhs; whnf)) rfl ?_
    refine lst_run (run_nilCheck rfl) rfl ?_
    refine lst_run (run_fieldAddr (off := 0) rfl rfl) rfl ?_
    first
      | refine lst_run (run_load1_own hS rfl rfl (by first | exact .head | exact .tail .head | exact .tail (.tail .head) | exact .tail (.tail (.tail .head)) | exact .tail (.tail (.tail (.tail .head))) | exact .tail (.tail (.tail (.tail (.tail .head))))) (by repeat constructor)) rfl ?_
      | refine lst_run (run_load1 rfl rfl (by first | assumption | exact hS.cell0 (by assumption) | exact lv_next hS | exact lv_list hS)) rfl ?_
    refine lst_run (run_move (by conv => lhs; whnf)) rfl ?_
    refine lst_run (run_neq_ptr_self rfl rfl rfl rfl) rfl ?_
    refine lst_done ?_
    refine goes_false rfl ?_
    refine goes_skip ?_
    refine goes_end0 Tryz.func65 rfl ?_
    exact ⟨rfl, hS⟩
/-- The Builder holds the bytes l. -/
abbrev Buf (l : Str) (B : Value) (O : List (Nat × Obj)) : Prop := Row 5 1 B l.length (bytesV l) O
theorem writeString_any (p B V : Value) (l x : Str) (O : List (Nat × Obj)) (A2 : Option Addr) (l2 c2 : Nat) (hV : V = .slice A2 l2 c2) (w : World) (hp : Fresh b p) (hB : Buf l B O) (hl : l.length + x.length ≤ 1099511627776) (hS : St M w0 ((b, prn p B V) :: (O ++ H)) F w) :
    Calls Tryz.prog 45 #[pptr b, sv x] w fun e w' => ∃ B' O', e = .returned (.tuple #[.int .i64 (x.length : Nat), .nilIface]) ∧ Buf (l ++ x) B' O' ∧ St M w0 ((b, prn (pptr b) B' V) :: (O' ++ H)) F w' := by
  subst hV
  obtain ⟨A, c, rfl⟩ := hB.form
  refine goes_enter2 Tryz.func45 rfl Tryz.ntmps45 rfl ?_
  refine goes_seq ?_
  refine goes_region ?_
  refine lst_run (run_assign (by conv => lhs; whnf)) rfl ?_
  refine lst_run (run_assign (by conv => lhs; whnf)) rfl ?_
  refine lst_done ?_
  refine goes_seq ?_
  refine goes_region ?_
  refine lst_run (run_move (by conv => lhs; whnf)) rfl ?_
  refine lst_enter (run_call (by kernel_rfl) (args_1 (by conv => lhs; whnf))) rfl ?_
  refine Calls.mono (copyCheck_any p A A2 _ c l2 c2 _ hp hS) ?_
  rintro _ w1 ⟨rfl, hS'⟩
  refine ⟨_, rfl, ?_⟩
  replace hS := hS'
  clear hS'
  refine lst_done ?_
  refine goes_seq ?_
  refine goes_region ?_
  refine lst_run (run_move (by conv => lhs; whnf)) rfl ?_
  refine lst_run (run_move (by conv => lhs; whnf)) rfl ?_
  refine lst_run (run_nilCheck rfl) rfl ?_
  refine lst_run (run_fieldAddr (off := 1) rfl rfl) rfl ?_
  first
    | refine lst_run (run_load1_own hS rfl rfl (by first | exact .head | exact .tail .head | exact .tail (.tail .head) | exact .tail (.tail (.tail .head)) | exact .tail (.tail (.tail (.tail .head))) | exact .tail (.tail (.tail (.tail (.tail .head))))) (by repeat constructor)) rfl ?_
    | refine lst_run (run_load1 rfl rfl (by first | assumption | exact hS.cell0 (by assumption) | exact lv_next hS | exact lv_list hS)) rfl ?_
  refine lst_run (run_move (by conv => lhs; whnf)) rfl ?_
  refine lst_appStr hS (by conv => lhs; whnf) rfl rfl rfl rfl hB List.perm_middle.symm (by omega) rfl ?_
  clear hS
  intro B' O' w2 hB' hS
  replace hS := hS.raise
  obtain ⟨A', c', rfl⟩ := hB'.form
  refine lst_run (run_nilCheck rfl) rfl ?_
  refine lst_run (run_fieldAddr (off := 1) rfl rfl) rfl ?_
  refine lst_store1 hS rfl (by conv => lhs; whnf) rfl rfl (by first | exact .head | exact .tail .head | exact .tail (.tail .head) | exact .tail (.tail (.tail .head)) | exact .tail (.tail (.tail (.tail .head))) | exact .tail (.tail (.tail (.tail (.tail .head))))) (by repeat constructor) (by first | exact .head | exact .tail .head | exact .tail (.tail .head) | exact .tail (.tail (.tail .head)) | exact .tail (.tail (.tail (.tail .head))) | exact .tail (.tail (.tail (.tail (.tail .head))))) ?_
  clear hS
  intro wx1 hS
  refine lst_done ?_
  refine goes_seq ?_
  refine goes_region ?_
  refine lst_run (run_move (by conv => lhs; whnf)) rfl ?_
  refine lst_run (run_len_str rfl rfl rfl) rfl ?_
  refine lst_run (run_assign (by conv => lhs; whnf)) rfl ?_
  refine lst_run (run_assign (by conv => lhs; whnf)) rfl ?_
  refine lst_done ?_
  refine goes_ret2 Tryz.func45 rfl (by conv => lhs; whnf) (by conv => lhs; whnf) ?_
  refine ⟨_, O', rfl, ?_, hS⟩
  show Row _ _ _ (l ++ x).length (bytesV (l ++ x)) _
  rw [List.length_append, show bytesV (l ++ x) = bytesV l ++ bytesV x by simp [bytesV]]; exact hB'
theorem writeByte_any (p B V : Value) (l : Str) (c : UInt8) (O : List (Nat × Obj)) (A2 : Option Addr) (l2 c2 : Nat) (hV : V = .slice A2 l2 c2) (w : World) (hp : Fresh b p) (hB : Buf l B O) (hl : l.length + 1 ≤ 1099511627776) (hS : St M w0 ((b, prn p B V) :: (O ++ H)) F w) :
    Calls Tryz.prog 48 #[pptr b, .int .u8 c.toNat] w fun e w' => ∃ B' O', e = .returned .nilIface ∧ Buf (l ++ [c]) B' O' ∧ St M w0 ((b, prn (pptr b) B' V) :: (O' ++ H)) F w' := by
  subst hV
  obtain ⟨A, cc, rfl⟩ := hB.form
  refine goes_enter2 Tryz.func48 rfl Tryz.ntmps48 rfl ?_
  refine goes_seq ?_
  refine goes_region ?_
  refine lst_run (run_assign (by conv => lhs; whnf)) rfl ?_
  refine lst_done ?_
  refine goes_seq ?_
  refine goes_region ?_
  refine lst_run (run_move (by conv => lhs; whnf)) rfl ?_
  refine lst_enter (run_call (by kernel_rfl) (args_1 (by conv => lhs; whnf))) rfl ?_
  refine Calls.mono (copyCheck_any p A A2 _ cc l2 c2 _ hp hS) ?_
  rintro _ w1 ⟨rfl, hS'⟩
  refine ⟨_, rfl, ?_⟩
  replace hS := hS'
  clear hS'
  refine lst_done ?_
  refine goes_seq ?_
  refine goes_region ?_
  refine lst_run (run_move (by conv => lhs; whnf)) rfl ?_
  refine lst_run (run_move (by conv => lhs; whnf)) rfl ?_
  refine lst_run (run_nilCheck rfl) rfl ?_
  refine lst_run (run_fieldAddr (off := 1) rfl rfl) rfl ?_
  first
    | refine lst_run (run_load1_own hS rfl rfl (by first | exact .head | exact .tail .head | exact .tail (.tail .head) | exact .tail (.tail (.tail .head)) | exact .tail (.tail (.tail (.tail .head))) | exact .tail (.tail (.tail (.tail (.tail .head))))) (by repeat constructor)) rfl ?_
    | refine lst_run (run_load1 rfl rfl (by first | assumption | exact hS.cell0 (by assumption) | exact lv_next hS | exact lv_list hS)) rfl ?_
  refine lst_run (run_move (by conv => lhs; whnf)) rfl ?_
  refine lst_buildSlice (cells := [_]) hS (.cons (by conv => lhs; whnf) .nil) rfl rfl ?_
  clear hS
  intro b1 wx1 hS
  refine lst_app (sz := 1) (bts := 1) hS (by conv => lhs; whnf) rfl rfl rfl rfl (hB) rfl rfl (.cons _ List.perm_middle.symm) (by omega) (by omega) rfl ?_
  clear hS
  intro B' O' w2 hB' hS
  replace hS := hS.raise
  obtain ⟨A', c', rfl⟩ := hB'.form
  refine lst_run (run_nilCheck rfl) rfl ?_
  refine lst_run (run_fieldAddr (off := 1) rfl rfl) rfl ?_
  refine lst_store1 hS rfl (by conv => lhs; whnf) rfl rfl (by first | exact .head | exact .tail .head | exact .tail (.tail .head) | exact .tail (.tail (.tail .head)) | exact .tail (.tail (.tail (.tail .head))) | exact .tail (.tail (.tail (.tail (.tail .head))))) (by repeat constructor) (by first | exact .head | exact .tail .head | exact .tail (.tail .head) | exact .tail (.tail (.tail .head)) | exact .tail (.tail (.tail (.tail .head))) | exact .tail (.tail (.tail (.tail (.tail .head))))) ?_
  clear hS
  intro wx2 hS
  refine lst_done ?_
  refine goes_seq ?_
  refine goes_region ?_
  refine lst_run (run_assign (by conv => lhs; whnf)) rfl ?_
  refine lst_done ?_
  refine goes_ret1 Tryz.func48 rfl (by conv => lhs; whnf) ?_
  refine ⟨_, O', rfl, ?_, hS⟩
  show Row _ _ _ (l ++ [c]).length (bytesV (l ++ [c])) _
  rw [List.length_append, show bytesV (l ++ [c]) = bytesV l ++ bytesV [c] by simp [bytesV]]; exact hB'
theorem St.dropMid' {w : World} {p q : Nat × Obj} (h : St M w0 (p :: ([q] ++ H)) F w) : St M w0 (p :: H) F w := h.swap.drop
/-- A block that has turned is held no more. -/
theorem St.lose {g : Nat} {o : Obj} {w w' : World} (h : St M w0 ((g, o) :: H) F w) (hx : Ext [g] w w') : St M w0 H F w' := by
  have hx' : Ext (((g, o) :: H).map (·.1)) w w' := hx.mono fun k _ hk => by simp at hk ⊢; exact .inl hk
  refine ⟨fun q hq => ?_, (List.pairwise_cons.1 h.apart).2, h.over hx', fun q hq => h.new q (List.mem_cons_of_mem _ hq), fun φ hφ w2 hw => h.facts φ hφ w2 (hx'.trans (hw.mono fun k _ hk => by simp at hk ⊢; exact .inr hk))⟩
  have hq' := h.own q (List.mem_cons_of_mem _ hq)
  rw [hx.block q.1 (own_lt hq') (by simpa using Ne.symm ((List.pairwise_cons.1 h.apart).1 q hq))]
  exact hq'
theorem freeze_ext (w : World) (g n : Nat) : Ext [g] w (w.freeze ⟨g, 0, none⟩ n) := by
  unfold World.freeze
  split
  · exact Ext.refl _ _
  · exact ⟨rfl, rfl, rfl, by simp, fun k _ hk => by
      have : k ≠ g := by simpa using hk
      simp [Array.getElem?_modify, Ne.symm this]⟩
theorem string_any (p B V : Value) (l : Str) (O : List (Nat × Obj)) (A2 : Option Addr) (l2 c2 : Nat) (hV : V = .slice A2 l2 c2) (w : World) (hB : Buf l B O) (hl : l.length ≤ 1099511627776) (hS : St M w0 ((b, prn p B V) :: (O ++ H)) F w) :
    Calls Tryz.prog 30 #[pptr b] w fun e w' => e = .returned (sv l) ∧ St M w0 H F w' := by
  subst hV
  have hF := hS
  have hB2 : Row 5 1 B l.length (bytesV l) O := hB
  clear hB
  generalize hll : l.length = ll at hB2
  generalize hbl : bytesV l = bl at hB2
  cases hB2 with
  | nil_ =>
    obtain rfl : l = [] := List.eq_nil_of_length_eq_zero hll
    clear hF
    refine goes_enter1 Tryz.func30 rfl Tryz.ntmps30 rfl ?_
    refine goes_seq ?_
    refine goes_region ?_
    refine lst_run (run_assign (by conv => lhs; whnf)) rfl ?_
    refine lst_done ?_
    refine goes_seq ?_
    refine goes_draw (St M w0 _ _) 12 ((0, true) :: (1, true) :: (2, true) :: (3, true) :: (5, true) :: (6, true) :: (7, true) :: (8, true) :: (9, true) :: (4, false) :: (10, false) :: (11, true) :: []) (by kernel_rfl) (by kernel_rfl) hS.drew ?_
    replace hS := hS.drew
    refine ord_read rfl (fun _ hS => run_move (by conv => lhs; whnf)) rfl ?_
    refine ord_read rfl (fun _ hS => run_nilCheck rfl) rfl ?_
    refine ord_read rfl (fun _ hS => run_fieldAddr (off := 1) rfl rfl) rfl ?_
    first
      | refine ord_read rfl (fun _ hS => run_load1_own hS rfl rfl (by first | exact .head | exact .tail .head | exact .tail (.tail .head) | exact .tail (.tail (.tail .head)) | exact .tail (.tail (.tail (.tail .head))) | exact .tail (.tail (.tail (.tail (.tail .head))))) (by repeat constructor)) rfl ?_
      | refine ord_read rfl (fun _ hS => run_load1 rfl rfl (by first | assumption | exact hS.cell0 (by assumption) | exact lv_next hS | exact lv_list hS)) rfl ?_
    refine ord_read rfl (fun _ hS => run_move (by conv => lhs; whnf)) rfl ?_
    refine ord_read rfl (fun _ hS => run_nilCheck rfl) rfl ?_
    refine ord_read rfl (fun _ hS => run_fieldAddr (off := 1) rfl rfl) rfl ?_
    first
      | refine ord_read rfl (fun _ hS => run_load1_own hS rfl rfl (by first | exact .head | exact .tail .head | exact .tail (.tail .head) | exact .tail (.tail (.tail .head)) | exact .tail (.tail (.tail (.tail .head))) | exact .tail (.tail (.tail (.tail (.tail .head))))) (by repeat constructor)) rfl ?_
      | refine ord_read rfl (fun _ hS => run_load1 rfl rfl (by first | assumption | exact hS.cell0 (by assumption) | exact lv_next hS | exact lv_list hS)) rfl ?_
    refine ord_read rfl (fun _ hS => run_len_slice rfl rfl rfl) rfl ?_
    refine ord_act rfl ?_
    refine lst_run (run_sliceData rfl rfl) rfl ?_
    refine lst_ord hS ?_
    refine ord_act rfl ?_
    refine lst_run (run_unsafeStr rfl rfl (Lib.run_unsafeString_none _ _ _ _ _)) rfl ?_
    refine lst_ord hS ?_
    refine ord_read rfl (fun _ hS => run_assign (by conv => lhs; whnf)) rfl ?_
    refine ord_end ?_
    refine lst_done ?_
    refine goes_ret1 Tryz.func30 rfl (by conv => lhs; whnf) ?_
    exact ⟨rfl, hS.drop⟩
  | own_ h1 h2 h3 h4 =>
    rename_i g cap sp
    have hg : w.heap[g]? = some (.cells (bl ++ sp).toArray 5) := hF.own (g, _) (by simp)
    replace hS := St.dropMid' hS
    refine goes_enter1 Tryz.func30 rfl Tryz.ntmps30 rfl ?_
    refine goes_seq ?_
    refine goes_region ?_
    refine lst_run (run_assign (by conv => lhs; whnf)) rfl ?_
    refine lst_done ?_
    refine goes_seq ?_
    refine goes_draw (St M w0 _ _) 12 ((0, true) :: (1, true) :: (2, true) :: (3, true) :: (5, true) :: (6, true) :: (7, true) :: (8, true) :: (9, true) :: (4, false) :: (10, false) :: (11, true) :: []) (by kernel_rfl) (by kernel_rfl) hS.drew ?_
    replace hS := hS.drew
    refine ord_read rfl (fun _ hS => run_move (by conv => lhs; whnf)) rfl ?_
    refine ord_read rfl (fun _ hS => run_nilCheck rfl) rfl ?_
    refine ord_read rfl (fun _ hS => run_fieldAddr (off := 1) rfl rfl) rfl ?_
    first
      | refine ord_read rfl (fun _ hS => run_load1_own hS rfl rfl (by first | exact .head | exact .tail .head | exact .tail (.tail .head) | exact .tail (.tail (.tail .head)) | exact .tail (.tail (.tail (.tail .head))) | exact .tail (.tail (.tail (.tail (.tail .head))))) (by repeat constructor)) rfl ?_
      | refine ord_read rfl (fun _ hS => run_load1 rfl rfl (by first | assumption | exact hS.cell0 (by assumption) | exact lv_next hS | exact lv_list hS)) rfl ?_
    refine ord_read rfl (fun _ hS => run_move (by conv => lhs; whnf)) rfl ?_
    refine ord_read rfl (fun _ hS => run_nilCheck rfl) rfl ?_
    refine ord_read rfl (fun _ hS => run_fieldAddr (off := 1) rfl rfl) rfl ?_
    first
      | refine ord_read rfl (fun _ hS => run_load1_own hS rfl rfl (by first | exact .head | exact .tail .head | exact .tail (.tail .head) | exact .tail (.tail (.tail .head)) | exact .tail (.tail (.tail (.tail .head))) | exact .tail (.tail (.tail (.tail (.tail .head))))) (by repeat constructor)) rfl ?_
      | refine ord_read rfl (fun _ hS => run_load1 rfl rfl (by first | assumption | exact hS.cell0 (by assumption) | exact lv_next hS | exact lv_list hS)) rfl ?_
    refine ord_read rfl (fun _ hS => run_len_slice rfl rfl rfl) rfl ?_
    refine ord_act rfl ?_
    refine lst_run (run_sliceData rfl (Lib.run_unsafeSliceData_row _ _ _ _ _ _ (by omega))) rfl ?_
    refine lst_ord hS ?_
    refine ord_act rfl ?_
    by_cases hl0 : l = []
    · subst hl0
      obtain rfl : 0 = ll := hll
      refine lst_run (run_unsafeStr rfl rfl (Lib.run_unsafeString_none _ _ _ _ _)) rfl ?_
      refine lst_ord hS ?_
      refine ord_read rfl (fun _ hS => run_assign (by conv => lhs; whnf)) rfl ?_
      refine ord_end ?_
      refine lst_done ?_
      refine goes_ret1 Tryz.func30 rfl (by conv => lhs; whnf) ?_
      exact ⟨rfl, hS.drop⟩
    · have hus := Lib.run_unsafeString_row (P := Tryz.prog) w.drew 85 3 9 5 (by kernel_rfl) (by kernel_rfl) g (bl ++ sp).length (shape_own (w := w.drew) hg) l hl0 (by simp at h2 ⊢; omega) (by omega) ?_
      · rw [hll] at hus
        replace hS := (St.swap hF.drew).lose (freeze_ext _ g ll)
        refine lst_run (run_unsafeStr rfl rfl hus) rfl ?_
        refine lst_ord hS ?_
        refine ord_read rfl (fun _ hS => run_assign (by conv => lhs; whnf)) rfl ?_
        refine ord_end ?_
        refine lst_done ?_
        refine goes_ret1 Tryz.func30 rfl (by conv => lhs; whnf) ?_
        exact ⟨rfl, hS.drop⟩
      · intro j x hx
        subst hbl
        have hj : j < l.length := (List.getElem?_eq_some_iff.1 hx).1
        have : (bytesV l ++ sp)[j]? = some (.int .u8 x.toNat) := by
          rw [List.getElem?_append_left (by simp [bytesV]; omega)]
          simp [bytesV, hx]
        rw [← this, ← cell_own (w := w.drew) hg j]
        simp only [Addr.add]
        split
        · rename_i h0; subst h0; rfl
        · simp
end
end Go.Proofs.YtdiophafmokfiaaGreatDoor
