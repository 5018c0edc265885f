/- CWalk1, CWalk2, Wide, CWalk3, SWalk9, SWalk10, SWalk11: texts that follow one another, laid into one file. -/
import Derived.Test.YthliapbflkfdiabZ0
import Derived.Test.YthliapbflkfdiabG13
import Derived.Test.YthliapbflkfdiabG3
import Derived.Test.YthliapbflkfdiabG9
import Derived.Test.YthliapbflkfdiabG4
import Derived.Test.YthliapbflkfdiabG5
namespace Go.Proofs.Ythliapbflkfdiab
open Go.RowKit
set_option linter.unusedVariables false
set_option linter.unusedSimpArgs false
set_option maxRecDepth 100000
set_option maxHeartbeats 1000000
abbrev cvv (c : HC) : Value := .agg #[.int .i64 c.k, .int .i64 c.n, .string c.s]
section
variable {M : List Nat} {w0 : World} {H : List (Nat × Obj)} {F : List (World → Prop)}
theorem ref_any (i : Int) (w : World) (hS : St M w0 H F w) :
  Calls Try.prog 93 #[.int .i64 i] w fun e w' => e = .returned (cvv ⟨0, i, eS⟩) ∧ St M w0 H F w' := by
 refine goes_enter1 Try.func93 rfl Try.ntmps93 rfl ?_
 refine Zd ?_
 refine ZT ?_
 clear hS
 intro b1 wx1 hS
 refine Zbx ?_
 refine Zdh ?_
 refine Zb ?_
 clear hS
 intro wx2 hS
 refine Zc ?_
 refine goes_retC (sz := 3) hS Try.func93 rfl rfl rfl rfl (by first | exact .head | exact .tail .head | exact .tail (.tail .head) | exact .tail (.tail (.tail .head)) | exact .tail (.tail (.tail (.tail .head))) | exact .tail (.tail (.tail (.tail (.tail .head))))) (by repeat constructor) ?_
 exact ⟨rfl, hS.drop⟩
theorem single_any (k n : Int) (s : ByteArray) (A : Option Addr) (l c : Nat) (w : World) (hS : St M w0 H F w) :
  Calls Try.prog 94 #[.agg #[.int .i64 k, .int .i64 n, .string s, .slice A l c]] w fun e w' => e = .returned (cvv (single k n s)) ∧ St M w0 H F w' := by
 refine goes_enter1 Try.func94 rfl Try.ntmps94 rfl ?_
 by_cases h0 : k = 0
 ·subst h0
  refine Ze ?_
  clear hS
  intro b1 wx1 hS
  refine ZT ?_
  clear hS
  intro b2 wx2 hS
  refine Zct ?_
  refine Za9 ?_
  refine ZbZ ?_
  refine Zp ?_
  refine Calls.mono (ref_any n _ hS) ?_
  rintro _ w2 ⟨rfl, hS'⟩
  refine Za ?_
  replace hS := hS'
  clear hS'
  refine Zb ?_
  clear hS
  intro wx3 hS
  refine Zc ?_
  refine ZdS ?_
  exact ⟨rfl, hS.drop.drop⟩
 by_cases h2 : k = 2
 ·subst h2
  refine Ze ?_
  clear hS
  intro b1 wx1 hS
  refine ZT ?_
  clear hS
  intro b2 wx2 hS
  refine Zct ?_
  refine ZbX ?_
  refine ZbZ ?_
  refine Zdh ?_
  refine Zb ?_
  clear hS
  intro wx3 hS
  refine Zc ?_
  refine ZdS ?_
  exact ⟨rfl, hS.drop.drop⟩
 have e : single k n s = ⟨1, 0, s⟩ := by unfold single; rw [if_neg h0, if_neg h2]
 rw [e]
 refine Ze ?_
 clear hS
 intro b1 wx1 hS
 refine ZT ?_
 clear hS
 intro b2 wx2 hS
 refine Zct ?_
 refine ZbX ?_
 refine ZcR ?_
 refine ZaI ?_
 refine ZaQ ?_
 refine Zd ?_
 refine Zb8 ?_
 refine Zdh ?_
 refine Zb ?_
 clear hS
 intro wx3 hS
 refine Zc ?_
 refine ZdS ?_
 exact ⟨rfl, hS.drop.drop⟩
theorem variables_any (n : Nat) (hn : n ≤ 1000) (w : World) (hS : St M w0 H F w) :
  Calls Try.prog 71 #[.int .i64 (n : Nat)] w fun e w' => ∃ (A : Option Addr) (c : Nat) (O : List (Nat × Obj)), e = .returned (.slice A (varsB n).length c) ∧ Rw 74 3 (.slice A (varsB n).length c) (varsB n).length (hcsL (varsB n)) O ∧ St M w0 (O ++ H) F w' := by
 rw [varsB_len]
 refine goes_enter1 Try.func71 rfl Try.ntmps71 rfl ?_
 refine Zi ?_
 refine Zq ?_
 refine lst_make (k := n) (sz := 3) (bts := 32) hS rfl rfl rfl rfl (by omega) (by omega) rfl ?_
 clear hS
 intro b w2 cs hcl hS
 refine Zbg ?_
 refine goes_loop1 9 (10 :: 11 :: 4 :: 12 :: 13 :: 14 :: 15 :: 16 :: 17 :: []) (fun (m : Nat) v w' => ∃ (i : Nat) (sp : List Value), i + m = n ∧ v = .int .i64 (i : Nat) ∧ sp.length = m * 3 ∧ St M w0 ((b, .cells (hcsL (varsF i 0) ++ sp).toArray 74) :: H) F w') (fun m => m) (n) ?_ (by conv=>lhs;whnf) ?_
 ·exact ⟨0, cs, by omega, rfl, hcl, hS⟩
 clear hS
 rintro m _ w3 jv ⟨i, sp, him, rfl, hsp, hS⟩ ih
 cases m with
 | zero =>
  obtain rfl : i = n := by omega
  obtain rfl : sp = [] := List.eq_nil_of_length_eq_zero (by omega)
  refine Zbh ?_
  refine goes_ret1 Try.func71 rfl (by conv=>lhs;whnf) ?_
  by_cases h0 : i = 0
  ·subst h0
   exact ⟨_, _, [], rfl, Rw.zero_, hS.drop⟩
  ·refine ⟨_, _, [(b, Obj.cells (hcsL (varsF i 0) ++ ([] : List Value)).toArray 74)], rfl, Rw.own_ (xs := hcsL (varsF i 0)) (sp := []) ?_ ?_ (Nat.le_refl _) (by omega), hS⟩
   ·rw [hcsL_len, varsF_len]
   ·rw [List.append_nil, hcsL_len, varsF_len]
 | succ m =>
  obtain ⟨a0, a1, a2, sp, rfl⟩ : ∃ a0 a1 a2 r, sp = a0 :: a1 :: a2 :: r := by
   match sp, hsp with
   | a0 :: a1 :: a2 :: r, _ => exact ⟨a0, a1, a2, r, rfl⟩
   | [], h => simp at h
   | [_], h => simp at h; omega
   | [_, _], h => simp at h; omega
  refine Zb0 ?_
  refine ZY ?_
  refine Zg ?_
  refine Zp ?_
  refine Calls.mono (ref_any ((i : Nat) : Int) _ hS) ?_
  rintro _ w4 ⟨rfl, hS'⟩
  refine Za ?_
  replace hS := hS'
  clear hS'
  refine ZS ?_
  have hlen := hcsL_len (varsF i 0)
  have hvl := varsF_len i 0
  refine lst_storeN hS rfl (by rfl) rfl rfl .head (putN_mid (hcsL (varsF i 0)) [a0, a1, a2] (hcs ⟨0, ((i : Nat) : Int), eS⟩) sp _ (by omega) rfl) .head ?_
  clear hS
  intro w5 hS
  refine Zah ?_
  refine ih (m) _ _ _ ?_ ?_ (by conv=>lhs;whnf) (by kernel_rfl)
  ·omega
  ·refine ⟨i + 1, sp, by omega, by simp, by simp only [List.length_cons] at hsp; omega, ?_⟩
   rw [varsF_snoc, hcsL_app, Nat.zero_add]
   have e1 : hcsL (varsF i 0) ++ hcsL [⟨0, ((i : Nat) : Int), eS⟩] ++ sp = hcsL (varsF i 0) ++ (hcs ⟨0, ((i : Nat) : Int), eS⟩ ++ sp) := by simp [hcsL, hcs]
   rw [e1]; exact hS
end
end Go.Proofs.Ythliapbflkfdiab
namespace Go.Proofs.Ythliapbflkfdiab
open Go.RowKit
set_option linter.unusedVariables false
set_option linter.unusedSimpArgs false
set_option maxRecDepth 100000
set_option maxHeartbeats 1000000
theorem set_mid {α : Type} (P Q : List α) (z c : α) : (P ++ z :: Q).set P.length c = P ++ c :: Q := by
 induction P with
 | nil => rfl
 | cons p P ih => simp only [List.cons_append, List.length_cons, List.set_cons_succ, ih]
def midS (cs : List HC) (s : ByteArray) (l : Nat) (D : Ts) (m : Nat) : List HC := cs ++ (⟨3, (l : Nat), s⟩ :: ((layA D (cs.length + 1 + l)).1 ++ (List.replicate m zC ++ (layA D (cs.length + 1 + l)).2)))
theorem midS_len (cs : List HC) (s : ByteArray) (l : Nat) (D : Ts) (m : Nat) : (midS cs s l D m).length = cs.length + 1 + D.length + m + (layA D (cs.length + 1 + l)).2.length := by
 simp only [midS, List.length_append, List.length_cons, List.length_replicate, layA_len]; omega
theorem midS_set (cs : List HC) (s : ByteArray) (l : Nat) (D : Ts) (m : Nat) (c : HC) : (midS cs s l D (m + 1)).set (cs.length + 1 + D.length) c = cs ++ (⟨3, (l : Nat), s⟩ :: ((layA D (cs.length + 1 + l)).1 ++ (c :: (List.replicate m zC ++ (layA D (cs.length + 1 + l)).2)))) := by
 have h := set_mid (cs ++ (⟨3, (l : Nat), s⟩ :: (layA D (cs.length + 1 + l)).1)) (List.replicate m zC ++ (layA D (cs.length + 1 + l)).2) zC c
 have hl : (cs ++ (⟨3, (l : Nat), s⟩ :: (layA D (cs.length + 1 + l)).1)).length = cs.length + 1 + D.length := by simp only [List.length_append, List.length_cons, layA_len]; omega
 rw [hl] at h
 have e1 : midS cs s l D (m + 1) = (cs ++ (⟨3, (l : Nat), s⟩ :: (layA D (cs.length + 1 + l)).1)) ++ zC :: (List.replicate m zC ++ (layA D (cs.length + 1 + l)).2) := by
  simp only [midS, List.replicate_succ, List.append_assoc, List.cons_append]
 rw [e1, h]
 simp only [List.append_assoc, List.cons_append]
theorem midS_one (cs : List HC) (s1 : ByteArray) (l : Nat) (D : Ts) (m : Nat) {k : Int} (n : Int) (s : ByteArray) (ar : Ts) (hk : k ≠ 3) : (midS cs s1 l D (m + 1)).set (cs.length + 1 + D.length) (single k n s) = midS cs s1 l (D.app (.cons k n s ar .nil)) m := by
 rw [midS_set]
 unfold midS
 rw [layA_app, layA_one _ _ _ _ _ hk]
 simp [layA]
theorem midS_comp (cs : List HC) (s1 : ByteArray) (l : Nat) (D : Ts) (m : Nat) (n : Int) (s : ByteArray) (ar : Ts) (hl : l = D.length + (m + 1)) : (midS cs s1 l D (m + 1)).set (cs.length + 1 + D.length) ⟨0, ((midS cs s1 l D (m + 1)).length : Nat), eS⟩ ++ lay1 3 n s ar (midS cs s1 l D (m + 1)).length = midS cs s1 l (D.app (.cons 3 n s ar .nil)) m := by
 have hp : (midS cs s1 l D (m + 1)).length = cs.length + 1 + l + (layA D (cs.length + 1 + l)).2.length := by rw [midS_len]; omega
 rw [midS_set, hp]
 unfold midS lay1
 rw [layA_app, layA_comp, if_pos rfl]
 simp [layA]
theorem midS_start (cs : List HC) (s : ByteArray) (l : Nat) : midS cs s l .nil l = (cs ++ [⟨3, (l : Nat), s⟩]) ++ List.replicate l zC := by simp [midS, layA]
theorem midS_end (cs : List HC) (n : Int) (s : ByteArray) (T : Ts) : midS cs s T.length T 0 = cs ++ lay1 3 n s T cs.length := by
 unfold midS lay1 layS
 rw [if_pos rfl]
 simp
def StoreSaid (T : TA) : Prop := ∀ (M : List Nat) (w0 : World) (H : List (Nat × Obj)) (F : List (World → Prop)) (vars k n : Int) (s : ByteArray) (A : Option Addr) (c : Nat) (cs : List HC) (v : Value) (O : List (Nat × Obj)) (w : World),
 Und F (ArA A c T) → (Ts.cons k n s T.ts .nil).good vars = true → cs.length + 2 * T.ts.nodes + 2 ≤ 1000000 → Rw 74 3 v cs.length (hcsL cs) O → St M w0 (O ++ H) F w →
  Calls Try.prog 72 #[v, .agg #[.int .i64 k, .int .i64 n, .string s, .slice A T.len c]] w fun e w' => ∃ (A' : Option Addr) (c' : Nat) (O' : List (Nat × Obj)), e = .returned (.slice A' (cs ++ lay1 k n s T.ts cs.length).length c') ∧
   Rw 74 3 (.slice A' (cs ++ lay1 k n s T.ts cs.length).length c') (cs ++ lay1 k n s T.ts cs.length).length (hcsL (cs ++ lay1 k n s T.ts cs.length)) O' ∧ St M w0 (O' ++ H) F w'
theorem store_of (T : TA) (ihT : ∀ U : TA, U.ts.nodes < T.ts.nodes → StoreSaid U) : StoreSaid T := by
 intro M w0 H F vars k n s A c cs v O w hA hg hb hrow hS
 obtain ⟨A1, c1, rfl, hc1⟩ := hrow.form
 have hln := Ts.length_le T.ts
 rw [TA.len_ts] at hln
 refine goes_enter2 Try.func72 rfl Try.ntmps72 rfl ?_
 by_cases hk : k = 3
 ·subst hk
  have hTl : 1 ≤ T.len := by
   rcases node_iff (good_cons hg).1 with h | h | h | h
   ·omega
   ·omega
   ·omega
   ·rw [← TA.len_ts]; omega
  refine Ze ?_
  clear hS
  intro b1 wx1 hS
  refine Zbb ?_
  refine ZR ?_
  refine Zr ?_
  refine Zq ?_
  refine ZaE ?_
  refine ZbD ?_
  refine Zb8 ?_
  refine lst_run (run_build (cells := [_, _, _]) (.cons (by conv=>lhs;whnf) (.cons (by conv=>lhs;whnf) (.cons (by conv=>lhs;whnf) .nil))) rfl) rfl ?_
  refine ZbK ?_
  clear hS
  intro b2 wx2 hS
  refine lst_appC (L := [⟨3, (T.len : Nat), s⟩]) hS (by conv=>lhs;whnf) (by rfl) rfl rfl rfl (Flat.own (sp := []) (hS.own (_, _) (.head _)) rfl (Nat.le_refl _)) hrow (List.perm_append_comm_assoc [_, _] O _) (by simp; omega) rfl ?_
  clear hS
  intro v7 O7 w7 hrow7 hS
  change Rw _ _ _ (cs.length + 1) _ _ at hrow7
  obtain ⟨B7, d7, rfl, _⟩ := hrow7.form
  replace hS := (hS.perm (List.perm_append_comm_assoc O7 [_, _] _)).drop
  refine Zaa ?_
  refine Zz ?_
  refine Zaa ?_
  refine ZaE ?_
  refine ZbD ?_
  obtain ⟨i, z, i2, i3, i4, i5, i6⟩ := rowP_some (P := Try.prog) (el := 74) (sz := 3) (bts := 32) rfl
  have hzc : z.cells = #[.int .i64 0, .int .i64 0, .string eS] := by
   have : zeroP Try.prog 74 = some (.agg #[.int .i64 0, .int .i64 0, .string eS]) := by kernel_rfl
   unfold zeroP at this
   rw [i2] at this
   simp only [Option.bind_some] at this
   rw [i3] at this
   rw [Option.some.inj this]; rfl
  refine lst_appZ (k := T.len) (zs := hcsL (List.replicate T.len zC)) (ki := .i64) hS (by conv=>lhs;whnf) (by rfl) rfl rfl i2 i3 i4 (by omega) (by rw [hzc]; exact zero_hcs _) (fun u hu => List.all_eq_true.1 (hcsL_one _) u hu) (by rw [i5]; exact hrow7) (by omega) hTl (List.perm_append_comm_assoc [_] O7 _) (by rw [i6]; omega) (by omega) rfl ?_
  rw [i5]
  clear hS
  intro v8 O8 w8 hrow8 hS
  obtain ⟨B8, d8, rfl, _⟩ := hrow8.form
  replace hS := hS.perm (List.perm_append_comm_assoc O8 [_] _)
  clear i2 i3 i4 i5 i6 hzc
  have e8 : (midS cs s T.len .nil T.len).length = cs.length + 1 + T.len := by rw [midS_len]; simp [Ts.length, layA]
  have hrow9 : Rw 74 3 (.slice B8 (midS cs s T.len .nil T.len).length d8) (midS cs s T.len .nil T.len).length (hcsL (midS cs s T.len .nil T.len)) O8 := by
   rw [e8, midS_start, hcsL_app, hcsL_app]; exact hrow8
  refine ZN ?_
  refine Zd ?_
  refine ZaE ?_
  refine Zt ?_
  refine ZJ ?_
  refine goes_loop2 35 0 (36 :: 37 :: 38 :: 39 :: 7 :: 6 :: 40 :: 41 :: 42 :: 43 :: 44 :: 45 :: 46 :: 47 :: 48 :: 49 :: 50 :: 51 :: 52 :: 53 :: 54 :: 55 :: 56 :: 57 :: 58 :: 59 :: 60 :: 61 :: []) (fun (R : TA) y u w' => ∃ (D : TA) (Au : Option Addr) (cu : Nat) (Ou : List (Nat × Obj)), T = D.app R ∧ y = .int .i64 (D.len : Nat) ∧ u = .slice Au (midS cs s T.len D.ts R.len).length cu ∧ Rw 74 3 (.slice Au (midS cs s T.len D.ts R.len).length cu) (midS cs s T.len D.ts R.len).length (hcsL (midS cs s T.len D.ts R.len)) Ou ∧ St M w0 ((b1, .cells [.int .i64 3, .int .i64 n, .string s, .slice A T.len c].toArray 39) :: (Ou ++ H)) F w') (fun R => R.len) (T) ?_ (by conv=>lhs;whnf) (by conv=>lhs;whnf) ?_
  ·exact ⟨.nil, B8, d8, O8, rfl, rfl, by rw [show TA.nil.ts = Ts.nil from rfl, e8], hrow9, hS⟩
  clear hS hrow7 hrow8 hrow9 e8
  rintro R _ _ w3 jv ⟨D, Au, cu, Ou, hD, rfl, rfl, hrow, hS⟩ ih
  have hlen : T.len = D.len + R.len := by rw [hD, TA.len_app]
  have hml := midS_len cs s T.len D.ts R.len
  rw [TA.len_ts] at hml
  have hTn : T.ts.nodes = D.ts.nodes + R.ts.nodes := by rw [hD, TA.app_ts, Ts.nodes_app]
  have hle := layA_le D.ts (cs.length + 1 + T.len)
  cases R with
  | nil =>
   have hTD : T = D := by rw [hD, TA.app_nil]
   subst hTD
   refine Zbh ?_
   refine goes_ret1 Try.func72 rfl (by conv=>lhs;whnf) ?_
   have em : midS cs s T.len T.ts TA.nil.len = cs ++ lay1 3 n s T.ts cs.length := by rw [← TA.len_ts]; exact midS_end cs n s T.ts
   rw [em] at hrow
   rw [em]
   exact ⟨Au, cu, Ou, rfl, hrow, hS.drop⟩
  | cons k1 n1 s1 Aa ca a1 r =>
   have hRl : (TA.cons k1 n1 s1 Aa ca a1 r).len = r.len + 1 := rfl
   have hDl := TA.len_ts D
   have hrl := Ts.length_le r.ts
   rw [TA.len_ts] at hrl
   have hR1 : (TA.cons k1 n1 s1 Aa ca a1 r).ts.nodes = a1.ts.nodes + r.ts.nodes + 1 := rfl
   have hg1 : (Ts.cons k1 n1 s1 a1.ts .nil).good vars = true := by
    have := (good_cons hg).2.1
    rw [hD, TA.app_ts, Ts.good_ap] at this
    simp only [Bool.and_eq_true] at this
    obtain ⟨x1, x2, _⟩ := good_cons this.2
    simp only [Ts.good, Bool.and_eq_true, and_true]
    exact ⟨x1, x2⟩
   have hA' : Und F (ArA A c (D.app (.cons k1 n1 s1 Aa ca a1 r))) := by rw [← hD]; exact hA
   obtain ⟨bk, ok, rfl⟩ := (hS.und hA').some_ (by rw [TA.len_app]; simp only [TA.len]; omega)
   have hcc : ∀ {H'} w', St M w0 H' F w' → _ := fun w' hS => (hS.und hA').cells
   have hsub : Und F (ArA Aa ca a1) := fun w hw => (hA' w hw).sub
   obtain ⟨g, sp, rfl, rfl, hcap, hlc, _⟩ := hrow.some_ (by omega)
   have hcr : ∀ (X : List HC) (sp2 : List Value), X.length = (midS cs s T.len D.ts (TA.cons k1 n1 s1 Aa ca a1 r).len).length → sp2 = sp → Rw 74 3 (.slice (some ⟨g, 0, none⟩) X.length cu) X.length (hcsL X) [(g, .cells (hcsL X ++ sp2).toArray 74)] := by
    rintro X _ hX rfl
    refine Rw.own_ (hcsL_len X) ?_ (by omega) (by omega)
    rw [← hcap]; simp only [List.length_append, hcsL_len, hX]
   have hput := fun c => hcsL_putC (midS cs s T.len D.ts (TA.cons k1 n1 s1 Aa ca a1 r).len) sp (((cs.length + 1 : Nat) : Int) + ((D.len : Nat) : Int)).toNat c (by omega)
   have hin : (((cs.length + 1 : Nat) : Int) + ((D.len : Nat) : Int)).toNat = cs.length + 1 + D.ts.length := by rw [TA.len_ts]; omega
   by_cases hk1 : k1 = 3
   ·subst hk1
    refine ZaL ?_
    refine Zaq ?_
    refine Za6 ?_
    refine Z2 ?_
    clear hS
    intro b3 wx3 hS
    refine Zbs ?_
    clear hS
    intro wx4 hS
    refine Zu ?_
    refine Zaz ?_
    refine ZbP ?_
    refine ZR ?_
    refine Zr ?_
    refine Zm ?_
    refine Zac ?_
    refine Zau ?_
    refine Zp ?_
    refine Calls.mono (ref_any ((midS cs s T.len D.ts (TA.cons 3 n1 s1 Aa ca a1 r).len).length : Nat) _ hS) ?_
    rintro _ w4 ⟨rfl, hS'⟩
    refine Za ?_
    replace hS := hS'
    clear hS'
    refine ZS ?_
    refine Zev ?_
    clear hS
    intro w5 hS
    refine Zc ?_
    refine Zag ?_
    refine Za6 ?_
    have hX : ((midS cs s T.len D.ts (TA.cons 3 n1 s1 Aa ca a1 r).len).set (((cs.length + 1 : Nat) : Int) + ((D.len : Nat) : Int)).toNat ⟨0, ((midS cs s T.len D.ts (TA.cons 3 n1 s1 Aa ca a1 r).len).length : Nat), eS⟩).length = (midS cs s T.len D.ts (TA.cons 3 n1 s1 Aa ca a1 r).len).length := by rw [List.length_set]
    have hcomp := midS_comp cs s T.len D.ts r.len n1 s1 a1.ts (by rw [TA.len_ts]; omega)
    rw [← hin, ← hRl] at hcomp
    have hrowX := hcr _ sp hX rfl
    have hcall := ihT a1 (by omega) M w0 ((b3, .cells [.int .i64 3, .int .i64 n1, .string s1, .slice Aa a1.len ca].toArray 39) :: (b1, .cells [.int .i64 3, .int .i64 n, .string s, .slice (some ⟨bk, ok, none⟩) T.len c].toArray 39) :: H) F vars 3 n1 s1 Aa ca _ _ _ _ hsub hg1 (by rw [hX]; omega) hrowX (hS.perm (List.perm_append_comm_assoc [_, _] [_] _))
    rw [hX, hcomp] at hcall
    refine Zj ?_
    refine Calls.mono (hcall) ?_
    rintro _ w6 ⟨A6, c6, O6, rfl, hrow6, hS'⟩
    refine Za ?_
    replace hS := hS'
    clear hS'
    replace hS := (hS.perm (List.perm_append_comm_assoc O6 [_, _] _)).drop
    refine Zan ?_
    refine ih (r) _ _ _ _ ?_ ?_ (by conv=>lhs;whnf) (by conv=>lhs;whnf) (by kernel_rfl)
    ·omega
    ·exact ⟨D.app (.cons 3 n1 s1 Aa ca a1 .nil), A6, c6, O6, by rw [hD, TA.app_assoc]; rfl, by rw [TA.len_app]; rfl, by rw [TA.app_ts]; rfl, by rw [TA.app_ts]; exact hrow6, hS⟩
   ·refine ZaL ?_
    refine Zaq ?_
    refine Za6 ?_
    refine Z2 ?_
    clear hS
    intro b3 wx3 hS
    refine Zbs ?_
    clear hS
    intro wx4 hS
    refine Zu ?_
    refine Zaz ?_
    refine ZbP ?_
    refine ZR ?_
    refine ZF ?_
    refine Zm ?_
    refine Zac ?_
    refine Za6 ?_
    refine Zp ?_
    refine Calls.mono (single_any k1 n1 s1 Aa a1.len ca _ hS) ?_
    rintro _ w4 ⟨rfl, hS'⟩
    refine Za ?_
    replace hS := hS'
    clear hS'
    refine ZS ?_
    refine Zev ?_
    clear hS
    intro w5 hS
    refine Zc ?_
    refine ZcB ?_
    refine ZaD ?_
    refine Zdy ?_
    have hX : ((midS cs s T.len D.ts (TA.cons k1 n1 s1 Aa ca a1 r).len).set (((cs.length + 1 : Nat) : Int) + ((D.len : Nat) : Int)).toNat (single k1 n1 s1)).length = (midS cs s T.len D.ts (TA.cons k1 n1 s1 Aa ca a1 r).len).length := by rw [List.length_set]
    have hone := midS_one cs s T.len D.ts r.len n1 s1 a1.ts hk1
    rw [← hin] at hone
    have hrowX := hcr _ sp hX rfl
    rw [show (TA.cons k1 n1 s1 Aa ca a1 r).len = r.len + 1 from rfl, hone] at hrowX hS hX
    refine ih (r) _ _ _ _ ?_ ?_ (by conv=>lhs;whnf) (by conv=>lhs;whnf) (by kernel_rfl)
    ·omega
    ·refine ⟨D.app (.cons k1 n1 s1 Aa ca a1 .nil), some ⟨g, 0, none⟩, cu, _, by rw [hD, TA.app_assoc]; rfl, by rw [TA.len_app]; rfl, ?_, by rw [TA.app_ts]; exact hrowX, hS.drop⟩
     rw [TA.app_ts]
     show _ = Value.slice _ (midS cs s T.len (D.ts.app (.cons k1 n1 s1 a1.ts .nil)) r.len).length _
     rw [hX]; rfl
 ·refine Ze ?_
  clear hS
  intro b1 wx1 hS
  refine ZN ?_
  refine Zaz ?_
  refine ZbP ?_
  refine ZR ?_
  refine ZF ?_
  refine Zq ?_
  refine Za6 ?_
  refine Zp ?_
  refine Calls.mono (single_any k n s A T.len c _ hS) ?_
  rintro _ w2 ⟨rfl, hS'⟩
  refine Za ?_
  replace hS := hS'
  clear hS'
  refine ZbK ?_
  clear hS
  intro b2 wx2 hS
  have e : lay1 k n s T.ts cs.length = [single k n s] := by unfold lay1; rw [if_neg hk]
  refine lst_appC (L := [single k n s]) hS (by conv=>lhs;whnf) (by rfl) rfl rfl rfl (Flat.own (sp := []) (hS.own (_, _) (.head _)) rfl (Nat.le_refl _)) hrow (List.perm_append_comm_assoc [_, _] O _) (by simp; omega) rfl ?_
  clear hS
  intro v7 O7 w7 hrow7 hS
  obtain ⟨B7, d7, rfl, _⟩ := hrow7.form
  replace hS := hS.perm (List.perm_append_comm_assoc O7 [_, _] _)
  refine Zf ?_
  refine goes_ret1 Try.func72 rfl (by conv=>lhs;whnf) ?_
  rw [e]
  refine ⟨B7, d7, O7, by simp, ?_, hS.drop.drop⟩
  rw [List.length_append, hcsL_app]; exact hrow7
theorem store_said (T : TA) : StoreSaid T := by
 have key : ∀ m, ∀ U : TA, U.ts.nodes ≤ m → StoreSaid U := by
  intro m
  induction m with
  | zero => exact fun U hU => store_of U fun V hV => by omega
  | succ m ih => exact fun U hU => store_of U fun V hV => ih V (by omega)
 exact key _ T (Nat.le_refl _)
end Go.Proofs.Ythliapbflkfdiab
namespace Go.Proofs.Ythliapbflkfdiab
open Go.RowKit
def Ts.wide : Ts → Prop
 | .nil => True
 | .cons _ _ _ ar r => ar.length ≤ 9223372036854775807 ∧ ar.wide ∧ r.wide
theorem Ts.wide_app (D R : Ts) : (D.app R).wide ↔ D.wide ∧ R.wide := by
 induction D with
 | nil => simp [Ts.app, Ts.wide]
 | cons k n s ar r _ ih => simp only [Ts.app, Ts.wide, ih]; constructor <;> (rintro ⟨h1, h2⟩; simp_all)
def ClsWide (L : List Cl) : Prop := ∀ c ∈ L, c.hd.length ≤ 9223372036854775807 ∧ c.hd.wide ∧ c.bd.length ≤ 9223372036854775807 ∧ c.bd.wide
def VisitSaidW (T : Ts) : Prop := ∀ (k n : Int) (s : ByteArray) (v : Value) (L lb vb B : Nat) (w : World), Sl w (fun k => k < B) v T → B ≤ lb → VS lb vb L w → L ≤ 24 → T.length ≤ 9223372036854775807 → T.wide →
    Calls Try.prog 115 #[.agg #[.int .i64 k, .int .i64 n, .string s, v], .pointer (some ⟨lb, 0, none⟩), .pointer (some ⟨vb, 0, none⟩)] w fun e w' =>
     e = .returned (.bool (decide (T.nodes + 1 ≤ L))) ∧ (T.nodes + 1 ≤ L → VS lb vb (L - (T.nodes + 1)) w') ∧ Chg (fun k => k = lb) w w'
def VtLoopW (w : World) (T : Ts) (L lb vb : Nat) (g : Nat) (sx : Value) (wr : World) : Prop := ∃ D R : Ts, T = D.app R ∧ g = R.length ∧ sx = .int .i64 D.length ∧ D.nodes + 1 ≤ L ∧ VS lb vb (L - (D.nodes + 1)) wr ∧ Chg (fun k => k = lb) w wr
set_option maxHeartbeats 1000000 in
theorem visitW_of (m : Nat) (ih : ∀ T : Ts, T.nodes < m → VisitSaidW T) (T : Ts) (hm : T.nodes ≤ m) : VisitSaidW T := by
 intro k n s v L lb vb B w hv hBl hvs hL hn hwd
 obtain ⟨A, c, rfl, hs⟩ := hv.form
 have hle := T.length_le
 have hW : Below w.heap.size w (w.alloc (.cells #[.int .i64 k, .int .i64 n, .string s, .slice A T.length c] 39)) := (Below.refl _ _).alloc (Nat.le_refl _) _
 have hvs1 := hvs.far hW
 have hs1 := hs.below hW
 have bA := Plot.new w 39 #[.int .i64 k, .int .i64 n, .string s, .slice A T.length c]
 have l0 := hvs1.left.cell 0
 have lf := hvs1.left.frozen 0
 simp at l0
 have hlt := hvs.left.lt
 by_cases hL0 : L = 0
 ·subst hL0
  go_enter Try.func115, Try.ntmps115
  go_wp2_with fail
  go_ret
  exact ⟨rfl, fun h => absurd h (by omega), Chg.of_fresh hW⟩
 have hL1 : 0 < L := by omega
 obtain ⟨p0, p1, p2, p3, _⟩ := bA.four
 have hne : w.heap.size ≠ lb := by omega
 go_enter Try.func115, Try.ntmps115
 go_wp2_with fail
 have hstart : VS lb vb (L - 1) ((w.setCell ⟨lb, 0, none⟩ (.int .i64 ((L : Int) - 1))).alloc (.cells #[.int .i64 k, .int .i64 n, .string s, .slice A T.length c] 39)) := by
  refine ⟨?_, ?_, hvs.ne⟩
  ·have h1 := (hvs.left.set_ 0 (.int .i64 ((L : Int) - 1))).alloc (.cells #[.int .i64 k, .int .i64 n, .string s, .slice A T.length c] 39)
   rw [show ((L - 1 : Nat) : Int) = (L : Int) - 1 by omega]
   exact h1
  ·exact (hvs.fn.far (p := ⟨lb, 0, none⟩) hvs.ne _).alloc _
 have hchg : Chg (fun k => k = lb) w ((w.setCell ⟨lb, 0, none⟩ (.int .i64 ((L : Int) - 1))).alloc (.cells #[.int .i64 k, .int .i64 n, .string s, .slice A T.length c] 39)) :=
  ((Chg.refl (fun k => k = lb) w).setCell (p := ⟨lb, 0, none⟩) (fun _ => rfl) _).alloc _
 have hcall : ∀ (args : Array Value) (x : World), (callFunc 115 args).run Try.prog x = .ok (.enter 115 args) x := fun args x => by simp [go_sem]
 generalize ((w.setCell ⟨lb, 0, none⟩ (.int .i64 ((L : Int) - 1))).alloc (.cells #[.int .i64 k, .int .i64 n, .string s, .slice A T.length c] 39)) = W at *
 have h0 : VtLoopW w T L lb vb T.length (.int .i64 0) W := ⟨.nil, T, rfl, rfl, rfl, hL1, hstart, hchg⟩
 clear hstart hchg hvs1 bA p0 p1 p2 p3 hne l0 lf hs1 hW
 go_loopg [14] T.length (VtLoopW w T L lb vb)
 case atStart => exact h0
 case round =>
  clear h0
  obtain ⟨D, R, hT, hg, rfl, hD, hvr, hc⟩ := hrel
  have HT := Lib.hid hT
  have HG := Lib.hid hg
  clear hT hg
  have hsr : Sl wr (fun k => k < B) (.slice A T.length c) T := hs.chg hc fun k hk => by omega
  cases R with
  | nil =>
   have eD : D = T := by rw [HT.out, Ts.app_nil]
   subst eD
   go_wp2_with fail
   go_ret
   refine ⟨?_, fun _ => hvr, hc⟩
   rw [decide_eq_true hD]; rfl
  | cons k1 n1 s1 ar r =>
   have e1 : D.length < T.length := by rw [HT.out, Ts.length_app]; simp [Ts.length]
   have hnod : T.nodes = D.nodes + (1 + ar.nodes + r.nodes) := by rw [HT.out, Ts.nodes_app]; simp only [Ts.nodes]; omega
   have hwa : ar.length ≤ 9223372036854775807 ∧ ar.wide ∧ r.wide := by rw [HT.out, Ts.wide_app] at hwd; exact hwd.2
   rw [HT.out] at hsr
   rw [show (D.app (.cons k1 n1 s1 ar r)).length = T.length by rw [← HT.out]] at hsr
   obtain ⟨b1, o1, rfl, hq1⟩ := Sl.at_ hsr (by simp [Ts.length])
   obtain ⟨_, c10, c11, c12, ⟨v1, c13, hv1⟩, _⟩ := seg_cons.1 hq1
   obtain ⟨A1, d1, rfl, hv1⟩ := hv1.form
   clear hq1 hsr
   have hX : Below wr.heap.size wr (wr.alloc (.cells #[.int .i64 k1, .int .i64 n1, .string s1, .slice A1 ar.length d1] 39)) := (Below.refl _ _).alloc (Nat.le_refl _) _
   have hvx := hvr.far hX
   have f0 := hvx.fn.cell 0
   simp at f0
   go_wp2_with fail
   have e2 : ar.nodes < m := by omega
   refine (ih ar e2 k1 n1 s1 _ (L - (D.nodes + 1)) lb vb B _ (hv1.below hX) hBl hvx (by omega) hwa.1 hwa.2.1).mono ?_
   rintro e w2 ⟨rfl, hok, hc2⟩
   have hc3 : Chg (fun k => k = lb) w w2 := (hc.trans (Chg.of_fresh (S := fun k => k = lb) hX) fun _ _ h => h).trans hc2 fun _ _ h => h
   by_cases hx : ar.nodes + 1 ≤ L - (D.nodes + 1)
   ·have hok := hok hx
    rw [decide_eq_true hx]
    have hnx : Hid (VS lb vb (L - ((D.app (.cons k1 n1 s1 ar .nil)).nodes + 1)) w2) := Lib.hid (by
     rw [Ts.nodes_app]
     simp only [Ts.nodes]
     rw [show L - (D.nodes + (ar.nodes + 0 + 1) + 1) = L - (D.nodes + 1) - (ar.nodes + 1) by omega]
     exact hok)
    clear hok
    go_wp2_with fail
    go_roundg r.length
    case measure => rw [HG.out]; simp [Ts.length]
    case rel =>
     refine ⟨D.app (.cons k1 n1 s1 ar .nil), r, ?_, rfl, ?_, ?_, hnx.out, hc3⟩
     ·rw [HT.out, Ts.app_assoc]; rfl
     ·rw [Ts.length_app]; rfl
     ·rw [Ts.nodes_app]; simp only [Ts.nodes]; omega
   ·rw [decide_eq_false hx]
    have hbig : Hid (¬ T.nodes + 1 ≤ L) := Lib.hid (by omega)
    clear hok
    go_wp2_with fail
    go_ret
    refine ⟨?_, fun h => absurd h hbig.out, hc3⟩
    rw [decide_eq_false hbig.out]; rfl
theorem visitW_said (T : Ts) : VisitSaidW T := by
 have : ∀ m, ∀ T : Ts, T.nodes < m → VisitSaidW T := by
  intro m
  induction m with
  | zero => intro T h; omega
  | succ m ih => intro T h; exact visitW_of m ih T (by omega)
 exact this _ T (Nat.lt_succ_self _)
set_option maxHeartbeats 1000000 in
theorem fitsW_any (k n : Int) (s : ByteArray) (T : Ts) (v : Value) (w : World) (hv : Sl w (fun _ => True) v T) (hn : T.length ≤ 9223372036854775807) (hwd : T.wide) :
  Calls Try.prog 106 #[.agg #[.int .i64 k, .int .i64 n, .string s, v], .int .i64 24] w fun e w' => e = .returned (.bool (decide (T.nodes + 1 ≤ 24))) ∧ Below w.heap.size w w' := by
 obtain ⟨A, c, rfl, hs⟩ := hv.form
 have hs := hs.imp (q := fun k => k < w.heap.size) fun k _ h => h
 have hW : Below w.heap.size w (((w.alloc (.cells #[.int .i64 k, .int .i64 n, .string s, .slice A T.length c] 39)).alloc (.cells #[.int .i64 24] 3)).alloc (.cells #[.func (.func 115) #[] #[.pointer (some ⟨w.heap.size + 1, 0, none⟩), .pointer (some ⟨w.heap.size + 1 + 1, 0, none⟩)]] 130)) := (((Below.refl _ _).alloc (Nat.le_refl _) _).alloc (by simp) _).alloc (by simp; omega) _
 have hst : (store ⟨w.heap.size + 1 + 1, 0, none⟩ (.func (.func 115) #[] #[.pointer (some ⟨w.heap.size + 1, 0, none⟩), .pointer (some ⟨w.heap.size + 1 + 1, 0, none⟩)])).run Try.prog (((w.alloc (.cells #[.int .i64 k, .int .i64 n, .string s, .slice A T.length c] 39)).alloc (.cells #[.int .i64 24] 3)).alloc (.cells #[.nilFunc] 130)) =
   .ok () (((w.alloc (.cells #[.int .i64 k, .int .i64 n, .string s, .slice A T.length c] 39)).alloc (.cells #[.int .i64 24] 3)).alloc (.cells #[.func (.func 115) #[] #[.pointer (some ⟨w.heap.size + 1, 0, none⟩), .pointer (some ⟨w.heap.size + 1 + 1, 0, none⟩)]] 130)) := by
  have hb := Plot.new ((w.alloc (.cells #[.int .i64 k, .int .i64 n, .string s, .slice A T.length c] 39)).alloc (.cells #[.int .i64 24] 3)) 130 #[.nilFunc]
  have e := setCell_new ((w.alloc (.cells #[.int .i64 k, .int .i64 n, .string s, .slice A T.length c] 39)).alloc (.cells #[.int .i64 24] 3)) .nilFunc (.func (.func 115) #[] #[.pointer (some ⟨w.heap.size + 1, 0, none⟩), .pointer (some ⟨w.heap.size + 1 + 1, 0, none⟩)]) 130
  have h := run_store_func (P := Try.prog) (f := .func 115) (x := #[]) (y := #[.pointer (some ⟨w.heap.size + 1, 0, none⟩), .pointer (some ⟨w.heap.size + 1 + 1, 0, none⟩)]) (hb.cell 0) (hb.frozen 0)
  rw [e] at h
  simpa using h
 have hvs : VS (w.heap.size + 1) (w.heap.size + 1 + 1) 24 (((w.alloc (.cells #[.int .i64 k, .int .i64 n, .string s, .slice A T.length c] 39)).alloc (.cells #[.int .i64 24] 3)).alloc (.cells #[.func (.func 115) #[] #[.pointer (some ⟨w.heap.size + 1, 0, none⟩), .pointer (some ⟨w.heap.size + 1 + 1, 0, none⟩)]] 130)) := by
  refine ⟨?_, ?_, by omega⟩
  ·have := (Plot.new (w.alloc (.cells #[.int .i64 k, .int .i64 n, .string s, .slice A T.length c] 39)) 3 #[.int .i64 24]).alloc (.cells #[.func (.func 115) #[] #[.pointer (some ⟨w.heap.size + 1, 0, none⟩), .pointer (some ⟨w.heap.size + 1 + 1, 0, none⟩)]] 130)
   simpa using this
  ·have := Plot.new ((w.alloc (.cells #[.int .i64 k, .int .i64 n, .string s, .slice A T.length c] 39)).alloc (.cells #[.int .i64 24] 3)) 130 #[.func (.func 115) #[] #[.pointer (some ⟨w.heap.size + 1, 0, none⟩), .pointer (some ⟨w.heap.size + 1 + 1, 0, none⟩)]]
   simpa using this
 have hcall : ∀ (args : Array Value) (x : World), (callFunc 115 args).run Try.prog x = .ok (.enter 115 args) x := fun args x => by simp [go_sem]
 go_enter Try.func106, Try.ntmps106
 go_wp2_with fail
 refine (visitW_said T k n s _ 24 (w.heap.size + 1) (w.heap.size + 1 + 1) w.heap.size _ (hs.below hW) (by omega) hvs (Nat.le_refl _) hn hwd).mono ?_
 rintro e w2 ⟨rfl, _, hc⟩
 generalize hfb : decide (T.nodes + 1 ≤ 24) = fb
 have HFB := Lib.hid hfb
 clear hfb
 go_wp2_with fail
 go_ret
 refine ⟨by rw [HFB.out]; rfl, hW.trans (hc.below (by simp; omega) fun k hk _ => ?_)⟩
 have e : k = w.heap.size + 1 := hk
 omega
set_option maxHeartbeats 1000000 in
theorem goodGoalW_any (vars k n : Int) (s : ByteArray) (T : Ts) (v : Value) (w : World) (hv : Sl w (fun _ => True) v T) (hn : T.length ≤ 9223372036854775807) (hwd : T.wide) :
  Calls Try.prog 91 #[.agg #[.int .i64 k, .int .i64 n, .string s, v], .int .i64 vars] w fun e w' => e = .returned (.bool (gB vars k n s T)) ∧ Below w.heap.size w w' := by
 obtain ⟨A, c, rfl, hs⟩ := hv.form
 generalize hr : gB vars k n s T = rb
 have R := Lib.hid hr
 clear hr
 go_enter Try.func91, Try.ntmps91
 go_wp2_with fail
 have hW0 : Below w.heap.size w (w.alloc (.cells #[.int .i64 k, .int .i64 n, .string s, .slice A T.length c] 39)) := (Below.refl _ _).alloc (Nat.le_refl _) _
 have bA := Plot.new w 39 #[.int .i64 k, .int .i64 n, .string s, .slice A T.length c]
 generalize (w.alloc (.cells #[.int .i64 k, .int .i64 n, .string s, .slice A T.length c] 39)) = W0 at *
 have hs0 := hs.below hW0
 refine (goal_any k n s _ W0).mono ?_
 rintro e w1 ⟨rfl, hb1⟩
 have hW1 := hW0.trans (hb1.mono hW0.size)
 have bA1 := bA.below hb1
 have hs1 := hs0.below hb1
 cases hg : goalB k with
 | false =>
  go_wp2_with fail
  go_ret
  refine ⟨?_, hW1⟩
  rw [← R.out, gB, hg]; rfl
 | true =>
  have HGK := Lib.hid hg
  clear hg
  obtain ⟨p0, p1, p2, p3, _⟩ := bA1.four
  go_wp2_with fail
  refine (fitsW_any k n s T _ _ hs1 hn hwd).mono ?_
  rintro e w2 ⟨rfl, hb2⟩
  have hW2 := hW1.trans (hb2.mono hW1.size)
  have bA2 := bA1.below hb2
  have hs2 := hs1.below hb2
  clear p0 p1 p2 p3
  generalize hf : decide (T.nodes + 1 ≤ 24) = fb
  have HF := Lib.hid hf
  clear hf
  obtain ⟨p0, p1, p2, p3, _⟩ := bA2.four
  cases fb with
  | false =>
   go_wp2_with fail
   go_ret
   refine ⟨?_, hW2⟩
   rw [← R.out, gB, HF.out, Bool.and_false]; rfl
  | true =>
   go_wp2_with fail
   refine (goodTerm_any k n vars s T _ _ hs2 (by have := of_decide_eq_true HF.out; omega)).mono ?_
   rintro e w3 ⟨rfl, hb3⟩
   generalize hq : (Ts.cons k n s T .nil).good vars = qb
   have HQ := Lib.hid hq
   clear hq
   go_wp2_with fail
   go_ret
   refine ⟨?_, hW2.trans (hb3.mono hW2.size)⟩
   rw [← R.out, gB, HGK.out, HF.out, HQ.out, Bool.and_true, Bool.true_and]; rfl
set_option maxHeartbeats 1000000 in
theorem goodQueryW_any (vars : Int) (T : Ts) (v : Value) (w : World) (hv : Sl w (fun _ => True) v T) (hn : T.length ≤ 9223372036854775807) (hwd : T.wide) :
  Calls Try.prog 77 #[v, .int .i64 vars] w fun e w' => e = .returned (.bool (qB vars T)) ∧ Below w.heap.size w w' := by
 obtain ⟨A, c, rfl, hs⟩ := hv.form
 have hle := T.length_le
 generalize hr : qB vars T = rb
 have R := Lib.hid hr
 clear hr
 by_cases h1 : vars < 0
 ·have hq : Hid (rb = false) := Lib.hid (by rw [← R.out, qB]; simp; omega)
  go_enter Try.func77, Try.ntmps77
  go_wp2_with fail
  go_ret
  exact ⟨by rw [hq.out]; rfl, Below.refl _ _⟩
 by_cases h2 : 8 < vars
 ·have hq : Hid (rb = false) := Lib.hid (by rw [← R.out, qB]; simp; omega)
  go_enter Try.func77, Try.ntmps77
  go_wp2_with fail
  go_ret
  exact ⟨by rw [hq.out]; rfl, Below.refl _ _⟩
 by_cases h3 : 5 < T.length
 ·have hq : Hid (rb = false) := Lib.hid (by rw [← R.out, qB]; simp; omega)
  go_enter Try.func77, Try.ntmps77
  go_wp2_with fail
  go_ret
  exact ⟨by rw [hq.out]; rfl, Below.refl _ _⟩
 have hq : Hid (rb = T.goals vars) := Lib.hid (by rw [← R.out, qB]; simp; omega)
 have hl5 : T.length ≤ 5 := by omega
 have h0 : GqLoop w T vars T.length (.int .i64 0) w := ⟨.nil, T, rfl, rfl, rfl, rfl, Below.refl _ _⟩
 go_enter Try.func77, Try.ntmps77
 go_wp2_with fail
 go_loopg [20] T.length (GqLoop w T vars)
 case atStart => exact h0
 case round =>
  clear h0
  obtain ⟨D, R', hT, hg, rfl, hD, hb⟩ := hrel
  have HT := Lib.hid hT
  have HG := Lib.hid hg
  have HD := Lib.hid hD
  clear hT hg hD
  have hsr := hs.below hb
  cases R' with
  | nil =>
   have eD : D = T := by rw [HT.out, Ts.app_nil]
   subst eD
   go_wp2_with fail
   go_ret
   exact ⟨by rw [hq.out, HD.out]; rfl, hb⟩
  | cons k1 n1 s1 ar r =>
   have e1 : D.length < T.length := by rw [HT.out, Ts.length_app]; simp [Ts.length]
   have hwa : ar.length ≤ 9223372036854775807 ∧ ar.wide ∧ r.wide := by have := hwd; rw [HT.out, Ts.wide_app] at this; exact this.2
   rw [HT.out] at hsr
   rw [show (D.app (.cons k1 n1 s1 ar r)).length = T.length by rw [← HT.out]] at hsr
   obtain ⟨b1, o1, rfl, hq1⟩ := Sl.at_ hsr (by simp [Ts.length])
   obtain ⟨_, c10, c11, c12, ⟨v1, c13, hv1⟩, _⟩ := seg_cons.1 hq1
   obtain ⟨A1, d1, rfl, hv1⟩ := hv1.form
   clear hq1 hsr
   have hX : Below wr.heap.size wr (wr.alloc (.cells #[.int .i64 k1, .int .i64 n1, .string s1, .slice A1 ar.length d1] 39)) := (Below.refl _ _).alloc (Nat.le_refl _) _
   have hX' := hb.trans (hX.mono hb.size)
   go_wp2_with fail
   refine (goodGoalW_any vars k1 n1 s1 ar _ _ (hv1.below hX) hwa.1 hwa.2.1).mono ?_
   rintro e w2 ⟨rfl, hb2⟩
   have hb3 := hX'.trans (hb2.mono hX'.size)
   generalize hgb : gB vars k1 n1 s1 ar = gb
   have HGB := Lib.hid hgb
   clear hgb
   cases gb with
   | false =>
    go_wp2_with fail
    go_ret
    refine ⟨?_, hb3⟩
    rw [hq.out, HT.out, Ts.goals_app, Ts.goals, HGB.out, Bool.false_and, Bool.and_false]; rfl
   | true =>
    go_wp2_with fail
    go_roundg r.length
    case measure => rw [HG.out]; simp [Ts.length]
    case rel =>
     refine ⟨D.app (.cons k1 n1 s1 ar .nil), r, ?_, rfl, ?_, ?_, hb3⟩
     ·rw [HT.out, Ts.app_assoc]; rfl
     ·rw [Ts.length_app]; rfl
     ·rw [Ts.goals_app, HD.out, Ts.goals, HGB.out]; rfl
set_option maxHeartbeats 1000000 in
theorem goodClauseW_any (c : Cl) (u v : Value) (w : World) (hu : Sl w (fun _ => True) u c.hd) (hv : Sl w (fun _ => True) v c.bd) (h1 : c.hd.length ≤ 9223372036854775807) (h1w : c.hd.wide) (h2 : c.bd.length ≤ 9223372036854775807) (h2w : c.bd.wide) :
  Calls Try.prog 70 #[.agg #[.int .i64 c.k, .int .i64 c.n, .string c.s, u, v, .int .i64 c.vars]] w fun e w' => e = .returned (.bool (cB c)) ∧ Below w.heap.size w w' := by
 obtain ⟨A, d, rfl, hu⟩ := hu.form
 obtain ⟨A', d', rfl, hv⟩ := hv.form
 generalize hr : cB c = rb
 have R := Lib.hid hr
 clear hr
 go_enter Try.func70, Try.ntmps70
 go_wp2_with fail
 have hW0 : Below w.heap.size w (w.alloc (.cells #[.int .i64 c.k, .int .i64 c.n, .string c.s, .slice A c.hd.length d, .slice A' c.bd.length d', .int .i64 c.vars] 57)) := (Below.refl _ _).alloc (Nat.le_refl _) _
 have bA := Plot.new w 57 #[.int .i64 c.k, .int .i64 c.n, .string c.s, .slice A c.hd.length d, .slice A' c.bd.length d', .int .i64 c.vars]
 generalize (w.alloc (.cells #[.int .i64 c.k, .int .i64 c.n, .string c.s, .slice A c.hd.length d, .slice A' c.bd.length d', .int .i64 c.vars] 57)) = W0 at *
 have hu0 := hu.below hW0
 refine (goodQueryW_any c.vars c.bd _ W0 (hv.below hW0) h2 h2w).mono ?_
 rintro e w1 ⟨rfl, hb1⟩
 have hW1 := hW0.trans (hb1.mono hW0.size)
 have bA1 := bA.below hb1
 have hu1 := hu0.below hb1
 generalize hq : qB c.vars c.bd = qb
 have HQ := Lib.hid hq
 clear hq
 cases qb with
 | false =>
  go_wp2_with fail
  go_ret
  refine ⟨?_, hW1⟩
  rw [← R.out, cB, HQ.out]; rfl
 | true =>
  have p0 := bA1.cell 0
  have p1 := bA1.cell 1
  have p2 := bA1.cell 2
  have p3 := bA1.cell 3
  have p5 := bA1.cell 5
  simp at p0 p1 p2 p3 p5
  go_wp2_with fail
  refine (goodGoalW_any c.vars c.k c.n c.s c.hd _ _ hu1 h1 h1w).mono ?_
  rintro e w2 ⟨rfl, hb2⟩
  have hW2 := hW1.trans (hb2.mono hW1.size)
  have bA2 := bA1.below hb2
  clear p0 p1 p2 p3 p5
  generalize hg : gB c.vars c.k c.n c.s c.hd = gb
  have HGB := Lib.hid hg
  clear hg
  cases gb with
  | false =>
   go_wp2_with fail
   go_ret
   refine ⟨?_, hW2⟩
   rw [← R.out, cB, HGB.out, Bool.and_false]; rfl
  | true =>
   have p0 := bA2.cell 0
   have p1 := bA2.cell 1
   have p2 := bA2.cell 2
   have p3 := bA2.cell 3
   simp at p0 p1 p2 p3
   go_wp2_with fail
   refine (builtin_any c.k c.n c.s A c.hd.length d _).mono ?_
   rintro e w3 ⟨rfl, hb3⟩
   generalize hbb : builtB c.s.toList c.hd.length = bb
   have HBT := Lib.hid hbb
   clear hbb
   go_wp2_with fail
   go_ret
   refine ⟨?_, hW2.trans (hb3.mono hW2.size)⟩
   rw [← R.out, cB, HQ.out, HGB.out, HBT.out, Bool.true_and]; rfl
set_option maxHeartbeats 1000000 in
theorem goodProgramW_any (L : List Cl) (v : Value) (w : World) (hv : SlC w (fun _ => True) v L) (hn : L.length ≤ 9223372036854775807) (hwd : ClsWide L) :
  Calls Try.prog 76 #[v] w fun e w' => e = .returned (.bool (pB L)) ∧ Below w.heap.size w w' := by
 obtain ⟨A, d, rfl, hs⟩ := hv.form
 generalize hr : pB L = rb
 have R := Lib.hid hr
 clear hr
 by_cases h3 : 24 < L.length
 ·have hq : Hid (rb = false) := Lib.hid (by rw [← R.out, pB]; simp; omega)
  go_enter Try.func76, Try.ntmps76
  go_wp2_with fail
  go_ret
  exact ⟨by rw [hq.out]; rfl, Below.refl _ _⟩
 have hq : Hid (rb = L.all cB) := Lib.hid (by rw [← R.out, pB, decide_eq_true (by omega), Bool.true_and])
 have h0 : GpLoop w L L.length (.int .i64 0) w := ⟨[], L, rfl, rfl, rfl, rfl, Below.refl _ _⟩
 go_enter Try.func76, Try.ntmps76
 go_wp2_with fail
 go_loopg [10] L.length (GpLoop w L)
 case atStart => exact h0
 case round =>
  clear h0
  obtain ⟨D, R', hT, hg, rfl, hD, hb⟩ := hrel
  have HT := Lib.hid hT
  have HG := Lib.hid hg
  have HD := Lib.hid hD
  clear hT hg hD
  have hsr := hs.below hb
  cases R' with
  | nil =>
   have eD : D = L := by rw [HT.out, List.append_nil]
   subst eD
   go_wp2_with fail
   go_ret
   exact ⟨by rw [hq.out, HD.out]; rfl, hb⟩
  | cons c r =>
   have e1 : D.length < L.length := by rw [HT.out, List.length_append]; simp
   have hcw := hwd c (by rw [HT.out]; simp)
   rw [HT.out] at hsr
   rw [show (D ++ c :: r).length = L.length by rw [← HT.out]] at hsr
   obtain ⟨b1, o1, rfl, _, c10, c11, c12, ⟨v1, c13, hv1⟩, ⟨v2, c14, hv2⟩, c15, _⟩ := SlC.at_ hsr (by simp)
   obtain ⟨A1, d1, rfl, hv1⟩ := hv1.form
   obtain ⟨A2, d2, rfl, hv2⟩ := hv2.form
   clear hsr
   have hX : Below wr.heap.size wr (wr.alloc (.cells #[.int .i64 c.k, .int .i64 c.n, .string c.s, .slice A1 c.hd.length d1, .slice A2 c.bd.length d2, .int .i64 c.vars] 57)) := (Below.refl _ _).alloc (Nat.le_refl _) _
   have hX' := hb.trans (hX.mono hb.size)
   go_wp2_with fail
   refine (goodClauseW_any c _ _ _ (hv1.below hX) (hv2.below hX) hcw.1 hcw.2.1 hcw.2.2.1 hcw.2.2.2).mono ?_
   rintro e w2 ⟨rfl, hb2⟩
   have hb3 := hX'.trans (hb2.mono hX'.size)
   generalize hgb : cB c = gb
   have HGB := Lib.hid hgb
   clear hgb
   cases gb with
   | false =>
    go_wp2_with fail
    go_ret
    refine ⟨?_, hb3⟩
    rw [hq.out, HT.out, List.all_append, List.all_cons, HGB.out, Bool.false_and, Bool.and_false]; rfl
   | true =>
    go_wp2_with fail
    go_roundg r.length
    case measure => rw [HG.out]; simp
    case rel =>
     refine ⟨D ++ [c], r, ?_, rfl, ?_, ?_, hb3⟩
     ·rw [HT.out, List.append_assoc]; rfl
     ·rw [List.length_append]; rfl
     ·rw [List.all_append, HD.out, List.all_cons, HGB.out]; rfl
end Go.Proofs.Ythliapbflkfdiab
namespace Go.Proofs.Ythliapbflkfdiab
open Go.RowKit
set_option linter.unusedVariables false
set_option linter.unusedSimpArgs false
set_option maxRecDepth 100000
set_option maxHeartbeats 1000000
theorem permC {α : Type} (L O O2 H : List α) : (L ++ (O ++ (O2 ++ H))).Perm (O2 ++ (L ++ (O ++ H))) :=
 (List.Perm.append_left L (List.perm_append_comm_assoc O O2 H)).trans (List.perm_append_comm_assoc L O2 _)
section
variable {M : List Nat} {w0 : World} {H : List (Nat × Obj)} {F : List (World → Prop)}
theorem storeAll_any (T : TA) (vars : Int) (A : Option Addr) (c : Nat) (cs : List HC) (v : Value) (O : List (Nat × Obj)) (w : World) (hA : Und F (ArA A c T)) (hg : T.ts.goals vars = true) (hb : cs.length + 2 * T.ts.nodes + 2 ≤ 1000000) (hrow : Rw 74 3 v cs.length (hcsL cs) O) (hS : St M w0 (O ++ H) F w) :
  Calls Try.prog 73 #[v, .slice A T.len c] w fun e w' => ∃ (A' B' : Option Addr) (c' d' : Nat) (O' O2 : List (Nat × Obj)), e = .returned (.tuple #[.slice A' (cs ++ (layL T.ts cs.length).1).length c', .slice B' (layL T.ts cs.length).2.length d']) ∧
   Rw 74 3 (.slice A' (cs ++ (layL T.ts cs.length).1).length c') (cs ++ (layL T.ts cs.length).1).length (hcsL (cs ++ (layL T.ts cs.length).1)) O' ∧ Rw 3 1 (.slice B' (layL T.ts cs.length).2.length d') (layL T.ts cs.length).2.length (intsV (layL T.ts cs.length).2) O2 ∧ St M w0 (O' ++ (O2 ++ H)) F w' := by
 obtain ⟨A1, c1, rfl, hc1⟩ := hrow.form
 have hln := Ts.length_le T.ts
 rw [TA.len_ts] at hln
 refine goes_enter2 Try.func73 rfl Try.ntmps73 rfl ?_
 refine Zd ?_
 refine Zv ?_
 refine ZG ?_
 refine ZJ ?_
 refine goes_loop3 11 0 6 (12 :: 13 :: 14 :: 8 :: 15 :: 16 :: 17 :: 18 :: 19 :: 20 :: 21 :: 22 :: 23 :: []) (fun (R : TA) y u z w' => ∃ (D : TA) (Au Bu : Option Addr) (cu du : Nat) (Ou Og : List (Nat × Obj)), T = D.app R ∧ y = .int .i64 (D.len : Nat) ∧ u = .slice Au (cs ++ (layL D.ts cs.length).1).length cu ∧ z = .slice Bu (layL D.ts cs.length).2.length du ∧ Rw 74 3 (.slice Au (cs ++ (layL D.ts cs.length).1).length cu) (cs ++ (layL D.ts cs.length).1).length (hcsL (cs ++ (layL D.ts cs.length).1)) Ou ∧ Rw 3 1 (.slice Bu (layL D.ts cs.length).2.length du) (layL D.ts cs.length).2.length (intsV (layL D.ts cs.length).2) Og ∧ St M w0 (Ou ++ (Og ++ H)) F w') (fun R => R.len) (T) ?_ (by conv=>lhs;whnf) (by conv=>lhs;whnf) (by conv=>lhs;whnf) ?_
 ·exact ⟨.nil, A1, none, c1, 0, O, [], rfl, rfl, by simp [TA.ts, layL], rfl, by simpa [TA.ts, layL] using hrow, Rw.zero_, hS⟩
 clear hS hrow
 rintro R _ _ _ w3 jv ⟨D, Au, Bu, cu, du, Ou, Og, hD, rfl, rfl, rfl, hrow, hrowg, hS⟩ ih
 have hlen : T.len = D.len + R.len := by rw [hD, TA.len_app]
 have hTn : T.ts.nodes = D.ts.nodes + R.ts.nodes := by rw [hD, TA.app_ts, Ts.nodes_app]
 have hle := layL_le D.ts cs.length
 have hgl := layL_len D.ts cs.length
 have hDl := TA.len_ts D
 have hXl : (cs ++ (layL D.ts cs.length).1).length = cs.length + (layL D.ts cs.length).1.length := List.length_append
 cases R with
 | nil =>
  have hTD : T = D := by rw [hD, TA.app_nil]
  subst hTD
  refine ZI ?_
  refine Zm ?_
  refine Zv ?_
  refine goes_ret2 Try.func73 rfl (by conv=>lhs;whnf) (by conv=>lhs;whnf) ?_
  exact ⟨Au, Bu, cu, du, Ou, Og, rfl, hrow, hrowg, hS⟩
 | cons k1 n1 s1 Aa ca a1 r =>
  have hRl : (TA.cons k1 n1 s1 Aa ca a1 r).len = r.len + 1 := rfl
  have hR1 : (TA.cons k1 n1 s1 Aa ca a1 r).ts.nodes = a1.ts.nodes + r.ts.nodes + 1 := rfl
  have hg1 : (Ts.cons k1 n1 s1 a1.ts .nil).good vars = true := by
   have := hg
   rw [hD, TA.app_ts, Ts.goals_app] at this
   simp only [TA.ts, Ts.goals, gB, Bool.and_eq_true] at this
   exact this.2.1.1.2
  have hA' : Und F (ArA A c (D.app (.cons k1 n1 s1 Aa ca a1 r))) := by rw [← hD]; exact hA
  obtain ⟨bk, ok, rfl⟩ := (hS.und hA').some_ (by rw [TA.len_app]; simp only [TA.len]; omega)
  have hcc : ∀ {H'} w', St M w0 H' F w' → _ := fun w' hS => (hS.und hA').cells
  have hsub : Und F (ArA Aa ca a1) := fun w hw => (hA' w hw).sub
  refine Zbp ?_
  refine Zaq ?_
  refine Za6 ?_
  refine Z2 ?_
  clear hS
  intro b1 wx1 hS
  refine Zb ?_
  clear hS
  intro wx2 hS
  refine Zc ?_
  refine Zm ?_
  refine Zz ?_
  refine ZaT ?_
  clear hS
  intro b2 wx3 hS
  refine lst_appI (L := [(((cs ++ (layL D.ts cs.length).1).length : Nat) : Int)]) hS (by conv=>lhs;whnf) (by rfl) rfl rfl rfl (Flat.own (sp := []) (hS.own (_, _) (.head _)) rfl (Nat.le_refl _)) hrowg (permC [_, _] Ou Og _) (by simp; omega) rfl ?_
  clear hS
  intro v7 O7 w7 hrow7 hS
  obtain ⟨B7, d7, rfl, _⟩ := hrow7.form
  replace hS := (hS.perm (permC [_, _] Ou O7 _).symm).drop
  refine Zf ?_
  refine Zag ?_
  refine Za6 ?_
  refine Zj ?_
  refine Calls.mono (store_said a1 M w0 _ F vars k1 n1 s1 Aa ca _ _ _ _ hsub hg1 (by omega) hrow (hS.perm (List.perm_append_comm_assoc [_] Ou _))) ?_
  rintro _ w6 ⟨A6, c6, O6, rfl, hrow6, hS'⟩
  refine Za ?_
  replace hS := hS'
  clear hS'
  replace hS := (hS.perm (List.perm_append_comm_assoc O6 [_] _)).drop
  have e1 : cs ++ (layL (D.ts.app (.cons k1 n1 s1 a1.ts .nil)) cs.length).1 = cs ++ (layL D.ts cs.length).1 ++ lay1 k1 n1 s1 a1.ts (cs ++ (layL D.ts cs.length).1).length := by
   rw [layL_app, List.length_append]; simp [layL]
  have e2 : (layL (D.ts.app (.cons k1 n1 s1 a1.ts .nil)) cs.length).2 = (layL D.ts cs.length).2 ++ [(((cs ++ (layL D.ts cs.length).1).length : Nat) : Int)] := by
   rw [layL_app, List.length_append]; simp [layL]
  refine Zan ?_
  refine ih (r) _ _ _ _ _ ?_ ?_ (by conv=>lhs;whnf) (by conv=>lhs;whnf) (by conv=>lhs;whnf) (by kernel_rfl)
  ·omega
  ·refine ⟨D.app (.cons k1 n1 s1 Aa ca a1 .nil), A6, B7, c6, d7, O6, O7, by rw [hD, TA.app_assoc]; rfl, by rw [TA.len_app]; rfl, ?_, ?_, ?_, ?_, hS⟩
   ·rw [TA.app_ts]; show _ = Value.slice _ (cs ++ (layL (D.ts.app (.cons k1 n1 s1 a1.ts .nil)) cs.length).1).length _; rw [e1]
   ·rw [TA.app_ts]; show _ = Value.slice _ (layL (D.ts.app (.cons k1 n1 s1 a1.ts .nil)) cs.length).2.length _; rw [e2]; simp
   ·rw [TA.app_ts]
    show Rw _ _ (Value.slice _ (cs ++ (layL (D.ts.app (.cons k1 n1 s1 a1.ts .nil)) cs.length).1).length _) (cs ++ (layL (D.ts.app (.cons k1 n1 s1 a1.ts .nil)) cs.length).1).length (hcsL (cs ++ (layL (D.ts.app (.cons k1 n1 s1 a1.ts .nil)) cs.length).1)) _
    rw [e1]; exact hrow6
   ·rw [TA.app_ts]
    show Rw _ _ (Value.slice _ (layL (D.ts.app (.cons k1 n1 s1 a1.ts .nil)) cs.length).2.length _) (layL (D.ts.app (.cons k1 n1 s1 a1.ts .nil)) cs.length).2.length (intsV (layL (D.ts.app (.cons k1 n1 s1 a1.ts .nil)) cs.length).2) _
    rw [e2, List.length_append]
    have : intsV ((layL D.ts cs.length).2 ++ [(((cs ++ (layL D.ts cs.length).1).length : Nat) : Int)]) = intsV (layL D.ts cs.length).2 ++ intsV [(((cs ++ (layL D.ts cs.length).1).length : Nat) : Int)] := by simp [intsV]
    rw [this]; exact hrow7
abbrev bv (A : Option Addr) (n c : Nat) (vars hd : Int) (B : Option Addr) (m d : Nat) : Value := .agg #[.slice A n c, .int .i64 vars, .int .i64 hd, .slice B m d]
theorem clauseC_ok (k n vars : Int) (s : ByteArray) (hd bd : TA) (A1 A2 : Option Addr) (c1 c2 : Nat) (w : World) (h1 : Und F (ArA A1 c1 hd)) (h2 : Und F (ArA A2 c2 bd)) (h1n : hd.len ≤ 9223372036854775807) (h1w : hd.ts.wide) (h2n : bd.len ≤ 9223372036854775807) (h2w : bd.ts.wide)
  (hc : cB ⟨k, n, s, hd.ts, bd.ts, vars⟩ = true) (hS : St M w0 H F w) :
  Calls Try.prog 40 #[.agg #[.int .i64 k, .int .i64 n, .string s, .slice A1 hd.len c1, .slice A2 bd.len c2, .int .i64 vars]] w fun e w' => ∃ (A' B' : Option Addr) (c' d' : Nat) (O O2 : List (Nat × Obj)), e = .returned (.tuple #[bv A' (blockC ⟨k, n, s, hd.ts, bd.ts, vars⟩).length c' vars vars B' (goalsC ⟨k, n, s, hd.ts, bd.ts, vars⟩).length d', .int .i64 0]) ∧
   Rw 74 3 (.slice A' (blockC ⟨k, n, s, hd.ts, bd.ts, vars⟩).length c') (blockC ⟨k, n, s, hd.ts, bd.ts, vars⟩).length (hcsL (blockC ⟨k, n, s, hd.ts, bd.ts, vars⟩)) O ∧ Rw 3 1 (.slice B' (goalsC ⟨k, n, s, hd.ts, bd.ts, vars⟩).length d') (goalsC ⟨k, n, s, hd.ts, bd.ts, vars⟩).length (intsV (goalsC ⟨k, n, s, hd.ts, bd.ts, vars⟩)) O2 ∧ St M w0 (O ++ (O2 ++ H)) F w' := by
 have hgc := fun w (hS : Sl w (fun _ => True) (.slice A1 hd.len c1) hd.ts ∧ Sl w (fun _ => True) (.slice A2 bd.len c2) bd.ts) => goodClauseW_any ⟨k, n, s, hd.ts, bd.ts, vars⟩ (.slice A1 hd.len c1) (.slice A2 bd.len c2) w hS.1 hS.2 (by rw [TA.len_ts]; exact h1n) h1w (by rw [TA.len_ts]; exact h2n) h2w
 rw [hc] at hgc
 obtain ⟨g0, g1, g2, g3, g4⟩ := cB_iff hc
 dsimp only at g0 g1 g2 g3 g4
 have g5 := gB_nodes g4
 have g6 := Ts.goals_nodes _ _ g3
 have g7 : (Ts.cons k n s hd.ts .nil).good vars = true := by
  simp only [gB, Bool.and_eq_true] at g4; exact g4.1.2
 obtain ⟨v, rfl⟩ : ∃ v : Nat, vars = (v : Nat) := ⟨vars.toNat, by omega⟩
 have e1 : blockC ⟨k, n, s, hd.ts, bd.ts, ((v : Nat) : Int)⟩ = (varsB v ++ lay1 k n s hd.ts (varsB v).length) ++ (layL bd.ts (varsB v ++ lay1 k n s hd.ts (varsB v).length).length).1 := by
  simp only [blockC, Int.toNat_natCast, varsB_len, List.length_append, List.append_assoc]
 have e2 : goalsC ⟨k, n, s, hd.ts, bd.ts, ((v : Nat) : Int)⟩ = (layL bd.ts (varsB v ++ lay1 k n s hd.ts (varsB v).length).length).2 := by
  simp only [goalsC, Int.toNat_natCast, varsB_len, List.length_append]
 rw [e1, e2]
 have hle := lay1_le k n s hd.ts (varsB v).length
 have hvl := varsB_len v
 have hal : (varsB v ++ lay1 k n s hd.ts (varsB v).length).length = v + (lay1 k n s hd.ts (varsB v).length).length := by rw [List.length_append, hvl]
 refine goes_enter1 Try.func40 rfl Try.ntmps40 rfl ?_
 refine Ze ?_
 clear hS
 intro b1 wx1 hS
 refine Z2 ?_
 clear hS
 intro b2 wx2 hS
 refine ZN ?_
 refine Zd ?_
 first
  | refine lst_run (run_loadN_own (k := 6) hS rfl rfl rfl (by first | exact .head | exact .tail .head | exact .tail (.tail .head) | exact .tail (.tail (.tail .head)) | exact .tail (.tail (.tail (.tail .head))) | exact .tail (.tail (.tail (.tail (.tail .head))))) (by repeat constructor)) rfl ?_
  | refine lst_run (run_loadN_own (k := 6) hS rfl rfl rfl (by first | exact .head | exact .tail .head | exact .tail (.tail .head) | exact .tail (.tail (.tail .head)) | exact .tail (.tail (.tail (.tail .head))) | exact .tail (.tail (.tail (.tail (.tail .head))))) (by assumption)) rfl ?_
  | refine lst_run (run_load6 rfl rfl rfl (by first | assumption | exact (hcc _ hS).1 | exact (hcc _ hS).2.1 | exact (hcc _ hS).2.2.1 | exact (hcc _ hS).2.2.2 | exact hS.cell0 (by assumption)) (by first | assumption | exact (hcc _ hS).1 | exact (hcc _ hS).2.1 | exact (hcc _ hS).2.2.1 | exact (hcc _ hS).2.2.2 | exact hS.cell0 (by assumption)) (by first | assumption | exact (hcc _ hS).1 | exact (hcc _ hS).2.1 | exact (hcc _ hS).2.2.1 | exact (hcc _ hS).2.2.2 | exact hS.cell0 (by assumption)) (by first | assumption | exact (hcc _ hS).1 | exact (hcc _ hS).2.1 | exact (hcc _ hS).2.2.1 | exact (hcc _ hS).2.2.2 | exact hS.cell0 (by assumption)) (by first | assumption | exact (hcc _ hS).1 | exact (hcc _ hS).2.1 | exact (hcc _ hS).2.2.1 | exact (hcc _ hS).2.2.2 | exact hS.cell0 (by assumption)) (by first | assumption | exact (hcc _ hS).1 | exact (hcc _ hS).2.1 | exact (hcc _ hS).2.2.1 | exact (hcc _ hS).2.2.2 | exact hS.cell0 (by assumption))) rfl ?_
 refine Zp ?_
 refine Calls.mono (hgc _ ⟨(hS.und h1).sl, (hS.und h2).sl⟩) ?_
 rintro _ w2 ⟨rfl, hb2⟩
 refine Za ?_
 replace hS := hS.grow hb2
 refine Zam ?_
 refine Zd ?_
 refine Zdi ?_
 refine ZbP ?_
 refine Zp ?_
 refine Calls.mono (variables_any v (by omega) _ hS) ?_
 rintro _ w3 ⟨A3, c3, O3, rfl, hrow3, hS'⟩
 refine Za ?_
 replace hS := hS'
 clear hS'
 replace hS := hS.perm (List.perm_append_comm_assoc O3 [_, _] _)
 refine Zaa ?_
 refine Zz ?_
 refine Zaa ?_
 refine ZL ?_
 refine Za6 ?_
 refine Zj ?_
 refine Calls.mono (store_said hd M w0 _ F ((v : Nat) : Int) k n s A1 c1 _ _ _ _ h1 g7 (by omega) hrow3 (hS.perm (List.perm_append_comm_assoc [_, _] O3 _))) ?_
 rintro _ w4 ⟨A4, c4, O4, rfl, hrow4, hS'⟩
 refine Za ?_
 replace hS := hS'
 clear hS'
 replace hS := hS.perm (List.perm_append_comm_assoc O4 [_, _] _)
 refine Zaa ?_
 refine lst_run (run_fieldAddr (off := 4) rfl rfl) rfl ?_
 refine ZbP ?_
 refine Zj ?_
 refine Calls.mono (storeAll_any bd ((v : Nat) : Int) A2 c2 _ _ O4 _ h2 g3 (by omega) hrow4 (hS.perm (List.perm_append_comm_assoc [_, _] O4 _))) ?_
 rintro _ w5 ⟨A5, B5, c5, d5, O5, O6, rfl, hrow5, hrow6, hS'⟩
 refine Za ?_
 replace hS := hS'
 clear hS'
 replace hS := hS.perm ((List.Perm.append_left O5 (List.perm_append_comm_assoc O6 [_, _] H)).trans (List.perm_append_comm_assoc O5 [_, _] _))
 refine Zaf ?_
 refine Zv ?_
 refine Zq ?_
 refine Zdi ?_
 refine ZbP ?_
 refine ZO ?_
 refine Zew ?_
 refine Zb ?_
 clear hS
 intro wx3 hS
 refine Zf ?_
 refine goes_retC2 (sz := 4) hS Try.func40 rfl rfl (by conv=>lhs;whnf) rfl rfl (by first | exact .head | exact .tail .head | exact .tail (.tail .head) | exact .tail (.tail (.tail .head)) | exact .tail (.tail (.tail (.tail .head))) | exact .tail (.tail (.tail (.tail (.tail .head))))) (by repeat constructor) ?_
 refine ⟨A5, B5, c5, d5, O5, O6, ?_, hrow5, hrow6, hS.drop.drop⟩
 rw [hvl]
theorem qB_iff {vars : Int} {T : Ts} (h : qB vars T = true) : 0 ≤ vars ∧ vars ≤ 8 ∧ T.length ≤ 5 ∧ T.goals vars = true := by
 simp only [qB, Bool.and_eq_true, decide_eq_true_eq] at h
 exact ⟨h.1.1.1, h.1.1.2, h.1.2, h.2⟩
theorem queryC_ok (vars : Int) (T : TA) (A1 : Option Addr) (c1 : Nat) (w : World) (h1 : Und F (ArA A1 c1 T)) (h1n : T.len ≤ 9223372036854775807) (h1w : T.ts.wide) (hc : qB vars T.ts = true) (hS : St M w0 H F w) :
  Calls Try.prog 74 #[.slice A1 T.len c1, .int .i64 vars] w fun e w' => ∃ (A' B' : Option Addr) (c' d' : Nat) (O O2 : List (Nat × Obj)), e = .returned (.tuple #[bv A' (blockQ vars T.ts).length c' vars (-1) B' (goalsQ vars T.ts).length d', .int .i64 0]) ∧
   Rw 74 3 (.slice A' (blockQ vars T.ts).length c') (blockQ vars T.ts).length (hcsL (blockQ vars T.ts)) O ∧ Rw 3 1 (.slice B' (goalsQ vars T.ts).length d') (goalsQ vars T.ts).length (intsV (goalsQ vars T.ts)) O2 ∧ St M w0 (O ++ (O2 ++ H)) F w' := by
 have hgc := fun w hS => goodQueryW_any vars T.ts (.slice A1 T.len c1) w hS (by rw [TA.len_ts]; exact h1n) h1w
 rw [hc] at hgc
 obtain ⟨g0, g1, g2, g3⟩ := qB_iff hc
 have g6 := Ts.goals_nodes _ _ g3
 obtain ⟨v, rfl⟩ : ∃ v : Nat, vars = (v : Nat) := ⟨vars.toNat, by omega⟩
 have hvl := varsB_len v
 have e1 : blockQ ((v : Nat) : Int) T.ts = varsB v ++ (layL T.ts (varsB v).length).1 := by simp only [blockQ, Int.toNat_natCast, varsB_len]
 have e2 : goalsQ ((v : Nat) : Int) T.ts = (layL T.ts (varsB v).length).2 := by simp only [goalsQ, Int.toNat_natCast, varsB_len]
 rw [e1, e2]
 refine goes_enter2 Try.func74 rfl Try.ntmps74 rfl ?_
 refine Zd ?_
 refine Z2 ?_
 clear hS
 intro b1 wx1 hS
 refine Zx ?_
 refine Zab ?_
 refine Calls.mono (hgc _ (hS.und h1).sl) ?_
 rintro _ w2 ⟨rfl, hb2⟩
 refine Za ?_
 replace hS := hS.grow hb2
 refine Zam ?_
 refine ZaO ?_
 refine Calls.mono (variables_any v (by omega) _ hS) ?_
 rintro _ w3 ⟨A3, c3, O3, rfl, hrow3, hS'⟩
 refine Za ?_
 replace hS := hS'
 clear hS'
 replace hS := hS.perm (List.perm_append_comm_assoc O3 [_] _)
 refine Zab ?_
 refine Calls.mono (storeAll_any T ((v : Nat) : Int) A1 c1 _ _ O3 _ h1 g3 (by omega) hrow3 (hS.perm (List.perm_append_comm_assoc [_] O3 _))) ?_
 rintro _ w5 ⟨A5, B5, c5, d5, O5, O6, rfl, hrow5, hrow6, hS'⟩
 refine Za ?_
 replace hS := hS'
 clear hS'
 replace hS := hS.perm ((List.Perm.append_left O5 (List.perm_append_comm_assoc O6 [_] H)).trans (List.perm_append_comm_assoc O5 [_] _))
 refine Zaf ?_
 refine Zb1 ?_
 refine Zg ?_
 refine Zew ?_
 refine Zb ?_
 clear hS
 intro wx2 hS
 refine Zf ?_
 refine goes_retC2 (sz := 4) hS Try.func74 rfl rfl (by conv=>lhs;whnf) rfl rfl (by first | exact .head | exact .tail .head | exact .tail (.tail .head) | exact .tail (.tail (.tail .head)) | exact .tail (.tail (.tail (.tail .head))) | exact .tail (.tail (.tail (.tail (.tail .head))))) (by repeat constructor) ?_
 exact ⟨A5, B5, c5, d5, O5, O6, rfl, hrow5, hrow6, hS.drop⟩
end
end Go.Proofs.Ythliapbflkfdiab
namespace Go.Proofs.Ythliapbflkfdiab
open Go.RowKit
set_option linter.unusedVariables false
set_option linter.unusedSimpArgs false
set_option maxRecDepth 100000
set_option maxHeartbeats 1000000
theorem perm_out {α : Type} (L O O2 O3 H : List α) : (L ++ (O ++ (O2 ++ (O3 ++ H)))).Perm (O3 ++ (L ++ (O ++ (O2 ++ H)))) :=
 ((List.Perm.append_left L ((List.Perm.append_left O (List.perm_append_comm_assoc O2 O3 H)).trans (List.perm_append_comm_assoc O O3 _)))).trans (List.perm_append_comm_assoc L O3 _)
theorem perm_out2 {α : Type} (L O O2 H : List α) : (L ++ (O ++ (O2 ++ H))).Perm (O2 ++ (L ++ (O ++ H))) :=
 (List.Perm.append_left L (List.perm_append_comm_assoc O O2 H)).trans (List.perm_append_comm_assoc L O2 _)
theorem varsM_succ (B : Bnd) (m v l : Nat) : varsM B (m + 1) v l = (appM B 201 ⟨0, v, ⟨#[]⟩, .nil⟩ l).bind fun p => (varsM B m (v + 1) p.2).map fun q => (.cons p.1.k p.1.n p.1.s p.1.ar q.1, q.2) := by
 simp only [varsM]
 cases appM B 201 ⟨0, v, ⟨#[]⟩, .nil⟩ l with
 | none => rfl
 | some p =>
  simp only [Option.bind_some]
  cases varsM B m (v + 1) p.2 <;> rfl
theorem varsM_nodes {B : Bnd} : ∀ (m v l : Nat) (p : Ts × Nat), varsM B m v l = some p → p.1.nodes + p.2 = l ∧ p.1.length = m
 | 0, v, l, p, h => by
  simp only [varsM, Option.some.injEq] at h
  subst h
  exact ⟨by simp [Ts.nodes], rfl⟩
 | m + 1, v, l, p, h => by
  rw [varsM_succ] at h
  cases h1 : appM B 201 ⟨0, v, ⟨#[]⟩, .nil⟩ l with
  | none => rw [h1] at h; cases h
  | some q =>
   rw [h1, Option.bind_some] at h
   cases h2 : varsM B m (v + 1) q.2 with
   | none => rw [h2] at h; cases h
   | some x =>
    rw [h2, Option.map_some, Option.some.injEq] at h
    subst h
    have := app_nodes _ _ _ _ h1
    obtain ⟨i1, i2⟩ := varsM_nodes m (v + 1) q.2 x h2
    simp only [Ts.nodes, Ts.length]
    omega
section
variable {M : List Nat} {w0 : World} {H : List (Nat × Obj)} {F0 F : List (World → Prop)} {b : Nat} {P : List LC} {pA : Option Addr} {pc vars : Nat}
end
end Go.Proofs.Ythliapbflkfdiab
namespace Go.Proofs.Ythliapbflkfdiab
open Go.RowKit
set_option linter.unusedVariables false
set_option linter.unusedSimpArgs false
set_option maxRecDepth 100000
set_option maxHeartbeats 1000000
section
variable {M : List Nat} {w0 : World} {H : List (Nat × Obj)} {F0 : List (World → Prop)} {b : Nat} {P : List LC} {pA : Option Addr} {pc vars : Nat}
end
end Go.Proofs.Ythliapbflkfdiab
namespace Go.Proofs.Ythliapbflkfdiab
open Go.RowKit
set_option linter.unusedVariables false
set_option linter.unusedSimpArgs false
set_option maxRecDepth 100000
set_option maxHeartbeats 1000000
structure KE where
 k : Int
 A : Option Addr
 c : Nat
 T : TA
def KE.ev (x : KE) : Ev := (x.k, x.T.ts)
abbrev kecs (x : KE) : List Value := [.int .i64 x.k, .slice x.A x.T.len x.c]
def keL : List KE → List Value
 | [] => []
 | x :: r => kecs x ++ keL r
theorem keL_app (a b : List KE) : keL (a ++ b) = keL a ++ keL b := by
 induction a with
 | nil => rfl
 | cons c r ih => simp [keL, ih]
theorem evL_ke (l : List LE) : evL l = keL (l.map fun e => ⟨1, e.A, e.c, e.T⟩) := by
 induction l with
 | nil => rfl
 | cons c r ih => simp [evL, keL, ih]
def KEAt (w : World) (b : Nat) : List KE → Nat → Prop
 | [], _ => True
 | x :: r, o => w.cell? ⟨b, o, none⟩ = some (.int .i64 x.k) ∧ w.cell? ⟨b, o + 1, none⟩ = some (.slice x.A x.T.len x.c) ∧ KEAt w b r (o + 2)
def KER (L : List KE) (A : Option Addr) (c : Nat) (w : World) : Prop := L.length ≤ c ∧ (0 < L.length → ∃ b o, A = some ⟨b, o, none⟩ ∧ KEAt w b L o) ∧ ∀ x ∈ L, ArA x.A x.c x.T w
theorem KEAt.skip {w : World} {b : Nat} {R : List KE} : ∀ {D : List KE} {o : Nat}, KEAt w b (D ++ R) o → KEAt w b R (o + D.length * 2)
 | [], o, h => by simpa using h
 | c :: D, o, ⟨_, _, h⟩ => by
  have := KEAt.skip (R := R) (D := D) h
  rwa [show o + 2 + D.length * 2 = o + (c :: D).length * 2 by simp; omega] at this
theorem KER.some_ {L : List KE} {A : Option Addr} {c : Nat} {w : World} (h : KER L A c w) (hl : 0 < L.length) : ∃ b o, A = some ⟨b, o, none⟩ := by
 obtain ⟨b, o, e, _⟩ := h.2.1 hl
 exact ⟨b, o, e⟩
theorem KER.cells {D R : List KE} {x : KE} {b o c : Nat} {w : World} (h : KER (D ++ x :: R) (some ⟨b, o, none⟩) c w) : w.cell? ⟨b, o + D.length * 2, none⟩ = some (.int .i64 x.k) ∧ w.cell? ⟨b, o + D.length * 2 + 1, none⟩ = some (.slice x.A x.T.len x.c) := by
 obtain ⟨b', o', e, hs⟩ := h.2.1 (by simp; omega)
 simp only [Option.some.injEq, Addr.mk.injEq, and_true] at e
 obtain ⟨rfl, rfl⟩ := e
 obtain ⟨h0, h1, _⟩ := hs.skip
 exact ⟨h0, h1⟩
theorem keAt_of {w : World} {b : Nat} : ∀ {L : List KE} {o : Nat}, (∀ j u, (keL L)[j]? = some u → w.cell? ⟨b, o + j, none⟩ = some u) → KEAt w b L o
 | [], _, _ => trivial
 | c :: r, o, h => ⟨h 0 _ rfl, h 1 _ rfl, keAt_of fun j u hu => by
     rw [show o + 2 + j = o + (j + 2) by omega]
     exact h (j + 2) u (by simpa [keL] using hu)⟩
theorem St.freezeK {M : List Nat} {w0 w : World} {H O : List (Nat × Obj)} {F : List (World → Prop)} {el : Nat} {A : Option Addr} {c : Nat} {L : List KE} (hr : Row el 2 (.slice A L.length c) L.length (keL L) O) (hR : ∀ x ∈ L, Und F (ArA x.A x.c x.T)) (hS : St M w0 (O ++ H) F w) :
  ∃ F', (∀ φ ∈ F, φ ∈ F') ∧ Und F' (KER L A c) ∧ St M w0 H F' w := by
 obtain ⟨F', h1, h2, h3⟩ := St.freezeL hS
 refine ⟨F', h1, fun w' hw' => ⟨hr.cap, fun hl => ?_, fun x hx => (hR x hx).mono h1 w' hw'⟩, h3⟩
 obtain ⟨g, sp, rfl, rfl, _⟩ := hr.some_ hl
 refine ⟨g, 0, rfl, keAt_of fun j u hu => ?_⟩
 have hjl : j < (keL L).length := by
  rcases Nat.lt_or_ge j (keL L).length with hh | hh
  ·exact hh
  ·rw [List.getElem?_eq_none hh] at hu; cases hu
 rw [cell_own (h2 _ (.head _) w' hw'), Nat.zero_add, List.getElem?_append_left hjl]; exact hu
section
variable {M : List Nat} {w0 : World} {H : List (Nat × Obj)} {F : List (World → Prop)}
theorem runM_succ (p : List Cl) (vars n : Nat) (s : SS) : runM p vars (n + 1) s = if (stepM p vars s).1 = 0 then runM p vars n (stepM p vars s).2 else evsOf (stepM p vars s).2.ev ++ [((stepM p vars s).1, .nil)] := rfl
end
end Go.Proofs.Ythliapbflkfdiab
