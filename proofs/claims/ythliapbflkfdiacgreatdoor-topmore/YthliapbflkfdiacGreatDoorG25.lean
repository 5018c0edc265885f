/- Steps of the proof. -/
import Derived.Test.YthliapbflkfdiacGreatDoorG24
namespace Go.Proofs.YthliapbflkfdiacGreatDoor
open Go.RowKit
set_option linter.unusedVariables false
set_option linter.unusedSimpArgs false
set_option maxRecDepth 100000
set_option maxHeartbeats 1000000
abbrev cvv (c : HC) : Value := .agg #[.int .i64 c.k, .int .i64 c.n, .string c.s]
section
variable {M : List Nat} {w0 : World} {H : List (Nat × Obj)} {F : List (World → Prop)}
theorem Qmy (i : Int) (w : World) (hS : St M w0 H F w) :
  Calls Tryz.prog 137 #[.int .i64 i] w fun e w' => e = .returned (cvv ⟨0, i, eS⟩) ∧ St M w0 H F w' := by
 refine Qh Tryz.func137 rfl Tryz.ntmps137 rfl ?_
 refine Zg ?_
 refine Zaa ?_
 clear hS
 intro b1 wx1 hS
 refine Zbn ?_
 refine Zes ?_
 refine Zd ?_
 clear hS
 intro wx2 hS
 refine Zb ?_
 refine QdY (sz := 3) hS Tryz.func137 rfl rfl rfl rfl (by first | exact .head | exact .tail .head | exact .tail (.tail .head) | exact .tail (.tail (.tail .head)) | exact .tail (.tail (.tail (.tail .head))) | exact .tail (.tail (.tail (.tail (.tail .head))))) Yf ?_
 exact ⟨rfl, hS.drop⟩
theorem QiQ (k n : Int) (s : ByteArray) (A : Option Addr) (l c : Nat) (w : World) (hS : St M w0 H F w) :
  Calls Tryz.prog 138 #[.agg #[.int .i64 k, .int .i64 n, .string s, .slice A l c]] w fun e w' => e = .returned (cvv (Qdj k n s)) ∧ St M w0 H F w' := by
 refine Qh Tryz.func138 rfl Tryz.ntmps138 rfl ?_
 by_cases h0 : k = 0
 ·subst h0
  refine Zi ?_
  clear hS
  intro b1 wx1 hS
  refine Zaa ?_
  clear hS
  intro b2 wx2 hS
  refine Zdp ?_
  refine Zbw ?_
  refine Zb1 ?_
  refine Zk ?_
  refine Calls.mono (Qmy n _ hS) ?_
  rintro _ w2 ⟨rfl, hS'⟩
  refine Za ?_
  replace hS := hS'
  clear hS'
  refine Zd ?_
  clear hS
  intro wx3 hS
  refine Zb ?_
  refine Zfa ?_
  exact ⟨rfl, hS.drop.drop⟩
 by_cases h2 : k = 2
 ·subst h2
  refine Zi ?_
  clear hS
  intro b1 wx1 hS
  refine Zaa ?_
  clear hS
  intro b2 wx2 hS
  refine Zdp ?_
  refine Zbw ?_
  refine Zar ?_
  refine Zb1 ?_
  refine Zes ?_
  refine Zd ?_
  clear hS
  intro wx3 hS
  refine Zb ?_
  refine Zfa ?_
  exact ⟨rfl, hS.drop.drop⟩
 have e : Qdj k n s = ⟨1, 0, s⟩ := by unfold Qdj; rw [if_neg h0, if_neg h2]
 rw [e]
 refine Zi ?_
 clear hS
 intro b1 wx1 hS
 refine Zaa ?_
 clear hS
 intro b2 wx2 hS
 refine Zdp ?_
 refine Zbw ?_
 refine Zar ?_
 refine Zar ?_
 refine ZbD ?_
 refine Zg ?_
 refine Zby ?_
 refine Zes ?_
 refine Zd ?_
 clear hS
 intro wx3 hS
 refine Zb ?_
 refine Zfa ?_
 exact ⟨rfl, hS.drop.drop⟩
theorem Qe1 (n : Nat) (hn : n ≤ 1000) (w : World) (hS : St M w0 H F w) :
  Calls Tryz.prog 87 #[.int .i64 (n : Nat)] w fun e w' => ∃ (A : Option Addr) (c : Nat) (O : List (Nat × Obj)), e = .returned (.slice A (QbT n).length c) ∧ Rw 104 3 (.slice A (QbT n).length c) (QbT n).length (Q6 (QbT n)) O ∧ St M w0 (O ++ H) F w' := by
 rw [Qab]
 refine Qh Tryz.func87 rfl Tryz.ntmps87 rfl ?_
 refine Za9 ?_
 refine QgP (k := n) (sz := 3) (bts := 32) hS rfl rfl rfl rfl Ya Ya rfl ?_
 clear hS
 intro b w2 cs hcl hS
 refine ZbN ?_
 refine Qo 9 (10 :: 11 :: 4 :: 12 :: 13 :: 14 :: 15 :: 16 :: 17 :: []) (fun (m : Nat) v w' => ∃ (i : Nat) (sp : List Value), i + m = n ∧ v = .int .i64 (i : Nat) ∧ sp.length = m * 3 ∧ St M w0 ((b, .cells (Q6 (Qcz i 0) ++ sp).toArray 104) :: H) F w') (fun m => m) (n) ?_ Yb ?_
 ·exact ⟨0, cs, by omega, rfl, hcl, hS⟩
 clear hS
 rintro m _ w3 jv ⟨i, sp, him, rfl, hsp, hS⟩ ih
 cases m with
 | zero =>
  obtain rfl : i = n := by omega
  obtain rfl : sp = [] := List.eq_nil_of_length_eq_zero Ya
  refine Zb9 ?_
  refine Qc Tryz.func87 rfl Yb ?_
  by_cases h0 : i = 0
  ·subst h0
   exact ⟨_, _, [], rfl, Rw.zero_, hS.drop⟩
  ·refine ⟨_, _, [(b, Obj.cells (Q6 (Qcz i 0) ++ ([] : List Value)).toArray 104)], rfl, Rw.own_ (xs := Q6 (Qcz i 0)) (sp := []) ?_ ?_ (Nat.le_refl _) Ya, hS⟩
   ·rw [Q9, Qdy]
   ·rw [List.append_nil, Q9, Qdy]
 | succ m =>
  obtain ⟨a0, a1, a2, sp, rfl⟩ : ∃ a0 a1 a2 r, sp = a0 :: a1 :: a2 :: r := by
   match sp, hsp with
   | a0 :: a1 :: a2 :: r, _ => exact ⟨a0, a1, a2, r, rfl⟩
   | [], h => simp at h
   | [_], h => simp at h; omega
   | [_, _], h => simp at h; omega
  refine ZaY ?_
  refine Z1 ?_
  refine Ze ?_
  refine Zk ?_
  refine Calls.mono (Qmy ((i : Nat) : Int) _ hS) ?_
  rintro _ w4 ⟨rfl, hS'⟩
  refine Za ?_
  replace hS := hS'
  clear hS'
  refine ZaI ?_
  have hlen := Q9 (Qcz i 0)
  have hvl := Qdy i 0
  refine Qed hS rfl (by rfl) rfl rfl .head (QgL (Q6 (Qcz i 0)) [a0, a1, a2] (hcs ⟨0, ((i : Nat) : Int), eS⟩) sp _ Ya rfl) .head ?_
  clear hS
  intro w5 hS
  refine Zam ?_
  refine ih (m) _ _ _ ?_ ?_ Yb Yc
  ·omega
  ·refine ⟨i + 1, sp, by omega, by simp, by simp only [List.length_cons] at hsp; omega, ?_⟩
   rw [QiK, QbG, Nat.zero_add]
   have e1 : Q6 (Qcz i 0) ++ Q6 [⟨0, ((i : Nat) : Int), eS⟩] ++ sp = Q6 (Qcz i 0) ++ (hcs ⟨0, ((i : Nat) : Int), eS⟩ ++ sp) := by simp [Q6, hcs]
   rw [e1]; exact hS
end
theorem Qt1 {α : Type} (P Q : List α) (z c : α) : (P ++ z :: Q).set P.length c = P ++ c :: Q := by
 induction P with
 | nil => rfl
 | cons p P ih => simp only [List.cons_append, List.length_cons, List.set_cons_succ, ih]
def Qds (cs : List HC) (s : ByteArray) (l : Nat) (D : Ts) (m : Nat) : List HC := cs ++ (⟨3, (l : Nat), s⟩ :: ((Qbx D (cs.length + 1 + l)).1 ++ (List.replicate m zC ++ (Qbx D (cs.length + 1 + l)).2)))
theorem QjV (cs : List HC) (s : ByteArray) (l : Nat) (D : Ts) (m : Nat) : (Qds cs s l D m).length = cs.length + 1 + D.length + m + (Qbx D (cs.length + 1 + l)).2.length := by
 simp only [Qds, List.length_append, List.length_cons, List.length_replicate, Qb8]; omega
theorem QnH (cs : List HC) (s : ByteArray) (l : Nat) (D : Ts) (m : Nat) (c : HC) : (Qds cs s l D (m + 1)).set (cs.length + 1 + D.length) c = cs ++ (⟨3, (l : Nat), s⟩ :: ((Qbx D (cs.length + 1 + l)).1 ++ (c :: (List.replicate m zC ++ (Qbx D (cs.length + 1 + l)).2)))) := by
 have h := Qt1 (cs ++ (⟨3, (l : Nat), s⟩ :: (Qbx D (cs.length + 1 + l)).1)) (List.replicate m zC ++ (Qbx D (cs.length + 1 + l)).2) zC c
 have hl : (cs ++ (⟨3, (l : Nat), s⟩ :: (Qbx D (cs.length + 1 + l)).1)).length = cs.length + 1 + D.length := by simp only [List.length_append, List.length_cons, Qb8]; omega
 rw [hl] at h
 have e1 : Qds cs s l D (m + 1) = (cs ++ (⟨3, (l : Nat), s⟩ :: (Qbx D (cs.length + 1 + l)).1)) ++ zC :: (List.replicate m zC ++ (Qbx D (cs.length + 1 + l)).2) := by
  simp only [Qds, List.replicate_succ, List.append_assoc, List.cons_append]
 rw [e1, h]
 simp only [List.append_assoc, List.cons_append]
theorem Qst (cs : List HC) (s1 : ByteArray) (l : Nat) (D : Ts) (m : Nat) {k : Int} (n : Int) (s : ByteArray) (ar : Ts) (hk : k ≠ 3) : (Qds cs s1 l D (m + 1)).set (cs.length + 1 + D.length) (Qdj k n s) = Qds cs s1 l (D.app (.cons k n s ar .nil)) m := by
 rw [QnH]
 unfold Qds
 rw [QnS, Qbp _ _ _ _ _ hk]
 simp [Qbx]
theorem Qqz (cs : List HC) (s1 : ByteArray) (l : Nat) (D : Ts) (m : Nat) (n : Int) (s : ByteArray) (ar : Ts) (hl : l = D.length + (m + 1)) : (Qds cs s1 l D (m + 1)).set (cs.length + 1 + D.length) ⟨0, ((Qds cs s1 l D (m + 1)).length : Nat), eS⟩ ++ Qb2 3 n s ar (Qds cs s1 l D (m + 1)).length = Qds cs s1 l (D.app (.cons 3 n s ar .nil)) m := by
 have hp : (Qds cs s1 l D (m + 1)).length = cs.length + 1 + l + (Qbx D (cs.length + 1 + l)).2.length := by rw [QjV]; omega
 rw [QnH, hp]
 unfold Qds Qb2
 rw [QnS, Qcm, if_pos rfl]
 simp [Qbx]
theorem QoR (cs : List HC) (s : ByteArray) (l : Nat) : Qds cs s l .nil l = (cs ++ [⟨3, (l : Nat), s⟩]) ++ List.replicate l zC := by simp [Qds, Qbx]
theorem Qsu (cs : List HC) (n : Int) (s : ByteArray) (T : Ts) : Qds cs s T.length T 0 = cs ++ Qb2 3 n s T cs.length := by
 unfold Qds Qb2 Qls
 rw [if_pos rfl]
 simp
def QfK (T : TA) : Prop := ∀ (M : List Nat) (w0 : World) (H : List (Nat × Obj)) (F : List (World → Prop)) (vars k n : Int) (s : ByteArray) (A : Option Addr) (c : Nat) (cs : List HC) (v : Value) (O : List (Nat × Obj)) (w : World),
 Und F (ArA A c T) → (Ts.cons k n s T.ts .nil).good vars = true → cs.length + 2 * T.ts.nodes + 2 ≤ 1000000 → Rw 104 3 v cs.length (Q6 cs) O → St M w0 (O ++ H) F w →
  Calls Tryz.prog 88 #[v, .agg #[.int .i64 k, .int .i64 n, .string s, .slice A T.len c]] w fun e w' => ∃ (A' : Option Addr) (c' : Nat) (O' : List (Nat × Obj)), e = .returned (.slice A' (cs ++ Qb2 k n s T.ts cs.length).length c') ∧
   Rw 104 3 (.slice A' (cs ++ Qb2 k n s T.ts cs.length).length c') (cs ++ Qb2 k n s T.ts cs.length).length (Q6 (cs ++ Qb2 k n s T.ts cs.length)) O' ∧ St M w0 (O' ++ H) F w'
theorem Qnq (T : TA) (ihT : ∀ U : TA, U.ts.nodes < T.ts.nodes → QfK U) : QfK T := by
 intro M w0 H F vars k n s A c cs v O w hA hg hb hrow hS
 obtain ⟨A1, c1, rfl, hc1⟩ := hrow.form
 have hln := Ts.length_le T.ts
 rw [TA.len_ts] at hln
 refine Qg Tryz.func88 rfl Tryz.ntmps88 rfl ?_
 by_cases hk : k = 3
 ·subst hk
  have hTl : 1 ≤ T.len := by
   rcases Qea (QbP hg).1 with h | h | h | h
   ·omega
   ·omega
   ·omega
   ·rw [← TA.len_ts]; omega
  refine Zi ?_
  clear hS
  intro b1 wx1 hS
  refine ZcT ?_
  refine Zy ?_
  refine Zq ?_
  refine Zm ?_
  refine ZaQ ?_
  refine Zo ?_
  refine Zs ?_
  refine Zby ?_
  refine Qa (QN (cells := [_, _, _]) (.cons Yb (.cons Yb (.cons Yb .nil))) rfl) rfl ?_
  refine ZcI ?_
  clear hS
  intro b2 wx2 hS
  refine Qee (L := [⟨3, (T.len : Nat), s⟩]) hS Yb (by rfl) rfl rfl rfl (Qz.own (sp := []) (hS.own (_, _) (.head _)) rfl (Nat.le_refl _)) hrow (List.perm_append_comm_assoc [_, _] O _) Yh rfl ?_
  clear hS
  intro v7 O7 w7 hrow7 hS
  change Rw _ _ _ (cs.length + 1) _ _ at hrow7
  obtain ⟨B7, d7, rfl, _⟩ := hrow7.form
  replace hS := (hS.perm (List.perm_append_comm_assoc O7 [_, _] _)).drop
  refine Z2 ?_
  refine Zs ?_
  refine Z2 ?_
  refine ZaQ ?_
  refine Zo ?_
  refine Zs ?_
  obtain ⟨i, z, i2, i3, i4, i5, i6⟩ := Qa0 (P := Tryz.prog) (el := 104) (sz := 3) (bts := 32) rfl
  have hzc : z.cells = #[.int .i64 0, .int .i64 0, .string eS] := by
   have : QjB Tryz.prog 104 = some (.agg #[.int .i64 0, .int .i64 0, .string eS]) := by kernel_rfl
   unfold QjB at this
   rw [i2] at this
   simp only [Option.bind_some] at this
   rw [i3] at this
   rw [Option.some.inj this]; rfl
  refine QsA (k := T.len) (zs := Q6 (List.replicate T.len zC)) (ki := .i64) hS Yb (by rfl) rfl rfl i2 i3 i4 Ya (by rw [hzc]; exact Qm9 _) (fun u hu => List.all_eq_true.1 (QgT _) u hu) (by rw [i5]; exact hrow7) Ya hTl (List.perm_append_comm_assoc [_] O7 _) (by rw [i6]; omega) Ya rfl ?_
  rw [i5]
  clear hS
  intro v8 O8 w8 hrow8 hS
  obtain ⟨B8, d8, rfl, _⟩ := hrow8.form
  replace hS := hS.perm (List.perm_append_comm_assoc O8 [_] _)
  clear i2 i3 i4 i5 i6 hzc
  have e8 : (Qds cs s T.len .nil T.len).length = cs.length + 1 + T.len := by rw [QjV]; simp [Ts.length, Qbx]
  have hrow9 : Rw 104 3 (.slice B8 (Qds cs s T.len .nil T.len).length d8) (Qds cs s T.len .nil T.len).length (Q6 (Qds cs s T.len .nil T.len)) O8 := by
   rw [e8, QoR, QbG, QbG]; exact hrow8
  refine Z0 ?_
  refine Zg ?_
  refine ZaQ ?_
  refine Zo ?_
  refine Z6 ?_
  refine QaB 35 0 (36 :: 37 :: 38 :: 39 :: 7 :: 6 :: 40 :: 41 :: 42 :: 43 :: 44 :: 45 :: 46 :: 47 :: 48 :: 49 :: 50 :: 51 :: 52 :: 53 :: 54 :: 55 :: 56 :: 57 :: 58 :: 59 :: 60 :: 61 :: []) (fun (R : TA) y u w' => ∃ (D : TA) (Au : Option Addr) (cu : Nat) (Ou : List (Nat × Obj)), T = D.app R ∧ y = .int .i64 (D.len : Nat) ∧ u = .slice Au (Qds cs s T.len D.ts R.len).length cu ∧ Rw 104 3 (.slice Au (Qds cs s T.len D.ts R.len).length cu) (Qds cs s T.len D.ts R.len).length (Q6 (Qds cs s T.len D.ts R.len)) Ou ∧ St M w0 ((b1, .cells [.int .i64 3, .int .i64 n, .string s, .slice A T.len c].toArray 63) :: (Ou ++ H)) F w') (fun R => R.len) (T) ?_ Yb Yb ?_
  ·exact ⟨.nil, B8, d8, O8, rfl, rfl, by rw [show TA.nil.ts = Ts.nil from rfl, e8], hrow9, hS⟩
  clear hS hrow7 hrow8 hrow9 e8
  rintro R _ _ w3 jv ⟨D, Au, cu, Ou, hD, rfl, rfl, hrow, hS⟩ ih
  have hlen : T.len = D.len + R.len := by rw [hD, TA.len_app]
  have hml := QjV cs s T.len D.ts R.len
  rw [TA.len_ts] at hml
  have hTn : T.ts.nodes = D.ts.nodes + R.ts.nodes := by rw [hD, TA.app_ts, Ts.nodes_app]
  have hle := QqQ D.ts (cs.length + 1 + T.len)
  cases R with
  | nil =>
   have hTD : T = D := by rw [hD, TA.app_nil]
   subst hTD
   refine Zb9 ?_
   refine Qc Tryz.func88 rfl Yb ?_
   have em : Qds cs s T.len T.ts TA.nil.len = cs ++ Qb2 3 n s T.ts cs.length := by rw [← TA.len_ts]; exact Qsu cs n s T.ts
   rw [em] at hrow
   rw [em]
   exact ⟨Au, cu, Ou, rfl, hrow, hS.drop⟩
  | cons k1 n1 s1 Aa ca a1 r =>
   have hRl : (TA.cons k1 n1 s1 Aa ca a1 r).len = r.len + 1 := rfl
   have hDl := TA.len_ts D
   have hrl := Ts.length_le r.ts
   rw [TA.len_ts] at hrl
   have hR1 : (TA.cons k1 n1 s1 Aa ca a1 r).ts.nodes = a1.ts.nodes + r.ts.nodes + 1 := rfl
   have hg1 : (Ts.cons k1 n1 s1 a1.ts .nil).good vars = true := by
    have := (QbP hg).2.1
    rw [hD, TA.app_ts, Ts.good_ap] at this
    simp only [Bool.and_eq_true] at this
    obtain ⟨x1, x2, _⟩ := QbP this.2
    simp only [Ts.good, Bool.and_eq_true, and_true]
    exact ⟨x1, x2⟩
   have hA' : Und F (ArA A c (D.app (.cons k1 n1 s1 Aa ca a1 r))) := by rw [← hD]; exact hA
   obtain ⟨bk, ok, rfl⟩ := (hS.und hA').some_ (by rw [TA.len_app]; simp only [TA.len]; omega)
   have hcc : ∀ {H'} w', St M w0 H' F w' → _ := fun w' hS => (hS.und hA').cells
   have hsub : Und F (ArA Aa ca a1) := fun w hw => (hA' w hw).sub
   obtain ⟨g, sp, rfl, rfl, hcap, hlc, _⟩ := hrow.some_ Ya
   have hcr : ∀ (X : List HC) (sp2 : List Value), X.length = (Qds cs s T.len D.ts (TA.cons k1 n1 s1 Aa ca a1 r).len).length → sp2 = sp → Rw 104 3 (.slice (some ⟨g, 0, none⟩) X.length cu) X.length (Q6 X) [(g, .cells (Q6 X ++ sp2).toArray 104)] := by
    rintro X _ hX rfl
    refine Rw.own_ (Q9 X) ?_ Ya Ya
    rw [← hcap]; simp only [List.length_append, Q9, hX]
   have hput := fun c => QqY (Qds cs s T.len D.ts (TA.cons k1 n1 s1 Aa ca a1 r).len) sp (((cs.length + 1 : Nat) : Int) + ((D.len : Nat) : Int)).toNat c Ya
   have hin : (((cs.length + 1 : Nat) : Int) + ((D.len : Nat) : Int)).toNat = cs.length + 1 + D.ts.length := by rw [TA.len_ts]; omega
   by_cases hk1 : k1 = 3
   ·subst hk1
    refine ZaV ?_
    refine ZaS ?_
    refine ZbX ?_
    refine ZX ?_
    clear hS
    intro b3 wx3 hS
    refine ZbJ ?_
    clear hS
    intro wx4 hS
    refine ZK ?_
    refine ZaU ?_
    refine ZcN ?_
    refine Zy ?_
    refine Zq ?_
    refine ZcA ?_
    refine ZaG ?_
    refine Zk ?_
    refine Calls.mono (Qmy ((Qds cs s T.len D.ts (TA.cons 3 n1 s1 Aa ca a1 r).len).length : Nat) _ hS) ?_
    rintro _ w4 ⟨rfl, hS'⟩
    refine Za ?_
    replace hS := hS'
    clear hS'
    refine ZaI ?_
    refine ZfV ?_
    clear hS
    intro w5 hS
    refine Zcp ?_
    refine ZbX ?_
    have hX : ((Qds cs s T.len D.ts (TA.cons 3 n1 s1 Aa ca a1 r).len).set (((cs.length + 1 : Nat) : Int) + ((D.len : Nat) : Int)).toNat ⟨0, ((Qds cs s T.len D.ts (TA.cons 3 n1 s1 Aa ca a1 r).len).length : Nat), eS⟩).length = (Qds cs s T.len D.ts (TA.cons 3 n1 s1 Aa ca a1 r).len).length := by rw [List.length_set]
    have hcomp := Qqz cs s T.len D.ts r.len n1 s1 a1.ts (by rw [TA.len_ts]; omega)
    rw [← hin, ← hRl] at hcomp
    have hrowX := hcr _ sp hX rfl
    have hcall := ihT a1 Ya M w0 ((b3, .cells [.int .i64 3, .int .i64 n1, .string s1, .slice Aa a1.len ca].toArray 63) :: (b1, .cells [.int .i64 3, .int .i64 n, .string s, .slice (some ⟨bk, ok, none⟩) T.len c].toArray 63) :: H) F vars 3 n1 s1 Aa ca _ _ _ _ hsub hg1 (by rw [hX]; omega) hrowX (hS.perm (List.perm_append_comm_assoc [_, _] [_] _))
    rw [hX, hcomp] at hcall
    refine Zf ?_
    refine Calls.mono (hcall) ?_
    rintro _ w6 ⟨A6, c6, O6, rfl, hrow6, hS'⟩
    refine Za ?_
    replace hS := hS'
    clear hS'
    replace hS := (hS.perm (List.perm_append_comm_assoc O6 [_, _] _)).drop
    refine ZaN ?_
    refine ih (r) _ _ _ _ ?_ ?_ Yb Yb Yc
    ·omega
    ·exact ⟨D.app (.cons 3 n1 s1 Aa ca a1 .nil), A6, c6, O6, by rw [hD, TA.app_assoc]; rfl, by rw [TA.len_app]; rfl, by rw [TA.app_ts]; rfl, by rw [TA.app_ts]; exact hrow6, hS⟩
   ·refine ZaV ?_
    refine ZaS ?_
    refine ZbX ?_
    refine ZX ?_
    clear hS
    intro b3 wx3 hS
    refine ZbJ ?_
    clear hS
    intro wx4 hS
    refine ZK ?_
    refine ZaU ?_
    refine ZcN ?_
    refine Zy ?_
    refine ZC ?_
    refine ZcA ?_
    refine ZbX ?_
    refine Zk ?_
    refine Calls.mono (QiQ k1 n1 s1 Aa a1.len ca _ hS) ?_
    rintro _ w4 ⟨rfl, hS'⟩
    refine Za ?_
    replace hS := hS'
    clear hS'
    refine ZaI ?_
    refine ZfV ?_
    clear hS
    intro w5 hS
    refine Zb ?_
    refine Zbf ?_
    refine ZeI ?_
    have hX : ((Qds cs s T.len D.ts (TA.cons k1 n1 s1 Aa ca a1 r).len).set (((cs.length + 1 : Nat) : Int) + ((D.len : Nat) : Int)).toNat (Qdj k1 n1 s1)).length = (Qds cs s T.len D.ts (TA.cons k1 n1 s1 Aa ca a1 r).len).length := by rw [List.length_set]
    have hone := Qst cs s T.len D.ts r.len n1 s1 a1.ts hk1
    rw [← hin] at hone
    have hrowX := hcr _ sp hX rfl
    rw [show (TA.cons k1 n1 s1 Aa ca a1 r).len = r.len + 1 from rfl, hone] at hrowX hS hX
    refine ih (r) _ _ _ _ ?_ ?_ Yb Yb Yc
    ·omega
    ·refine ⟨D.app (.cons k1 n1 s1 Aa ca a1 .nil), some ⟨g, 0, none⟩, cu, _, by rw [hD, TA.app_assoc]; rfl, by rw [TA.len_app]; rfl, ?_, by rw [TA.app_ts]; exact hrowX, hS.drop⟩
     rw [TA.app_ts]
     show _ = Value.slice _ (Qds cs s T.len (D.ts.app (.cons k1 n1 s1 a1.ts .nil)) r.len).length _
     rw [hX]; rfl
 ·refine Zi ?_
  clear hS
  intro b1 wx1 hS
  refine Z0 ?_
  refine ZaU ?_
  refine ZcN ?_
  refine Zy ?_
  refine Zcx ?_
  refine ZbX ?_
  refine Zk ?_
  refine Calls.mono (QiQ k n s A T.len c _ hS) ?_
  rintro _ w2 ⟨rfl, hS'⟩
  refine Za ?_
  replace hS := hS'
  clear hS'
  refine ZcI ?_
  clear hS
  intro b2 wx2 hS
  have e : Qb2 k n s T.ts cs.length = [Qdj k n s] := by unfold Qb2; rw [if_neg hk]
  refine Qee (L := [Qdj k n s]) hS Yb (by rfl) rfl rfl rfl (Qz.own (sp := []) (hS.own (_, _) (.head _)) rfl (Nat.le_refl _)) hrow (List.perm_append_comm_assoc [_, _] O _) Yh rfl ?_
  clear hS
  intro v7 O7 w7 hrow7 hS
  obtain ⟨B7, d7, rfl, _⟩ := hrow7.form
  replace hS := hS.perm (List.perm_append_comm_assoc O7 [_, _] _)
  refine Zc ?_
  refine Qc Tryz.func88 rfl Yb ?_
  rw [e]
  refine ⟨B7, d7, O7, by simp, ?_, hS.drop.drop⟩
  rw [List.length_append, QbG]; exact hrow7
theorem QiO (T : TA) : QfK T := by
 have key : ∀ m, ∀ U : TA, U.ts.nodes ≤ m → QfK U := by
  intro m
  induction m with
  | zero => exact fun U hU => Qnq U fun V hV => by omega
  | succ m ih => exact fun U hU => Qnq U fun V hV => ih V Ya
 exact key _ T (Nat.le_refl _)
def Ts.wide : Ts → Prop
 | .nil => True
 | .cons _ _ _ ar r => ar.length ≤ 9223372036854775807 ∧ ar.wide ∧ r.wide
theorem Ts.wide_app (D R : Ts) : (D.app R).wide ↔ D.wide ∧ R.wide := by
 induction D with
 | nil => simp [Ts.app, Ts.wide]
 | cons k n s ar r _ ih => simp only [Ts.app, Ts.wide, ih]; constructor <;> (rintro ⟨h1, h2⟩; simp_all)
theorem Ts.wide_of (T : Ts) : T.nodes ≤ 9223372036854775807 → T.wide := by
 induction T with
 | nil => intro _; trivial
 | cons k n s ar r iha ihr =>
  intro h
  simp only [Ts.nodes] at h
  have := ar.length_le
  exact ⟨by omega, iha Ya, ihr Ya⟩
def QrQ (L : List Cl) : Prop := ∀ c ∈ L, c.hd.length ≤ 9223372036854775807 ∧ c.hd.wide ∧ c.bd.length ≤ 9223372036854775807 ∧ c.bd.wide
def Qen (T : Ts) : Prop := ∀ (k n : Int) (s : ByteArray) (v : Value) (L lb vb B : Nat) (w : World), Sl w (fun k => k < B) v T → B ≤ lb → VS lb vb L w → L ≤ 24 → T.length ≤ 9223372036854775807 → T.wide →
    Calls Tryz.prog 132 #[.agg #[.int .i64 k, .int .i64 n, .string s, v], .pointer (some ⟨lb, 0, none⟩), .pointer (some ⟨vb, 0, none⟩)] w fun e w' =>
     e = .returned (.bool (decide (T.nodes + 1 ≤ L))) ∧ (T.nodes + 1 ≤ L → VS lb vb (L - (T.nodes + 1)) w') ∧ Chg (fun k => k = lb) w w'
def QrK (w : World) (T : Ts) (L lb vb : Nat) (g : Nat) (sx : Value) (wr : World) : Prop := ∃ D R : Ts, T = D.app R ∧ g = R.length ∧ sx = .int .i64 D.length ∧ D.nodes + 1 ≤ L ∧ VS lb vb (L - (D.nodes + 1)) wr ∧ Chg (fun k => k = lb) w wr
set_option maxHeartbeats 1000000 in
theorem QpA (m : Nat) (ih : ∀ T : Ts, T.nodes < m → Qen T) (T : Ts) (hm : T.nodes ≤ m) : Qen T := by
 intro k n s v L lb vb B w hv hBl hvs hL hn hwd
 obtain ⟨A, c, rfl, hs⟩ := hv.form
 have hle := T.length_le
 have hW : Below w.heap.size w (w.alloc (.cells #[.int .i64 k, .int .i64 n, .string s, .slice A T.length c] 63)) := (Below.refl _ _).alloc (Nat.le_refl _) _
 have hvs1 := hvs.far hW
 have hs1 := hs.below hW
 have bA := Qan.new w 63 #[.int .i64 k, .int .i64 n, .string s, .slice A T.length c]
 have l0 := hvs1.left.cell 0
 have lf := hvs1.left.frozen 0
 simp at l0
 have hlt := hvs.left.lt
 by_cases hL0 : L = 0
 ·subst hL0
  go_enter Tryz.func132, Tryz.ntmps132
  go_wp2_with fail
  go_ret
  exact ⟨rfl, fun h => absurd h Ya, Chg.of_fresh hW⟩
 have hL1 : 0 < L := by omega
 obtain ⟨p0, p1, p2, p3, _⟩ := bA.four
 have hne : w.heap.size ≠ lb := by omega
 go_enter Tryz.func132, Tryz.ntmps132
 go_wp2_with fail
 have hstart : VS lb vb (L - 1) ((w.setCell ⟨lb, 0, none⟩ (.int .i64 ((L : Int) - 1))).alloc (.cells #[.int .i64 k, .int .i64 n, .string s, .slice A T.length c] 63)) := by
  refine ⟨?_, ?_, hvs.ne⟩
  ·have h1 := (hvs.left.set_ 0 (.int .i64 ((L : Int) - 1))).alloc (.cells #[.int .i64 k, .int .i64 n, .string s, .slice A T.length c] 63)
   rw [show ((L - 1 : Nat) : Int) = (L : Int) - 1 by omega]
   exact h1
  ·exact (hvs.fn.far (p := ⟨lb, 0, none⟩) hvs.ne _).alloc _
 have hchg : Chg (fun k => k = lb) w ((w.setCell ⟨lb, 0, none⟩ (.int .i64 ((L : Int) - 1))).alloc (.cells #[.int .i64 k, .int .i64 n, .string s, .slice A T.length c] 63)) :=
  ((Chg.refl (fun k => k = lb) w).setCell (p := ⟨lb, 0, none⟩) (fun _ => rfl) _).alloc _
 have hcall : ∀ (args : Array Value) (x : World), (callFunc 132 args).run Tryz.prog x = .ok (.enter 132 args) x := fun args x => by simp [go_sem]
 generalize ((w.setCell ⟨lb, 0, none⟩ (.int .i64 ((L : Int) - 1))).alloc (.cells #[.int .i64 k, .int .i64 n, .string s, .slice A T.length c] 63)) = W at *
 have h0 : QrK w T L lb vb T.length (.int .i64 0) W := ⟨.nil, T, rfl, rfl, rfl, hL1, hstart, hchg⟩
 clear hstart hchg hvs1 bA p0 p1 p2 p3 hne l0 lf hs1 hW
 go_loopg [14] T.length (QrK w T L lb vb)
 case atStart => exact h0
 case round =>
  clear h0
  obtain ⟨D, R, hT, hg, rfl, hD, hvr, hc⟩ := hrel
  have HT := Lib.hid hT
  have HG := Lib.hid hg
  clear hT hg
  have hsr : Sl wr (fun k => k < B) (.slice A T.length c) T := hs.chg hc fun k hk => by omega
  cases R with
  | nil =>
   have eD : D = T := by rw [HT.out, Ts.app_nil]
   subst eD
   go_wp2_with fail
   go_ret
   refine ⟨?_, fun _ => hvr, hc⟩
   rw [decide_eq_true hD]; rfl
  | cons k1 n1 s1 ar r =>
   have e1 : D.length < T.length := by rw [HT.out, Ts.length_app]; simp [Ts.length]
   have hnod : T.nodes = D.nodes + (1 + ar.nodes + r.nodes) := by rw [HT.out, Ts.nodes_app]; simp only [Ts.nodes]; omega
   have hwa : ar.length ≤ 9223372036854775807 ∧ ar.wide ∧ r.wide := by rw [HT.out, Ts.wide_app] at hwd; exact hwd.2
   rw [HT.out] at hsr
   rw [show (D.app (.cons k1 n1 s1 ar r)).length = T.length by rw [← HT.out]] at hsr
   obtain ⟨b1, o1, rfl, hq1⟩ := Sl.at_ hsr (by simp [Ts.length])
   obtain ⟨_, c10, c11, c12, ⟨v1, c13, hv1⟩, _⟩ := QaT.1 hq1
   obtain ⟨A1, d1, rfl, hv1⟩ := hv1.form
   clear hq1 hsr
   have hX : Below wr.heap.size wr (wr.alloc (.cells #[.int .i64 k1, .int .i64 n1, .string s1, .slice A1 ar.length d1] 63)) := (Below.refl _ _).alloc (Nat.le_refl _) _
   have hvx := hvr.far hX
   have f0 := hvx.fn.cell 0
   simp at f0
   go_wp2_with fail
   have e2 : ar.nodes < m := by omega
   refine (ih ar e2 k1 n1 s1 _ (L - (D.nodes + 1)) lb vb B _ (hv1.below hX) hBl hvx Ya hwa.1 hwa.2.1).mono ?_
   rintro e w2 ⟨rfl, hok, hc2⟩
   have hc3 : Chg (fun k => k = lb) w w2 := (hc.trans (Chg.of_fresh (S := fun k => k = lb) hX) fun _ _ h => h).trans hc2 fun _ _ h => h
   by_cases hx : ar.nodes + 1 ≤ L - (D.nodes + 1)
   ·have hok := hok hx
    rw [decide_eq_true hx]
    have hnx : Hid (VS lb vb (L - ((D.app (.cons k1 n1 s1 ar .nil)).nodes + 1)) w2) := Lib.hid (by
     rw [Ts.nodes_app]
     simp only [Ts.nodes]
     rw [show L - (D.nodes + (ar.nodes + 0 + 1) + 1) = L - (D.nodes + 1) - (ar.nodes + 1) by omega]
     exact hok)
    clear hok
    go_wp2_with fail
    go_roundg r.length
    case measure => rw [HG.out]; simp [Ts.length]
    case rel =>
     refine ⟨D.app (.cons k1 n1 s1 ar .nil), r, ?_, rfl, ?_, ?_, hnx.out, hc3⟩
     ·rw [HT.out, Ts.app_assoc]; rfl
     ·rw [Ts.length_app]; rfl
     ·rw [Ts.nodes_app]; simp only [Ts.nodes]; omega
   ·rw [decide_eq_false hx]
    have hbig : Hid (¬ T.nodes + 1 ≤ L) := Lib.hid Ya
    clear hok
    go_wp2_with fail
    go_ret
    refine ⟨?_, fun h => absurd h hbig.out, hc3⟩
    rw [decide_eq_false hbig.out]; rfl
theorem Qme (T : Ts) : Qen T := by
 have : ∀ m, ∀ T : Ts, T.nodes < m → Qen T := by
  intro m
  induction m with
  | zero => intro T h; omega
  | succ m ih => intro T h; exact QpA m ih T Ya
 exact this _ T (Nat.lt_succ_self _)
set_option maxHeartbeats 1000000 in
theorem Qq3 (k n : Int) (s : ByteArray) (T : Ts) (v : Value) (w : World) (hv : Sl w (fun _ => True) v T) (hn : T.length ≤ 9223372036854775807) (hwd : T.wide) :
  Calls Tryz.prog 85 #[.agg #[.int .i64 k, .int .i64 n, .string s, v], .int .i64 24] w fun e w' => e = .returned (.bool (decide (T.nodes + 1 ≤ 24))) ∧ Below w.heap.size w w' := by
 obtain ⟨A, c, rfl, hs⟩ := hv.form
 have hs := hs.imp (q := fun k => k < w.heap.size) fun k _ h => h
 have hW : Below w.heap.size w (((w.alloc (.cells #[.int .i64 k, .int .i64 n, .string s, .slice A T.length c] 63)).alloc (.cells #[.int .i64 24] 3)).alloc (.cells #[.func (.func 132) #[] #[.pointer (some ⟨w.heap.size + 1, 0, none⟩), .pointer (some ⟨w.heap.size + 1 + 1, 0, none⟩)]] 130)) := (((Below.refl _ _).alloc (Nat.le_refl _) _).alloc Yd _).alloc Yh _
 have hst : (store ⟨w.heap.size + 1 + 1, 0, none⟩ (.func (.func 132) #[] #[.pointer (some ⟨w.heap.size + 1, 0, none⟩), .pointer (some ⟨w.heap.size + 1 + 1, 0, none⟩)])).run Tryz.prog (((w.alloc (.cells #[.int .i64 k, .int .i64 n, .string s, .slice A T.length c] 63)).alloc (.cells #[.int .i64 24] 3)).alloc (.cells #[.nilFunc] 130)) =
   .ok () (((w.alloc (.cells #[.int .i64 k, .int .i64 n, .string s, .slice A T.length c] 63)).alloc (.cells #[.int .i64 24] 3)).alloc (.cells #[.func (.func 132) #[] #[.pointer (some ⟨w.heap.size + 1, 0, none⟩), .pointer (some ⟨w.heap.size + 1 + 1, 0, none⟩)]] 130)) := by
  have hb := Qan.new ((w.alloc (.cells #[.int .i64 k, .int .i64 n, .string s, .slice A T.length c] 63)).alloc (.cells #[.int .i64 24] 3)) 130 #[.nilFunc]
  have e := Qhl ((w.alloc (.cells #[.int .i64 k, .int .i64 n, .string s, .slice A T.length c] 63)).alloc (.cells #[.int .i64 24] 3)) .nilFunc (.func (.func 132) #[] #[.pointer (some ⟨w.heap.size + 1, 0, none⟩), .pointer (some ⟨w.heap.size + 1 + 1, 0, none⟩)]) 130
  have h := Qev (P := Tryz.prog) (f := .func 132) (x := #[]) (y := #[.pointer (some ⟨w.heap.size + 1, 0, none⟩), .pointer (some ⟨w.heap.size + 1 + 1, 0, none⟩)]) (hb.cell 0) (hb.frozen 0)
  rw [e] at h
  simpa using h
 have hvs : VS (w.heap.size + 1) (w.heap.size + 1 + 1) 24 (((w.alloc (.cells #[.int .i64 k, .int .i64 n, .string s, .slice A T.length c] 63)).alloc (.cells #[.int .i64 24] 3)).alloc (.cells #[.func (.func 132) #[] #[.pointer (some ⟨w.heap.size + 1, 0, none⟩), .pointer (some ⟨w.heap.size + 1 + 1, 0, none⟩)]] 130)) := by
  refine ⟨?_, ?_, by omega⟩
  ·have := (Qan.new (w.alloc (.cells #[.int .i64 k, .int .i64 n, .string s, .slice A T.length c] 63)) 3 #[.int .i64 24]).alloc (.cells #[.func (.func 132) #[] #[.pointer (some ⟨w.heap.size + 1, 0, none⟩), .pointer (some ⟨w.heap.size + 1 + 1, 0, none⟩)]] 130)
   simpa using this
  ·have := Qan.new ((w.alloc (.cells #[.int .i64 k, .int .i64 n, .string s, .slice A T.length c] 63)).alloc (.cells #[.int .i64 24] 3)) 130 #[.func (.func 132) #[] #[.pointer (some ⟨w.heap.size + 1, 0, none⟩), .pointer (some ⟨w.heap.size + 1 + 1, 0, none⟩)]]
   simpa using this
 have hcall : ∀ (args : Array Value) (x : World), (callFunc 132 args).run Tryz.prog x = .ok (.enter 132 args) x := fun args x => by simp [go_sem]
 go_enter Tryz.func85, Tryz.ntmps85
 go_wp2_with fail
 refine (Qme T k n s _ 24 (w.heap.size + 1) (w.heap.size + 1 + 1) w.heap.size _ (hs.below hW) Ya hvs (Nat.le_refl _) hn hwd).mono ?_
 rintro e w2 ⟨rfl, _, hc⟩
 generalize hfb : decide (T.nodes + 1 ≤ 24) = fb
 have HFB := Lib.hid hfb
 clear hfb
 go_wp2_with fail
 go_ret
 refine ⟨by rw [HFB.out]; rfl, hW.trans (hc.below Yh fun k hk _ => ?_)⟩
 have e : k = w.heap.size + 1 := hk
 omega
set_option maxHeartbeats 1000000 in
theorem Qfs (vars k n : Int) (s : ByteArray) (T : Ts) (v : Value) (w : World) (hv : Sl w (fun _ => True) v T) (hn : T.length ≤ 9223372036854775807) (hwd : T.wide) :
  Calls Tryz.prog 50 #[.agg #[.int .i64 k, .int .i64 n, .string s, v], .int .i64 vars] w fun e w' => e = .returned (.bool (gB vars k n s T)) ∧ Below w.heap.size w w' := by
 obtain ⟨A, c, rfl, hs⟩ := hv.form
 generalize hr : gB vars k n s T = rb
 have R := Lib.hid hr
 clear hr
 go_enter Tryz.func50, Tryz.ntmps50
 go_wp2_with fail
 have hW0 : Below w.heap.size w (w.alloc (.cells #[.int .i64 k, .int .i64 n, .string s, .slice A T.length c] 63)) := (Below.refl _ _).alloc (Nat.le_refl _) _
 have bA := Qan.new w 63 #[.int .i64 k, .int .i64 n, .string s, .slice A T.length c]
 generalize (w.alloc (.cells #[.int .i64 k, .int .i64 n, .string s, .slice A T.length c] 63)) = W0 at *
 have hs0 := hs.below hW0
 refine (Qkf k n s _ W0).mono ?_
 rintro e w1 ⟨rfl, hb1⟩
 have hW1 := hW0.trans (hb1.mono hW0.size)
 have bA1 := bA.below hb1
 have hs1 := hs0.below hb1
 cases hg : Qh1 k with
 | false =>
  go_wp2_with fail
  go_ret
  refine ⟨?_, hW1⟩
  rw [← R.out, gB, hg]; rfl
 | true =>
  have HGK := Lib.hid hg
  clear hg
  obtain ⟨p0, p1, p2, p3, _⟩ := bA1.four
  go_wp2_with fail
  refine (Qq3 k n s T _ _ hs1 hn hwd).mono ?_
  rintro e w2 ⟨rfl, hb2⟩
  have hW2 := hW1.trans (hb2.mono hW1.size)
  have bA2 := bA1.below hb2
  have hs2 := hs1.below hb2
  clear p0 p1 p2 p3
  generalize hf : decide (T.nodes + 1 ≤ 24) = fb
  have HF := Lib.hid hf
  clear hf
  obtain ⟨p0, p1, p2, p3, _⟩ := bA2.four
  cases fb with
  | false =>
   go_wp2_with fail
   go_ret
   refine ⟨?_, hW2⟩
   rw [← R.out, gB, HF.out, Bool.and_false]; rfl
  | true =>
   go_wp2_with fail
   refine (Qgt k n vars s T _ _ hs2 (by have := of_decide_eq_true HF.out; omega)).mono ?_
   rintro e w3 ⟨rfl, hb3⟩
   generalize hq : (Ts.cons k n s T .nil).good vars = qb
   have HQ := Lib.hid hq
   clear hq
   go_wp2_with fail
   go_ret
   refine ⟨?_, hW2.trans (hb3.mono hW2.size)⟩
   rw [← R.out, gB, HGK.out, HF.out, HQ.out, Bool.and_true, Bool.true_and]; rfl
set_option maxHeartbeats 1000000 in
theorem QaL (vars : Int) (T : Ts) (v : Value) (w : World) (hv : Sl w (fun _ => True) v T) (hn : T.length ≤ 9223372036854775807) (hwd : T.wide) :
  Calls Tryz.prog 29 #[v, .int .i64 vars] w fun e w' => e = .returned (.bool (qB vars T)) ∧ Below w.heap.size w w' := by
 obtain ⟨A, c, rfl, hs⟩ := hv.form
 have hle := T.length_le
 generalize hr : qB vars T = rb
 have R := Lib.hid hr
 clear hr
 by_cases h1 : vars < 0
 ·have hq : Hid (rb = false) := Lib.hid (by rw [← R.out, qB]; simp; omega)
  go_enter Tryz.func29, Tryz.ntmps29
  go_wp2_with fail
  go_ret
  exact ⟨by rw [hq.out]; rfl, Below.refl _ _⟩
 by_cases h2 : 8 < vars
 ·have hq : Hid (rb = false) := Lib.hid (by rw [← R.out, qB]; simp; omega)
  go_enter Tryz.func29, Tryz.ntmps29
  go_wp2_with fail
  go_ret
  exact ⟨by rw [hq.out]; rfl, Below.refl _ _⟩
 by_cases h3 : 5 < T.length
 ·have hq : Hid (rb = false) := Lib.hid (by rw [← R.out, qB]; simp; omega)
  go_enter Tryz.func29, Tryz.ntmps29
  go_wp2_with fail
  go_ret
  exact ⟨by rw [hq.out]; rfl, Below.refl _ _⟩
 have hq : Hid (rb = T.goals vars) := Lib.hid (by rw [← R.out, qB]; simp; omega)
 have hl5 : T.length ≤ 5 := by omega
 have h0 : Qon w T vars T.length (.int .i64 0) w := ⟨.nil, T, rfl, rfl, rfl, rfl, Below.refl _ _⟩
 go_enter Tryz.func29, Tryz.ntmps29
 go_wp2_with fail
 go_loopg [20] T.length (Qon w T vars)
 case atStart => exact h0
 case round =>
  clear h0
  obtain ⟨D, R', hT, hg, rfl, hD, hb⟩ := hrel
  have HT := Lib.hid hT
  have HG := Lib.hid hg
  have HD := Lib.hid hD
  clear hT hg hD
  have hsr := hs.below hb
  cases R' with
  | nil =>
   have eD : D = T := by rw [HT.out, Ts.app_nil]
   subst eD
   go_wp2_with fail
   go_ret
   exact ⟨by rw [hq.out, HD.out]; rfl, hb⟩
  | cons k1 n1 s1 ar r =>
   have e1 : D.length < T.length := by rw [HT.out, Ts.length_app]; simp [Ts.length]
   have hwa : ar.length ≤ 9223372036854775807 ∧ ar.wide ∧ r.wide := by have := hwd; rw [HT.out, Ts.wide_app] at this; exact this.2
   rw [HT.out] at hsr
   rw [show (D.app (.cons k1 n1 s1 ar r)).length = T.length by rw [← HT.out]] at hsr
   obtain ⟨b1, o1, rfl, hq1⟩ := Sl.at_ hsr (by simp [Ts.length])
   obtain ⟨_, c10, c11, c12, ⟨v1, c13, hv1⟩, _⟩ := QaT.1 hq1
   obtain ⟨A1, d1, rfl, hv1⟩ := hv1.form
   clear hq1 hsr
   have hX : Below wr.heap.size wr (wr.alloc (.cells #[.int .i64 k1, .int .i64 n1, .string s1, .slice A1 ar.length d1] 63)) := (Below.refl _ _).alloc (Nat.le_refl _) _
   have hX' := hb.trans (hX.mono hb.size)
   go_wp2_with fail
   refine (Qfs vars k1 n1 s1 ar _ _ (hv1.below hX) hwa.1 hwa.2.1).mono ?_
   rintro e w2 ⟨rfl, hb2⟩
   have hb3 := hX'.trans (hb2.mono hX'.size)
   generalize hgb : gB vars k1 n1 s1 ar = gb
   have HGB := Lib.hid hgb
   clear hgb
   cases gb with
   | false =>
    go_wp2_with fail
    go_ret
    refine ⟨?_, hb3⟩
    rw [hq.out, HT.out, Ts.goals_app, Ts.goals, HGB.out, Bool.false_and, Bool.and_false]; rfl
   | true =>
    go_wp2_with fail
    go_roundg r.length
    case measure => rw [HG.out]; simp [Ts.length]
    case rel =>
     refine ⟨D.app (.cons k1 n1 s1 ar .nil), r, ?_, rfl, ?_, ?_, hb3⟩
     ·rw [HT.out, Ts.app_assoc]; rfl
     ·rw [Ts.length_app]; rfl
     ·rw [Ts.goals_app, HD.out, Ts.goals, HGB.out]; rfl
set_option maxHeartbeats 1000000 in
theorem QdX (c : Cl) (u v : Value) (w : World) (hu : Sl w (fun _ => True) u c.hd) (hv : Sl w (fun _ => True) v c.bd) (h1 : c.hd.length ≤ 9223372036854775807) (h1w : c.hd.wide) (h2 : c.bd.length ≤ 9223372036854775807) (h2w : c.bd.wide) :
  Calls Tryz.prog 49 #[.agg #[.int .i64 c.k, .int .i64 c.n, .string c.s, u, v, .int .i64 c.vars]] w fun e w' => e = .returned (.bool (cB c)) ∧ Below w.heap.size w w' := by
 obtain ⟨A, d, rfl, hu⟩ := hu.form
 obtain ⟨A', d', rfl, hv⟩ := hv.form
 generalize hr : cB c = rb
 have R := Lib.hid hr
 clear hr
 go_enter Tryz.func49, Tryz.ntmps49
 go_wp2_with fail
 have hW0 : Below w.heap.size w (w.alloc (.cells #[.int .i64 c.k, .int .i64 c.n, .string c.s, .slice A c.hd.length d, .slice A' c.bd.length d', .int .i64 c.vars] 65)) := (Below.refl _ _).alloc (Nat.le_refl _) _
 have bA := Qan.new w 65 #[.int .i64 c.k, .int .i64 c.n, .string c.s, .slice A c.hd.length d, .slice A' c.bd.length d', .int .i64 c.vars]
 generalize (w.alloc (.cells #[.int .i64 c.k, .int .i64 c.n, .string c.s, .slice A c.hd.length d, .slice A' c.bd.length d', .int .i64 c.vars] 65)) = W0 at *
 have hu0 := hu.below hW0
 refine (QaL c.vars c.bd _ W0 (hv.below hW0) h2 h2w).mono ?_
 rintro e w1 ⟨rfl, hb1⟩
 have hW1 := hW0.trans (hb1.mono hW0.size)
 have bA1 := bA.below hb1
 have hu1 := hu0.below hb1
 generalize hq : qB c.vars c.bd = qb
 have HQ := Lib.hid hq
 clear hq
 cases qb with
 | false =>
  go_wp2_with fail
  go_ret
  refine ⟨?_, hW1⟩
  rw [← R.out, cB, HQ.out]; rfl
 | true =>
  have p0 := bA1.cell 0
  have p1 := bA1.cell 1
  have p2 := bA1.cell 2
  have p3 := bA1.cell 3
  have p5 := bA1.cell 5
  simp at p0 p1 p2 p3 p5
  go_wp2_with fail
  refine (Qfs c.vars c.k c.n c.s c.hd _ _ hu1 h1 h1w).mono ?_
  rintro e w2 ⟨rfl, hb2⟩
  have hW2 := hW1.trans (hb2.mono hW1.size)
  have bA2 := bA1.below hb2
  clear p0 p1 p2 p3 p5
  generalize hg : gB c.vars c.k c.n c.s c.hd = gb
  have HGB := Lib.hid hg
  clear hg
  cases gb with
  | false =>
   go_wp2_with fail
   go_ret
   refine ⟨?_, hW2⟩
   rw [← R.out, cB, HGB.out, Bool.and_false]; rfl
  | true =>
   have p0 := bA2.cell 0
   have p1 := bA2.cell 1
   have p2 := bA2.cell 2
   have p3 := bA2.cell 3
   simp at p0 p1 p2 p3
   go_wp2_with fail
   refine (QeV c.k c.n c.s A c.hd.length d _).mono ?_
   rintro e w3 ⟨rfl, hb3⟩
   generalize hbb : QaG c.s.toList c.hd.length = bb
   have HBT := Lib.hid hbb
   clear hbb
   go_wp2_with fail
   go_ret
   refine ⟨?_, hW2.trans (hb3.mono hW2.size)⟩
   rw [← R.out, cB, HQ.out, HGB.out, HBT.out, Bool.true_and]; rfl
set_option maxHeartbeats 1000000 in
theorem Qa6 (L : List Cl) (v : Value) (w : World) (hv : SlC w (fun _ => True) v L) (hn : L.length ≤ 9223372036854775807) (hwd : QrQ L) :
  Calls Tryz.prog 28 #[v] w fun e w' => e = .returned (.bool (pB L)) ∧ Below w.heap.size w w' := by
 obtain ⟨A, d, rfl, hs⟩ := hv.form
 generalize hr : pB L = rb
 have R := Lib.hid hr
 clear hr
 by_cases h3 : 24 < L.length
 ·have hq : Hid (rb = false) := Lib.hid (by rw [← R.out, pB]; simp; omega)
  go_enter Tryz.func28, Tryz.ntmps28
  go_wp2_with fail
  go_ret
  exact ⟨by rw [hq.out]; rfl, Below.refl _ _⟩
 have hq : Hid (rb = L.all cB) := Lib.hid (by rw [← R.out, pB, decide_eq_true Ya, Bool.true_and])
 have h0 : QtM w L L.length (.int .i64 0) w := ⟨[], L, rfl, rfl, rfl, rfl, Below.refl _ _⟩
 go_enter Tryz.func28, Tryz.ntmps28
 go_wp2_with fail
 go_loopg [10] L.length (QtM w L)
 case atStart => exact h0
 case round =>
  clear h0
  obtain ⟨D, R', hT, hg, rfl, hD, hb⟩ := hrel
  have HT := Lib.hid hT
  have HG := Lib.hid hg
  have HD := Lib.hid hD
  clear hT hg hD
  have hsr := hs.below hb
  cases R' with
  | nil =>
   have eD : D = L := by rw [HT.out, List.append_nil]
   subst eD
   go_wp2_with fail
   go_ret
   exact ⟨by rw [hq.out, HD.out]; rfl, hb⟩
  | cons c r =>
   have e1 : D.length < L.length := by rw [HT.out, List.length_append]; simp
   have hcw := hwd c (by rw [HT.out]; simp)
   rw [HT.out] at hsr
   rw [show (D ++ c :: r).length = L.length by rw [← HT.out]] at hsr
   obtain ⟨b1, o1, rfl, _, c10, c11, c12, ⟨v1, c13, hv1⟩, ⟨v2, c14, hv2⟩, c15, _⟩ := SlC.at_ hsr Yd
   obtain ⟨A1, d1, rfl, hv1⟩ := hv1.form
   obtain ⟨A2, d2, rfl, hv2⟩ := hv2.form
   clear hsr
   have hX : Below wr.heap.size wr (wr.alloc (.cells #[.int .i64 c.k, .int .i64 c.n, .string c.s, .slice A1 c.hd.length d1, .slice A2 c.bd.length d2, .int .i64 c.vars] 65)) := (Below.refl _ _).alloc (Nat.le_refl _) _
   have hX' := hb.trans (hX.mono hb.size)
   go_wp2_with fail
   refine (QdX c _ _ _ (hv1.below hX) (hv2.below hX) hcw.1 hcw.2.1 hcw.2.2.1 hcw.2.2.2).mono ?_
   rintro e w2 ⟨rfl, hb2⟩
   have hb3 := hX'.trans (hb2.mono hX'.size)
   generalize hgb : cB c = gb
   have HGB := Lib.hid hgb
   clear hgb
   cases gb with
   | false =>
    go_wp2_with fail
    go_ret
    refine ⟨?_, hb3⟩
    rw [hq.out, HT.out, List.all_append, List.all_cons, HGB.out, Bool.false_and, Bool.and_false]; rfl
   | true =>
    go_wp2_with fail
    go_roundg r.length
    case measure => rw [HG.out]; simp
    case rel =>
     refine ⟨D ++ [c], r, ?_, rfl, ?_, ?_, hb3⟩
     ·rw [HT.out, List.append_assoc]; rfl
     ·rw [List.length_append]; rfl
     ·rw [List.all_append, HD.out, List.all_cons, HGB.out]; rfl
theorem QuL {α : Type} (L O O2 H : List α) : (L ++ (O ++ (O2 ++ H))).Perm (O2 ++ (L ++ (O ++ H))) :=
 (List.Perm.append_left L (List.perm_append_comm_assoc O O2 H)).trans (List.perm_append_comm_assoc L O2 _)
section
variable {M : List Nat} {w0 : World} {H : List (Nat × Obj)} {F : List (World → Prop)}
theorem Qgi (T : TA) (vars : Int) (A : Option Addr) (c : Nat) (cs : List HC) (v : Value) (O : List (Nat × Obj)) (w : World) (hA : Und F (ArA A c T)) (hg : T.ts.goals vars = true) (hb : cs.length + 2 * T.ts.nodes + 2 ≤ 1000000) (hrow : Rw 104 3 v cs.length (Q6 cs) O) (hS : St M w0 (O ++ H) F w) :
  Calls Tryz.prog 89 #[v, .slice A T.len c] w fun e w' => ∃ (A' B' : Option Addr) (c' d' : Nat) (O' O2 : List (Nat × Obj)), e = .returned (.tuple #[.slice A' (cs ++ (QaC T.ts cs.length).1).length c', .slice B' (QaC T.ts cs.length).2.length d']) ∧
   Rw 104 3 (.slice A' (cs ++ (QaC T.ts cs.length).1).length c') (cs ++ (QaC T.ts cs.length).1).length (Q6 (cs ++ (QaC T.ts cs.length).1)) O' ∧ Rw 3 1 (.slice B' (QaC T.ts cs.length).2.length d') (QaC T.ts cs.length).2.length (Qm (QaC T.ts cs.length).2) O2 ∧ St M w0 (O' ++ (O2 ++ H)) F w' := by
 obtain ⟨A1, c1, rfl, hc1⟩ := hrow.form
 have hln := Ts.length_le T.ts
 rw [TA.len_ts] at hln
 refine Qg Tryz.func89 rfl Tryz.ntmps89 rfl ?_
 refine ZcZ ?_
 refine Zc6 ?_
 refine Qjm 11 0 6 (12 :: 13 :: 14 :: 8 :: 15 :: 16 :: 17 :: 18 :: 19 :: 20 :: 21 :: 22 :: 23 :: []) (fun (R : TA) y u z w' => ∃ (D : TA) (Au Bu : Option Addr) (cu du : Nat) (Ou Og : List (Nat × Obj)), T = D.app R ∧ y = .int .i64 (D.len : Nat) ∧ u = .slice Au (cs ++ (QaC D.ts cs.length).1).length cu ∧ z = .slice Bu (QaC D.ts cs.length).2.length du ∧ Rw 104 3 (.slice Au (cs ++ (QaC D.ts cs.length).1).length cu) (cs ++ (QaC D.ts cs.length).1).length (Q6 (cs ++ (QaC D.ts cs.length).1)) Ou ∧ Rw 3 1 (.slice Bu (QaC D.ts cs.length).2.length du) (QaC D.ts cs.length).2.length (Qm (QaC D.ts cs.length).2) Og ∧ St M w0 (Ou ++ (Og ++ H)) F w') (fun R => R.len) (T) ?_ Yb Yb Yb ?_
 ·exact ⟨.nil, A1, none, c1, 0, O, [], rfl, rfl, by simp [TA.ts, QaC], rfl, by simpa [TA.ts, QaC] using hrow, Rw.zero_, hS⟩
 clear hS hrow
 rintro R _ _ _ w3 jv ⟨D, Au, Bu, cu, du, Ou, Og, hD, rfl, rfl, rfl, hrow, hrowg, hS⟩ ih
 have hlen : T.len = D.len + R.len := by rw [hD, TA.len_app]
 have hTn : T.ts.nodes = D.ts.nodes + R.ts.nodes := by rw [hD, TA.app_ts, Ts.nodes_app]
 have hle := Qj2 D.ts cs.length
 have hgl := Qj1 D.ts cs.length
 have hDl := TA.len_ts D
 have hXl : (cs ++ (QaC D.ts cs.length).1).length = cs.length + (QaC D.ts cs.length).1.length := List.length_append
 cases R with
 | nil =>
  have hTD : T = D := by rw [hD, TA.app_nil]
  subst hTD
  refine ZL ?_
  refine Z5 ?_
  refine Zl ?_
  refine Qa3 Tryz.func89 rfl Yb Yb ?_
  exact ⟨Au, Bu, cu, du, Ou, Og, rfl, hrow, hrowg, hS⟩
 | cons k1 n1 s1 Aa ca a1 r =>
  have hRl : (TA.cons k1 n1 s1 Aa ca a1 r).len = r.len + 1 := rfl
  have hR1 : (TA.cons k1 n1 s1 Aa ca a1 r).ts.nodes = a1.ts.nodes + r.ts.nodes + 1 := rfl
  have hg1 : (Ts.cons k1 n1 s1 a1.ts .nil).good vars = true := by
   have := hg
   rw [hD, TA.app_ts, Ts.goals_app] at this
   simp only [TA.ts, Ts.goals, gB, Bool.and_eq_true] at this
   exact this.2.1.1.2
  have hA' : Und F (ArA A c (D.app (.cons k1 n1 s1 Aa ca a1 r))) := by rw [← hD]; exact hA
  obtain ⟨bk, ok, rfl⟩ := (hS.und hA').some_ (by rw [TA.len_app]; simp only [TA.len]; omega)
  have hcc : ∀ {H'} w', St M w0 H' F w' → _ := fun w' hS => (hS.und hA').cells
  have hsub : Und F (ArA Aa ca a1) := fun w hw => (hA' w hw).sub
  refine Zcj ?_
  refine ZaS ?_
  refine ZbX ?_
  refine ZX ?_
  clear hS
  intro b1 wx1 hS
  refine Zd ?_
  clear hS
  intro wx2 hS
  refine ZbC ?_
  refine Zs ?_
  refine ZaR ?_
  clear hS
  intro b2 wx3 hS
  refine QgQ (L := [(((cs ++ (QaC D.ts cs.length).1).length : Nat) : Int)]) hS Yb (by rfl) rfl rfl rfl (Qz.own (sp := []) (hS.own (_, _) (.head _)) rfl (Nat.le_refl _)) hrowg (QuL [_, _] Ou Og _) Yh rfl ?_
  clear hS
  intro v7 O7 w7 hrow7 hS
  obtain ⟨B7, d7, rfl, _⟩ := hrow7.form
  replace hS := (hS.perm (QuL [_, _] Ou O7 _).symm).drop
  refine Zc ?_
  refine ZU ?_
  refine ZbX ?_
  refine Zf ?_
  refine Calls.mono (QiO a1 M w0 _ F vars k1 n1 s1 Aa ca _ _ _ _ hsub hg1 Ya hrow (hS.perm (List.perm_append_comm_assoc [_] Ou _))) ?_
  rintro _ w6 ⟨A6, c6, O6, rfl, hrow6, hS'⟩
  refine Za ?_
  replace hS := hS'
  clear hS'
  replace hS := (hS.perm (List.perm_append_comm_assoc O6 [_] _)).drop
  have e1 : cs ++ (QaC (D.ts.app (.cons k1 n1 s1 a1.ts .nil)) cs.length).1 = cs ++ (QaC D.ts cs.length).1 ++ Qb2 k1 n1 s1 a1.ts (cs ++ (QaC D.ts cs.length).1).length := by
   rw [QnR, List.length_append]; simp [QaC]
  have e2 : (QaC (D.ts.app (.cons k1 n1 s1 a1.ts .nil)) cs.length).2 = (QaC D.ts cs.length).2 ++ [(((cs ++ (QaC D.ts cs.length).1).length : Nat) : Int)] := by
   rw [QnR, List.length_append]; simp [QaC]
  refine ZaN ?_
  refine ih (r) _ _ _ _ _ ?_ ?_ Yb Yb Yb Yc
  ·omega
  ·refine ⟨D.app (.cons k1 n1 s1 Aa ca a1 .nil), A6, B7, c6, d7, O6, O7, by rw [hD, TA.app_assoc]; rfl, by rw [TA.len_app]; rfl, ?_, ?_, ?_, ?_, hS⟩
   ·rw [TA.app_ts]; show _ = Value.slice _ (cs ++ (QaC (D.ts.app (.cons k1 n1 s1 a1.ts .nil)) cs.length).1).length _; rw [e1]
   ·rw [TA.app_ts]; show _ = Value.slice _ (QaC (D.ts.app (.cons k1 n1 s1 a1.ts .nil)) cs.length).2.length _; rw [e2]; simp
   ·rw [TA.app_ts]
    show Rw _ _ (Value.slice _ (cs ++ (QaC (D.ts.app (.cons k1 n1 s1 a1.ts .nil)) cs.length).1).length _) (cs ++ (QaC (D.ts.app (.cons k1 n1 s1 a1.ts .nil)) cs.length).1).length (Q6 (cs ++ (QaC (D.ts.app (.cons k1 n1 s1 a1.ts .nil)) cs.length).1)) _
    rw [e1]; exact hrow6
   ·rw [TA.app_ts]
    show Rw _ _ (Value.slice _ (QaC (D.ts.app (.cons k1 n1 s1 a1.ts .nil)) cs.length).2.length _) (QaC (D.ts.app (.cons k1 n1 s1 a1.ts .nil)) cs.length).2.length (Qm (QaC (D.ts.app (.cons k1 n1 s1 a1.ts .nil)) cs.length).2) _
    rw [e2, List.length_append]
    have : Qm ((QaC D.ts cs.length).2 ++ [(((cs ++ (QaC D.ts cs.length).1).length : Nat) : Int)]) = Qm (QaC D.ts cs.length).2 ++ Qm [(((cs ++ (QaC D.ts cs.length).1).length : Nat) : Int)] := by simp [Qm]
    rw [this]; exact hrow7
abbrev bv (A : Option Addr) (n c : Nat) (vars hd : Int) (B : Option Addr) (m d : Nat) : Value := .agg #[.slice A n c, .int .i64 vars, .int .i64 hd, .slice B m d]
theorem Qpc (k n vars : Int) (s : ByteArray) (hd bd : TA) (A1 A2 : Option Addr) (c1 c2 : Nat) (w : World) (h1 : Und F (ArA A1 c1 hd)) (h2 : Und F (ArA A2 c2 bd)) (h1n : hd.len ≤ 9223372036854775807) (h1w : hd.ts.wide) (h2n : bd.len ≤ 9223372036854775807) (h2w : bd.ts.wide)
  (hc : cB ⟨k, n, s, hd.ts, bd.ts, vars⟩ = true) (hS : St M w0 H F w) :
  Calls Tryz.prog 51 #[.agg #[.int .i64 k, .int .i64 n, .string s, .slice A1 hd.len c1, .slice A2 bd.len c2, .int .i64 vars]] w fun e w' => ∃ (A' B' : Option Addr) (c' d' : Nat) (O O2 : List (Nat × Obj)), e = .returned (.tuple #[bv A' (Qt ⟨k, n, s, hd.ts, bd.ts, vars⟩).length c' vars vars B' (Qat ⟨k, n, s, hd.ts, bd.ts, vars⟩).length d', .int .i64 0]) ∧
   Rw 104 3 (.slice A' (Qt ⟨k, n, s, hd.ts, bd.ts, vars⟩).length c') (Qt ⟨k, n, s, hd.ts, bd.ts, vars⟩).length (Q6 (Qt ⟨k, n, s, hd.ts, bd.ts, vars⟩)) O ∧ Rw 3 1 (.slice B' (Qat ⟨k, n, s, hd.ts, bd.ts, vars⟩).length d') (Qat ⟨k, n, s, hd.ts, bd.ts, vars⟩).length (Qm (Qat ⟨k, n, s, hd.ts, bd.ts, vars⟩)) O2 ∧ St M w0 (O ++ (O2 ++ H)) F w' := by
 have hgc := fun w (hS : Sl w (fun _ => True) (.slice A1 hd.len c1) hd.ts ∧ Sl w (fun _ => True) (.slice A2 bd.len c2) bd.ts) => QdX ⟨k, n, s, hd.ts, bd.ts, vars⟩ (.slice A1 hd.len c1) (.slice A2 bd.len c2) w hS.1 hS.2 (by rw [TA.len_ts]; exact h1n) h1w (by rw [TA.len_ts]; exact h2n) h2w
 rw [hc] at hgc
 obtain ⟨g0, g1, g2, g3, g4⟩ := Qgw hc
 dsimp only at g0 g1 g2 g3 g4
 have g5 := Qn1 g4
 have g6 := Ts.goals_nodes _ _ g3
 have g7 : (Ts.cons k n s hd.ts .nil).good vars = true := by
  simp only [gB, Bool.and_eq_true] at g4; exact g4.1.2
 obtain ⟨v, rfl⟩ : ∃ v : Nat, vars = (v : Nat) := ⟨vars.toNat, by omega⟩
 have e1 : Qt ⟨k, n, s, hd.ts, bd.ts, ((v : Nat) : Int)⟩ = (QbT v ++ Qb2 k n s hd.ts (QbT v).length) ++ (QaC bd.ts (QbT v ++ Qb2 k n s hd.ts (QbT v).length).length).1 := by
  simp only [Qt, Int.toNat_natCast, Qab, List.length_append, List.append_assoc]
 have e2 : Qat ⟨k, n, s, hd.ts, bd.ts, ((v : Nat) : Int)⟩ = (QaC bd.ts (QbT v ++ Qb2 k n s hd.ts (QbT v).length).length).2 := by
  simp only [Qat, Int.toNat_natCast, Qab, List.length_append]
 rw [e1, e2]
 have hle := QmI k n s hd.ts (QbT v).length
 have hvl := Qab v
 have hal : (QbT v ++ Qb2 k n s hd.ts (QbT v).length).length = v + (Qb2 k n s hd.ts (QbT v).length).length := by rw [List.length_append, hvl]
 refine Qh Tryz.func51 rfl Tryz.ntmps51 rfl ?_
 refine Zi ?_
 clear hS
 intro b1 wx1 hS
 refine ZX ?_
 clear hS
 intro b2 wx2 hS
 refine Z0 ?_
 refine Zg ?_
 first
  | refine Qa (Qb (k := 6) hS rfl rfl rfl (by first | exact .head | exact .tail .head | exact .tail (.tail .head) | exact .tail (.tail (.tail .head)) | exact .tail (.tail (.tail (.tail .head))) | exact .tail (.tail (.tail (.tail (.tail .head))))) Yf) rfl ?_
  | refine Qa (Qb (k := 6) hS rfl rfl rfl (by first | exact .head | exact .tail .head | exact .tail (.tail .head) | exact .tail (.tail (.tail .head)) | exact .tail (.tail (.tail (.tail .head))) | exact .tail (.tail (.tail (.tail (.tail .head))))) Ye) rfl ?_
  | refine Qa (QkW rfl rfl rfl (by first | assumption | exact (hcc _ hS).1 | exact (hcc _ hS).2.1 | exact (hcc _ hS).2.2.1 | exact (hcc _ hS).2.2.2 | exact hS.cell0 Ye) (by first | assumption | exact (hcc _ hS).1 | exact (hcc _ hS).2.1 | exact (hcc _ hS).2.2.1 | exact (hcc _ hS).2.2.2 | exact hS.cell0 Ye) (by first | assumption | exact (hcc _ hS).1 | exact (hcc _ hS).2.1 | exact (hcc _ hS).2.2.1 | exact (hcc _ hS).2.2.2 | exact hS.cell0 Ye) (by first | assumption | exact (hcc _ hS).1 | exact (hcc _ hS).2.1 | exact (hcc _ hS).2.2.1 | exact (hcc _ hS).2.2.2 | exact hS.cell0 Ye) (by first | assumption | exact (hcc _ hS).1 | exact (hcc _ hS).2.1 | exact (hcc _ hS).2.2.1 | exact (hcc _ hS).2.2.2 | exact hS.cell0 Ye) (by first | assumption | exact (hcc _ hS).1 | exact (hcc _ hS).2.1 | exact (hcc _ hS).2.2.1 | exact (hcc _ hS).2.2.2 | exact hS.cell0 Ye)) rfl ?_
 refine Zk ?_
 refine Calls.mono (hgc _ ⟨(hS.und h1).sl, (hS.und h2).sl⟩) ?_
 rintro _ w2 ⟨rfl, hb2⟩
 refine Za ?_
 replace hS := hS.grow hb2
 refine ZV ?_
 refine Zg ?_
 refine ZdB ?_
 refine ZcN ?_
 refine Zk ?_
 refine Calls.mono (Qe1 v Ya _ hS) ?_
 rintro _ w3 ⟨A3, c3, O3, rfl, hrow3, hS'⟩
 refine Za ?_
 replace hS := hS'
 clear hS'
 replace hS := hS.perm (List.perm_append_comm_assoc O3 [_, _] _)
 refine Z2 ?_
 refine Zs ?_
 refine Z2 ?_
 refine Zav ?_
 refine ZbX ?_
 refine Zf ?_
 refine Calls.mono (QiO hd M w0 _ F ((v : Nat) : Int) k n s A1 c1 _ _ _ _ h1 g7 Ya hrow3 (hS.perm (List.perm_append_comm_assoc [_, _] O3 _))) ?_
 rintro _ w4 ⟨A4, c4, O4, rfl, hrow4, hS'⟩
 refine Za ?_
 replace hS := hS'
 clear hS'
 replace hS := hS.perm (List.perm_append_comm_assoc O4 [_, _] _)
 refine Z2 ?_
 refine Qa (Qi (off := 4) rfl rfl) rfl ?_
 refine ZcN ?_
 refine Zf ?_
 refine Calls.mono (Qgi bd ((v : Nat) : Int) A2 c2 _ _ O4 _ h2 g3 Ya hrow4 (hS.perm (List.perm_append_comm_assoc [_, _] O4 _))) ?_
 rintro _ w5 ⟨A5, B5, c5, d5, O5, O6, rfl, hrow5, hrow6, hS'⟩
 refine Za ?_
 replace hS := hS'
 clear hS'
 replace hS := hS.perm ((List.Perm.append_left O5 (List.perm_append_comm_assoc O6 [_, _] H)).trans (List.perm_append_comm_assoc O5 [_, _] _))
 refine Zaz ?_
 refine Zl ?_
 refine Zm ?_
 refine ZdB ?_
 refine ZcN ?_
 refine Za2 ?_
 refine ZfW ?_
 refine Zd ?_
 clear hS
 intro wx3 hS
 refine Zc ?_
 refine QcT (sz := 4) hS Tryz.func51 rfl rfl Yb rfl rfl (by first | exact .head | exact .tail .head | exact .tail (.tail .head) | exact .tail (.tail (.tail .head)) | exact .tail (.tail (.tail (.tail .head))) | exact .tail (.tail (.tail (.tail (.tail .head))))) Yf ?_
 refine ⟨A5, B5, c5, d5, O5, O6, ?_, hrow5, hrow6, hS.drop.drop⟩
 rw [hvl]
theorem QuJ {vars : Int} {T : Ts} (h : qB vars T = true) : 0 ≤ vars ∧ vars ≤ 8 ∧ T.length ≤ 5 ∧ T.goals vars = true := by
 simp only [qB, Bool.and_eq_true, decide_eq_true_eq] at h
 exact ⟨h.1.1.1, h.1.1.2, h.1.2, h.2⟩
theorem Qqa (vars : Int) (T : TA) (A1 : Option Addr) (c1 : Nat) (w : World) (h1 : Und F (ArA A1 c1 T)) (h1n : T.len ≤ 9223372036854775807) (h1w : T.ts.wide) (hc : qB vars T.ts = true) (hS : St M w0 H F w) :
  Calls Tryz.prog 52 #[.slice A1 T.len c1, .int .i64 vars] w fun e w' => ∃ (A' B' : Option Addr) (c' d' : Nat) (O O2 : List (Nat × Obj)), e = .returned (.tuple #[bv A' (Qae vars T.ts).length c' vars (-1) B' (Qbf vars T.ts).length d', .int .i64 0]) ∧
   Rw 104 3 (.slice A' (Qae vars T.ts).length c') (Qae vars T.ts).length (Q6 (Qae vars T.ts)) O ∧ Rw 3 1 (.slice B' (Qbf vars T.ts).length d') (Qbf vars T.ts).length (Qm (Qbf vars T.ts)) O2 ∧ St M w0 (O ++ (O2 ++ H)) F w' := by
 have hgc := fun w hS => QaL vars T.ts (.slice A1 T.len c1) w hS (by rw [TA.len_ts]; exact h1n) h1w
 rw [hc] at hgc
 obtain ⟨g0, g1, g2, g3⟩ := QuJ hc
 have g6 := Ts.goals_nodes _ _ g3
 obtain ⟨v, rfl⟩ : ∃ v : Nat, vars = (v : Nat) := ⟨vars.toNat, by omega⟩
 have hvl := Qab v
 have e1 : Qae ((v : Nat) : Int) T.ts = QbT v ++ (QaC T.ts (QbT v).length).1 := by simp only [Qae, Int.toNat_natCast, Qab]
 have e2 : Qbf ((v : Nat) : Int) T.ts = (QaC T.ts (QbT v).length).2 := by simp only [Qbf, Int.toNat_natCast, Qab]
 rw [e1, e2]
 refine Qg Tryz.func52 rfl Tryz.ntmps52 rfl ?_
 refine Zg ?_
 refine ZX ?_
 clear hS
 intro b1 wx1 hS
 refine ZA ?_
 refine Z3 ?_
 refine Calls.mono (hgc _ (hS.und h1).sl) ?_
 rintro _ w2 ⟨rfl, hb2⟩
 refine Za ?_
 replace hS := hS.grow hb2
 refine ZV ?_
 refine ZG ?_
 refine Calls.mono (Qe1 v Ya _ hS) ?_
 rintro _ w3 ⟨A3, c3, O3, rfl, hrow3, hS'⟩
 refine Za ?_
 replace hS := hS'
 clear hS'
 replace hS := hS.perm (List.perm_append_comm_assoc O3 [_] _)
 refine Z3 ?_
 refine Calls.mono (Qgi T ((v : Nat) : Int) A1 c1 _ _ O3 _ h1 g3 Ya hrow3 (hS.perm (List.perm_append_comm_assoc [_] O3 _))) ?_
 rintro _ w5 ⟨A5, B5, c5, d5, O5, O6, rfl, hrow5, hrow6, hS'⟩
 refine Za ?_
 replace hS := hS'
 clear hS'
 replace hS := hS.perm ((List.Perm.append_left O5 (List.perm_append_comm_assoc O6 [_] H)).trans (List.perm_append_comm_assoc O5 [_] _))
 refine Zaz ?_
 refine Zl ?_
 refine Zbz ?_
 refine ZfW ?_
 refine Zd ?_
 clear hS
 intro wx2 hS
 refine Zc ?_
 refine QcT (sz := 4) hS Tryz.func52 rfl rfl Yb rfl rfl (by first | exact .head | exact .tail .head | exact .tail (.tail .head) | exact .tail (.tail (.tail .head)) | exact .tail (.tail (.tail (.tail .head))) | exact .tail (.tail (.tail (.tail (.tail .head))))) Yf ?_
 exact ⟨A5, B5, c5, d5, O5, O6, rfl, hrow5, hrow6, hS.drop⟩
end
structure LB where
 cl : Cl
 A : Option Addr
 c : Nat
 B : Option Addr
 d : Nat
abbrev Qtm (b : LB) : List Value := [.slice b.A (Qt b.cl).length b.c, .int .i64 b.cl.vars, .int .i64 b.cl.vars, .slice b.B (Qat b.cl).length b.d]
def lbL : List LB → List Value
 | [] => []
 | b :: r => Qtm b ++ lbL r
theorem Qj0 (a b : List LB) : lbL (a ++ b) = lbL a ++ lbL b := by
 induction a with
 | nil => rfl
 | cons c r ih => simp [lbL, ih]
theorem QhO (a : List LB) : (lbL a).length = a.length * 4 := by
 induction a with
 | nil => rfl
 | cons c r ih => simp [lbL, ih]; omega
def Qu3 (b : LB) (w : World) : Prop := Qz 3 (Q6 (Qt b.cl)) b.A (Qt b.cl).length b.c w ∧ Qz 1 (Qm (Qat b.cl)) b.B (Qat b.cl).length b.d w
def LBR (L : List LB) (A : Option Addr) (c : Nat) (w : World) : Prop := Qz 4 (lbL L) A L.length c w ∧ ∀ x ∈ L, Qu3 x w
theorem LBR.cells {D R : List LB} {x : LB} {b o c : Nat} {w : World} (h : LBR (D ++ x :: R) (some ⟨b, o, none⟩) c w) : w.cell? ⟨b, o + D.length * 4, none⟩ = some (.slice x.A (Qt x.cl).length x.c) ∧ w.cell? ⟨b, o + D.length * 4 + 1, none⟩ = some (.int .i64 x.cl.vars) ∧ w.cell? ⟨b, o + D.length * 4 + 2, none⟩ = some (.int .i64 x.cl.vars) ∧ w.cell? ⟨b, o + D.length * 4 + 3, none⟩ = some (.slice x.B (Qat x.cl).length x.d) := by
 have key : ∀ j v, (Qtm x)[j]? = some v → (lbL (D ++ x :: R))[D.length * 4 + j]? = some v := by
  intro j v hj
  rw [Qj0, List.getElem?_append_right (by rw [QhO]; omega), QhO, show D.length * 4 + j - D.length * 4 = j by omega]
  show (Qtm x ++ lbL R)[j]? = some v
  have hjl : j < (Qtm x).length := by
   rcases Nat.lt_or_ge j (Qtm x).length with h | h
   ·exact h
   ·rw [List.getElem?_eq_none h] at hj; cases hj
  rw [List.getElem?_append_left hjl]; exact hj
 have g := fun j v hj => h.1.get (key j v hj)
 exact ⟨g 0 _ rfl, g 1 _ rfl, g 2 _ rfl, g 3 _ rfl⟩
theorem LBR.some_ {L : List LB} {A : Option Addr} {c : Nat} {w : World} (h : LBR L A c w) (hl : 0 < L.length) : ∃ b o, A = some ⟨b, o, none⟩ := h.1.some_ hl
theorem LBR.drop {L : List LB} {b o c : Nat} {w : World} (h : LBR L (some ⟨b, o, none⟩) c w) (k : Nat) (hk : k ≤ L.length) : LBR (L.drop k) (some ⟨b, o + k * 4, none⟩) (c - k) w := by
 obtain ⟨⟨h1, h2, h3⟩, h4⟩ := h
 have e : lbL (L.drop k) = (lbL L).drop (k * 4) := by
  conv => rhs; rw [← List.take_append_drop k L]
  rw [Qj0, List.drop_left' (by rw [QhO, List.length_take]; omega)]
 refine ⟨⟨by rw [QhO], by rw [List.length_drop]; omega, fun hl => ?_⟩, fun x hx => h4 x (List.mem_of_mem_drop hx)⟩
 rw [List.length_drop] at hl
 obtain ⟨b', o', e1, hs⟩ := h3 Ya
 simp only [Option.some.injEq, Addr.mk.injEq, and_true] at e1
 obtain ⟨rfl, rfl⟩ := e1
 refine ⟨b, o + k * 4, rfl, fun j u hj => ?_⟩
 rw [e, List.getElem?_drop] at hj
 have := hs _ _ hj
 rwa [show o + (k * 4 + j) = o + k * 4 + j by omega] at this
structure LX where
 at_ : Nat
 cls : List LB
 A : Option Addr
 c : Nat
 cells : Nat
 bound : Nat
def LX.xc (x : LX) : XC := ⟨x.at_, x.cls.map LB.cl, x.cells, x.bound⟩
abbrev xcs (x : LX) : List Value := [.int .i64 (x.at_ : Nat), .slice x.A x.cls.length x.c, .int .i64 (x.cells : Nat), .int .i64 (x.bound : Nat)]
def xcL : List LX → List Value
 | [] => []
 | b :: r => xcs b ++ xcL r
theorem Qmb (a b : List LX) : xcL (a ++ b) = xcL a ++ xcL b := by
 induction a with
 | nil => rfl
 | cons c r ih => simp [xcL, ih]
theorem Qcy (a : List LX) : (xcL a).length = a.length * 4 := by
 induction a with
 | nil => rfl
 | cons c r ih => simp [xcL, ih]; omega
abbrev QuF (l : XL) : List Value := [.int .i64 l.g, .int .i64 (l.o : Nat), .int .i64 l.nx]
def xlL : List XL → List Value
 | [] => []
 | b :: r => QuF b ++ xlL r
theorem QtO (a b : List XL) : xlL (a ++ b) = xlL a ++ xlL b := by
 induction a with
 | nil => rfl
 | cons c r ih => simp [xlL, ih]
theorem Qg1 (a : List XL) : (xlL a).length = a.length * 3 := by
 induction a with
 | nil => rfl
 | cons c r ih => simp [xlL, ih]; omega
theorem QfL : ∀ (L : List XL) (i : Nat) (l : XL), L[i]? = some l → (xlL L)[i * 3]? = some (.int .i64 l.g) ∧ (xlL L)[i * 3 + 1]? = some (.int .i64 (l.o : Nat)) ∧ (xlL L)[i * 3 + 2]? = some (.int .i64 l.nx)
 | [], i, l, h => by simp at h
 | x :: r, 0, l, h => by
  simp at h; subst h; exact ⟨rfl, rfl, rfl⟩
 | x :: r, i + 1, l, h => by
  have := QfL r i l (by simpa using h)
  rw [show (i + 1) * 3 = i * 3 + 3 by omega]
  exact this
theorem QjD : ∀ (L : List LX) (i : Nat) (l : LX), L[i]? = some l → (xcL L)[i * 4]? = some (.int .i64 (l.at_ : Nat)) ∧ (xcL L)[i * 4 + 1]? = some (.slice l.A l.cls.length l.c) ∧ (xcL L)[i * 4 + 2]? = some (.int .i64 (l.cells : Nat)) ∧ (xcL L)[i * 4 + 3]? = some (.int .i64 (l.bound : Nat))
 | [], i, l, h => by simp at h
 | x :: r, 0, l, h => by
  simp at h; subst h; exact ⟨rfl, rfl, rfl, rfl⟩
 | x :: r, i + 1, l, h => by
  have := QjD r i l (by simpa using h)
  rw [show (i + 1) * 4 = i * 4 + 4 by omega]
  exact this
theorem Row.cell {el sz len : Nat} {A : Option Addr} {c : Nat} {xs : List Value} {O H : List (Nat × Obj)} {M : List Nat} {w0 w : World} {F : List (World → Prop)} {b o : Nat} {v : Value} {j : Nat} (h : Row el sz (.slice A len c) len xs O) (hS : St M w0 H F w) (hm : ∀ p ∈ O, p ∈ H) (e : A = some ⟨b, o, none⟩) (hj : xs[j]? = some v) : w.cell? ⟨b, o + j, none⟩ = some v := by
 cases h with
 | nil_ => simp at hj
 | own_ hx hc hle hcp =>
  cases e
  have := hS.own _ (hm _ (List.mem_singleton.2 rfl))
  rw [Qu this, Nat.zero_add, List.getElem?_append_left]
  ·exact hj
  ·rcases Nat.lt_or_ge j xs.length with h | h
   ·exact h
   ·rw [List.getElem?_eq_none h] at hj; cases hj
structure XD where
 hA : Option Addr
 hc : Nat
 hB : Option Addr
 hd : Nat
 LA : Option Addr
 lc : Nat
 O1 : List (Nat × Obj)
 cs : List LX
 CA : Option Addr
 cc : Nat
 O2 : List (Nat × Obj)
 evs : List LE
 EA : Option Addr
 ec : Nat
 O3 : List (Nat × Obj)
structure XOk (P : List LB) (pA : Option Addr) (pc : Nat) (x : XS) (d : XD) (F : List (World → Prop)) : Prop where
 hh : Und F (HFl x.h d.hA d.hc d.hB d.hd)
 row1 : Row 101 3 (.slice d.LA x.ln.length d.lc) x.ln.length (xlL x.ln) d.O1
 hc : d.cs.map LX.xc = x.ch
 rc : ∀ c ∈ d.cs, Und F (LBR c.cls c.A c.c)
 row2 : Row 151 4 (.slice d.CA d.cs.length d.cc) d.cs.length (xcL d.cs.reverse) d.O2
 he : d.evs.map (fun e => e.T.ts) = x.ev
 re : ∀ e ∈ d.evs, Und F (ArA e.A e.c e.T)
 row3 : Row 34 2 (.slice d.EA d.evs.length d.ec) d.evs.length (evL d.evs) d.O3
 rp : Und F (LBR P pA pc)
theorem XOk.mono {P : List LB} {pA : Option Addr} {pc : Nat} {x : XS} {d : XD} {F F' : List (World → Prop)} (h : XOk P pA pc x d F) (hs : ∀ φ ∈ F, φ ∈ F') : XOk P pA pc x d F' :=
 ⟨h.hh.mono hs, h.row1, h.hc, fun c hc => (h.rc c hc).mono hs, h.row2, h.he, fun e he => (h.re e he).mono hs, h.row3, h.rp.mono hs⟩
abbrev mcs (P : List LB) (pA : Option Addr) (pc vars fuel every : Nat) (x : XS) (d : XD) : List Value :=
 [.slice d.hA x.h.cs.length d.hc, .slice d.hB x.h.tr.length d.hd, .slice pA P.length pc, .int .i64 (vars : Nat), .int .i64 (fuel : Nat), .int .i64 (x.goals : Nat), .int .i64 (every : Nat), .slice d.LA x.ln.length d.lc, .int .i64 x.first, .slice d.CA d.cs.length d.cc, .slice d.EA d.evs.length d.ec]
abbrev mob (P : List LB) (pA : Option Addr) (pc vars fuel every : Nat) (x : XS) (d : XD) : Obj := .cells (mcs P pA pc vars fuel every x d).toArray 61
def XSt (M : List Nat) (w0 : World) (H : List (Nat × Obj)) (F0 : List (World → Prop)) (b : Nat) (P : List LB) (pA : Option Addr) (pc vars fuel every : Nat) (x : XS) (w : World) : Prop :=
 ∃ (d : XD) (F : List (World → Prop)), (∀ φ ∈ F0, φ ∈ F) ∧ XOk P pA pc x d F ∧ St M w0 ((b, mob P pA pc vars fuel every x d) :: (d.O1 ++ (d.O2 ++ (d.O3 ++ H)))) F w
end Go.Proofs.YthliapbflkfdiacGreatDoor
