/- Steps of the proof. -/
import Derived.Test.YthliapbflkfdiacGreatDoorG20
namespace Go.Proofs.YthliapbflkfdiacGreatDoor
open Go.RowKit
set_option linter.unusedVariables false
set_option linter.unusedSimpArgs false
set_option maxRecDepth 100000
set_option maxHeartbeats 1000000
abbrev QuQ (M : List Bool) : Obj := .cells (QV M).toArray 4
abbrev svb (rb n : Nat) : Obj := .cells [.slice (some ⟨rb, 0, none⟩) n n].toArray 202
abbrev svi (B : Option Addr) (n c : Nat) : Obj := .cells [.slice B n c].toArray 54
abbrev Qvr (b : Nat) : Value := .pointer (some ⟨b, 0, none⟩)
def MSt (M : List Nat) (w0 : World) (H : List (Nat × Obj)) (F : List (World → Prop)) (b2 b3 rb : Nat) (s : DS) (w : World) : Prop :=
 ∃ (B : Option Addr) (d : Nat) (O : List (Nat × Obj)), Rw 3 1 (.slice B s.2.length d) s.2.length (Qm s.2) O ∧ St M w0 ((b2, svb rb s.1.length) :: (b3, svi B s.2.length d) :: (rb, QuQ s.1) :: (O ++ H)) F w
theorem Qgd (P : List Bool) (i : Nat) (x : Bool) (h : i < P.length) : Put (QV P) i (.bool x) (QV (P.set i x)) := by
 have := QhC (l := QV P) (v := .bool x) (i := i) (by simpa [QV] using h)
 rwa [show (QV P).set i (.bool x) = QV (P.set i x) by simp [QV, List.map_set]] at this
section
variable {M : List Nat} {w0 : World} {H : List (Nat × Obj)} {F : List (World → Prop)} {b2 b3 rb : Nat}
theorem QhB (a : Int) (s : DS) (w : World) (h0 : 0 ≤ a) (h1 : a < s.1.length) (hw : s.2.length ≤ 1000000) (hs : MSt M w0 H F b2 b3 rb s w) :
  Calls Tryz.prog 191 #[.int .i64 a, Qvr b2, Qvr b3] w fun e w' => e = .returned (.tuple #[]) ∧ MSt M w0 H F b2 b3 rb (Qbn a s) w' := by
 obtain ⟨B, d, O, hrow, hS⟩ := hs
 obtain ⟨v, hv⟩ : ∃ v, s.1[a.toNat]? = some v := ⟨s.1[a.toNat]'Ya, List.getElem?_eq_getElem _⟩
 have hpa : ∀ {o o' H' F'} w', St M w0 ((b2, o) :: (b3, o') :: (rb, QuQ s.1) :: H') F' w' → w'.cell? ⟨rb, 0 + a.toNat * 1, none⟩ = some (.bool v) := fun w' hS => by
  rw [Qu (hS.own (rb, _) (.tail _ (.tail _ (.head _))))]
  simp [QV, hv]
 refine Q2 Tryz.func191 rfl Tryz.ntmps191 rfl ?_
 cases v with
 | true =>
  have e : Qbn a s = s := by unfold Qbn; rw [if_pos (Qao.2 hv)]
  rw [e]
  refine Zg ?_
  refine Zdi ?_
  refine ZV ?_
  refine QD Tryz.func191 rfl ?_
  exact ⟨rfl, B, d, O, hrow, hS⟩
 | false =>
  have e : Qbn a s = (s.1.set a.toNat true, s.2 ++ [a]) := by unfold Qbn; rw [if_neg (by rw [Qao, hv]; simp)]
  rw [e]
  have hput := Qgd s.1 a.toNat true Ya
  refine Zg ?_
  refine Zdi ?_
  refine Za1 ?_
  refine Zgl ?_
  refine Q8 hS rfl Yb rfl rfl (.tail (.tail .head)) (by rw [Nat.zero_add, Nat.mul_one]; exact hput) (.tail (.tail .head)) ?_
  clear hS
  intro w6 hS
  refine Zb ?_
  refine Zbe ?_
  refine Zdy ?_
  refine Ze ?_
  refine ZaR ?_
  clear hS
  intro b1 wx1 hS
  refine QgQ (L := [a]) hS Yb (by rfl) rfl rfl rfl (Qz.own (sp := []) (hS.own (_, _) (.head _)) rfl (Nat.le_refl _)) hrow (List.perm_append_comm_assoc [_, _, _, _] O _) Yh rfl ?_
  clear hS
  intro v7 O7 w7 hrow7 hS
  obtain ⟨B7, d7, rfl, _⟩ := hrow7.form
  replace hS := hS.perm (List.perm_append_comm_assoc O7 [_, _, _, _] _)
  refine Zt ?_
  clear hS
  intro wx2 hS
  refine Zb ?_
  refine QD Tryz.func191 rfl ?_
  refine ⟨rfl, B7, d7, O7, ?_, ?_⟩
  ·show Rw _ _ (.slice B7 (s.2 ++ [a]).length d7) (s.2 ++ [a]).length (Qm (s.2 ++ [a])) _
   rw [List.length_append, show Qm (s.2 ++ [a]) = Qm s.2 ++ Qm [a] by simp [Qm]]; exact hrow7
  ·show St M w0 ((b2, svb rb (s.1.set a.toNat true).length) :: (b3, svi B7 (s.2 ++ [a]).length d7) :: _) F _
   rw [List.length_append, List.length_set]; exact hS.drop
theorem Qll (h : HH) (R : List Int) (A B RA : Option Addr) (c d rc : Nat) (w : World) (hH : Und F (HFl h A c B d)) (hR : Und F (Qz 1 (Qm R) RA R.length rc)) (hRl : R.length ≤ 9223372036854775807) (hS : St M w0 H F w) :
  Calls Tryz.prog 148 #[hv h A c B d, .slice RA R.length rc] w fun e w' => ∃ (A' : Option Addr) (c' : Nat) (F' : List (World → Prop)), e = .returned (.tuple #[.slice A' (Qdl h R).1.length c', .int .i64 (Qdl h R).2]) ∧ (∀ φ ∈ F, φ ∈ F') ∧ Und F' (Qz 1 (QV (Qdl h R).1) A' (Qdl h R).1.length c') ∧ St M w0 H F' w' := by
 have hL : Und F (Qz 3 (Q6 h.cs) A h.cs.length c) := hH.imp fun _ h => h.1
 refine Qg Tryz.func148 rfl Tryz.ntmps148 rfl ?_
 refine Zi ?_
 clear hS
 intro b1 wx1 hS
 refine Zl ?_
 refine Zbd ?_
 refine ZfE ?_
 refine Zdj ?_
 rintro _ w2 ⟨rfl, hb2⟩
 refine Za ?_
 replace hS := hS.grow hb2
 cases hg : QF h with
 | false =>
  have e0 : Qdl h R = ([], 1) := by unfold Qdl; rw [if_pos hg]
  rw [e0]
  refine Za1 ?_
  refine Zl ?_
  refine Qa3 Tryz.func148 rfl Yb Yb ?_
  exact ⟨none, 0, F, rfl, fun _ h => h, fun w _ => Qz.nil_ _ _ _, hS.drop⟩
 | true =>
 have e0 : Qdl h R = (QK h.cs R, 0) := by unfold Qdl; rw [if_neg (by rw [hg]; decide)]
 obtain ⟨hl1, hl2⟩ := Qdd hg
 have hgl : QO h.cs.length h.cs = true := by
  unfold QF Q4 at hg
  simp only [Bool.and_eq_true] at hg
  exact hg.1.2
 rw [e0]
 refine ZV ?_
 refine ZaU ?_
 refine Zdy ?_
 refine Zs ?_
 refine Qcl (k := h.cs.length) (bts := 1) (z := .bool false) hS Yb Yb rfl rfl rfl rfl Ya Ya rfl ?_
 clear hS
 intro rb w3 hS
 rw [show List.replicate h.cs.length (Value.bool false) = QV (List.replicate h.cs.length false) by simp [QV]] at hS
 refine Zek ?_
 clear hS
 intro b2 wx2 hS
 refine Zt ?_
 clear hS
 intro wx3 hS
 refine Za0 ?_
 refine Zek ?_
 clear hS
 intro b3 wx4 hS
 refine Za0 ?_
 refine Qa (Qgk Qks (Qtz Yb Yb)) rfl ?_
 refine ZbN ?_
 have hs : MSt M w0 ((b1, hob A h.cs.length c B h.tr.length d) :: H) F b2 b3 rb (List.replicate h.cs.length false, []) _ := ⟨none, 0, [], Rw.zero_, by rw [show (List.replicate h.cs.length false).length = h.cs.length by simp]; exact hS.swap⟩
 clear hS
 have hpot : ∀ {s : DS}, s.1.length = h.cs.length → pot s ≤ 2 * h.cs.length → s.2.length ≤ 1000000 := fun {s} e hp => by unfold pot at hp; omega
 refine Qo 25 (26 :: 27 :: 28 :: 10 :: 29 :: 30 :: 31 :: 32 :: 33 :: 34 :: 35 :: []) (fun (Q : List Int) v w' => ∃ (D : List Int) (s : DS), R = D ++ Q ∧ v = .int .i64 (D.length : Nat) ∧ Ql7 h.cs R (fun _ => False) s ∧ (∀ r ∈ D, Qj h.cs r = true → Qs s.1 r = true) ∧ pot s ≤ 2 * h.cs.length ∧ MSt M w0 ((b1, hob A h.cs.length c B h.tr.length d) :: H) F b2 b3 rb s w') (fun Q => Q.length) (R) ?_ Yb ?_
 ·exact ⟨[], _, rfl, rfl, Ql7.start, fun r hr => by simp at hr, by unfold pot; simp, hs⟩
 clear hs
 rintro Q _ w4 jv ⟨D, s, hD, rfl, hI, hrt, hp, hs⟩ ih
 have hlen : R.length = D.length + Q.length := by rw [hD]; simp
 have hsl := hpot hI.len hp
 cases Q with
 | cons x Q =>
  simp only [List.length_cons] at hlen
  have hxi : R[D.length]? = some x := by rw [hD]; simp
  obtain ⟨B5, d5, O5, hrow5, hS⟩ := hs
  obtain ⟨bt, ot, rfl⟩ := (hS.und hR).some_ Ya
  have hct : ∀ {H'} w', St M w0 H' F w' → w'.cell? ⟨bt, ot + ((D.length : Nat) : Int).toNat * 1, none⟩ = some (.int .i64 x) := fun w' hS => by
   have := (hS.und hR).int hxi
   rw [show ((D.length : Nat) : Int).toNat = D.length by omega]; exact this
  replace hS := hS.perm (.cons _ (.cons _ (.cons _ (List.perm_append_comm_assoc O5 [_] _))))
  refine ZbL ?_
  refine Zbg ?_
  refine Zcw ?_
  refine ZcF ?_
  refine Z3 ?_
  refine Calls.mono (Qbb h.cs.length c A B h.tr.length d x _) ?_
  rintro _ w5 ⟨rfl, hb5⟩
  refine Za ?_
  replace hS := hS.grow hb5
  have hs : MSt M w0 ((b1, hob A h.cs.length c B h.tr.length d) :: H) F b2 b3 rb s _ := ⟨B5, d5, O5, hrow5, hS.perm (.cons _ (.cons _ (.cons _ (List.perm_append_comm_assoc [_] O5 _))))⟩
  clear hS
  cases hx : Qj h.cs x with
  | true =>
   rw [show (decide (0 ≤ x) && decide (x < (h.cs.length : Nat))) = true from hx]
   have hxx := Ql.1 hx
   have hrc : Rc h.cs R x := Rc.root (by rw [hD]; simp) hx
   refine Zcm ?_
   refine ZdH ?_
   refine Calls.mono (QhB x s _ hxx.1 (by rw [hI.len]; exact hxx.2) hsl hs) ?_
   rintro _ w6 ⟨rfl, hs6⟩
   refine Za ?_
   refine Zam ?_
   refine ih Q _ _ _ ?_ ?_ Yb Yc
   ·simp
   ·refine ⟨D ++ [x], Qbn x s, by rw [hD]; simp, by simp, Qf0 hI hx hrc, fun r hr hr2 => ?_, Nat.le_trans (QfZ hI.len hx) hp, hs6⟩
    rcases List.mem_append.1 hr with hr | hr
    ·exact QbA (hrt r hr hr2)
    ·rw [List.mem_singleton.1 hr]; exact Qc9 hI.len hx
  | false =>
   rw [show (decide (0 ≤ x) && decide (x < (h.cs.length : Nat))) = false from hx]
   refine ZbM ?_
   refine ih Q _ _ _ ?_ ?_ Yb Yc
   ·simp
   ·refine ⟨D ++ [x], s, by rw [hD]; simp, by simp, hI, fun r hr hr2 => ?_, hp, hs⟩
    rcases List.mem_append.1 hr with hr | hr
    ·exact hrt r hr hr2
    ·rw [List.mem_singleton.1 hr, hx] at hr2; cases hr2
 | nil =>
  simp only [List.length_nil] at hlen
  have hRD : R = D := by simpa using hD
  rw [← hRD] at hrt
  clear hD
  refine ZL ?_
  refine Zap ?_
  refine Qjn  (36 :: 37 :: 38 :: 39 :: 40 :: 41 :: 11 :: 42 :: 43 :: 44 :: 45 :: 12 :: 46 :: 47 :: 48 :: 49 :: 50 :: 51 :: 52 :: 53 :: 13 :: 54 :: 55 :: 56 :: 57 :: 58 :: 59 :: 60 :: 61 :: 62 :: 63 :: 64 :: 65 :: 14 :: 66 :: 67 :: 68 :: 69 :: 70 :: 71 :: 72 :: []) (fun (s : DS) w' => Ql7 h.cs R (fun _ => False) s ∧ (∀ r ∈ R, Qj h.cs r = true → Qs s.1 r = true) ∧ pot s ≤ 2 * h.cs.length ∧ MSt M w0 ((b1, hob A h.cs.length c B h.tr.length d) :: H) F b2 b3 rb s w') (fun s => pot s) (s) ?_ ?_
  ·exact ⟨hI, hrt, hp, hs⟩
  clear hs hI hrt hp hsl
  rintro s w5 jv2 ⟨hI, hrt, hp, hs⟩ ih2
  have hsl := hpot hI.len hp
  obtain ⟨Mk, W⟩ := s
  dsimp only at hsl
  rcases List.eq_nil_or_concat W with rfl | ⟨W', a, hW⟩
  ·obtain ⟨B5, d5, O5, hrow5, hS⟩ := hs
   dsimp only at hS hrow5
   refine Zbd ?_
   refine Zbg ?_
   refine ZaF ?_
   refine Zbp ?_
   refine Zg ?_
   refine Zbg ?_
   refine Zl ?_
   refine Qa3 Tryz.func148 rfl Yb Yb ?_
   have hM := hI.fin hgl hrt
   have hS2 := hS.drop.drop
   have hS3 : St M w0 (O5 ++ (b1, hob A h.cs.length c B h.tr.length d) :: H) (Qz 1 (QV Mk) (some ⟨rb, 0, none⟩) Mk.length Mk.length :: F) w5 := by
    have ho := hS2.own (rb, _) (.head _)
    refine hS2.drop.learn fun w' hw => Qz.own (sp := []) (el := 4) ?_ (Qjx Mk) (Nat.le_refl _)
    rw [hw.block rb (QcL ho) fun hm => ?_, List.append_nil]
    ·exact ho
    ·obtain ⟨p, hp, e⟩ := List.mem_map.1 hm
     exact (List.pairwise_cons.1 hS2.apart).1 p hp e.symm
   refine ⟨some ⟨rb, 0, none⟩, Mk.length, _, ?_, fun φ h => .tail _ h, ?_, (St.dropL (L := O5) hS3).drop⟩
   ·rw [← hM]
   ·rw [← hM]; exact Und.head
  ·rw [List.concat_eq_append] at hW
   subst hW
   have hwa := hI.wt a (List.mem_append_right W' (List.mem_singleton.2 rfl))
   have haa := Ql.1 hwa.1
   obtain ⟨x, hx, hgx⟩ := QgU haa.1 haa.2
   have hrca : Rc h.cs R a := by
    have := hI.snd a.toNat (Qao.1 hwa.2)
    rwa [show ((a.toNat : Nat) : Int) = a by omega] at this
   have hgc := QP (Qak hgl hx)
   have hI1 := hI.pop
   have hp1 : pot (Mk, W') + 1 = pot (Mk, W' ++ [a]) := by unfold pot; simp; omega
   obtain ⟨B5, d5, O5, hrow5, hS⟩ := hs
   dsimp only at hS hrow5
   have hWl : (W' ++ [a]).length = W'.length + 1 := by rw [List.length_append]; rfl
   rw [hWl] at hS hrow5
   obtain ⟨g5, sp5, rfl, rfl, hcap5, hle5, _⟩ := hrow5.some_ Ya
   have hwl : ∀ {o o' o'' H' F'} w', St M w0 ((b2, o) :: (b3, o') :: (rb, o'') :: ([(g5, .cells (Qm (W' ++ [a]) ++ sp5).toArray 3)] ++ H')) F' w' → w'.cell? ⟨g5, 0 + (((W'.length + 1 : Nat) : Int) - 1).toNat * 1, none⟩ = some (.int .i64 a) := fun w' hS => by
    rw [Qu (hS.own (g5, _) (.tail _ (.tail _ (.tail _ (.head _)))))]
    rw [show 0 + (((W'.length + 1 : Nat) : Int) - 1).toNat * 1 = W'.length by omega]
    simp [Qm]
   obtain ⟨bh, oh, rfl⟩ := (hS.und hL).some_ Ya
   have hcc : ∀ {H'} w', St M w0 H' F w' → _ := fun w' hS => (hS.und hL).cell hgx
   have hfin : ∀ {w' : World} {o : Obj} {bn : Nat}, St M w0 ((bn, o) :: (b2, svb rb Mk.length) :: (b3, svi (some ⟨g5, 0, none⟩) W'.length d5) :: (rb, QuQ Mk) :: ([(g5, .cells (Qm (W' ++ [a]) ++ sp5).toArray 3)] ++ (b1, hob (some ⟨bh, oh, none⟩) h.cs.length c B h.tr.length d) :: H)) F w' → MSt M w0 ((bn, o) :: (b1, hob (some ⟨bh, oh, none⟩) h.cs.length c B h.tr.length d) :: H) F b2 b3 rb (Mk, W') w' := fun {w' o bn} hS => by
    have e1 : Qm (W' ++ [a]) ++ sp5 = Qm W' ++ (.int .i64 a :: sp5) := by simp [Qm]
    refine ⟨some ⟨g5, 0, none⟩, d5, [(g5, .cells (Qm (W' ++ [a]) ++ sp5).toArray 3)], ?_, hS.perm (List.perm_append_comm_assoc [_] [_, _, _, _] _)⟩
    rw [e1]
    exact Rw.own_ (len := W'.length) (by simp [Qm]) (by rw [← e1]; exact hcap5) Ya Ya
   have hxkn : x.k = 0 → Qj h.cs x.n = true := fun hk => Ql.2 (QgV hgl hx hk)
   obtain ⟨k, hk⟩ : ∃ k : Nat, QI x = (k : Nat) := ⟨(QI x).toNat, by have := Qej (Qak hgl hx); omega⟩
   have hk4 : k ≤ 4 ∧ (k = 0 ∨ a + k < h.cs.length) := by
    have := Qej (Qak hgl hx)
    omega
   refine Zbd ?_
   refine ZbU ?_
   refine ZaF ?_
   refine ZC ?_
   refine Zb2 ?_
   refine Zg ?_
   refine ZbU ?_
   refine Zb7 ?_
   refine Zcw ?_
   refine ZbU ?_
   refine ZaW ?_
   refine ZbU ?_
   refine Zcw ?_
   refine ZbU ?_
   refine Ze ?_
   refine Qa (QM (sz := 1) rfl rfl rfl rfl Ya Ya) rfl ?_
   refine Zt ?_
   clear hS
   intro wx5 hS
   refine Zb ?_
   refine ZaU ?_
   refine ZbU ?_
   refine Zdk ?_
   refine ZfF ?_
   refine Zaa ?_
   clear hS
   intro b4 wx6 hS
   refine Zd ?_
   clear hS
   intro wx7 hS
   refine ZK ?_
   refine ZaU ?_
   refine ZbU ?_
   refine Zn ?_
   refine Zb ?_
   rw [show (((W'.length + 1 : Nat) : Int) - 1).toNat = W'.length by omega] at hS
   refine QeR (57 :: 58 :: 59 :: 60 :: []) (fun w' => ∃ s2 : DS, Ql7 h.cs R (fun i => i = a) s2 ∧ (x.k = 0 → Qs s2.1 x.n = true) ∧ (∀ r ∈ R, Qj h.cs r = true → Qs s2.1 r = true) ∧ pot s2 ≤ pot (Mk, W') ∧ MSt M w0 ((b4, .cells (hcs x).toArray 104) :: (b1, hob (some ⟨bh, oh, none⟩) h.cs.length c B h.tr.length d) :: H) F b2 b3 rb s2 w') ?_ ?_
   ·intro hjoin
    refine Qcn rfl (fun hq => ?_) (fun hq => ?_)
    ·have hk0 : x.k = 0 := by simpa using hq
     refine ZU ?_
     refine ZE ?_
     refine ZbU ?_
     have hs := hfin hS
     clear hS
     refine ZdH ?_
     refine Calls.mono (QhB x.n (Mk, W') _ (Ql.1 (hxkn hk0)).1 (by rw [hI1.len]; exact (Ql.1 (hxkn hk0)).2) (by simp at hsl; show W'.length ≤ _; omega) hs) ?_
     rintro _ w6 ⟨rfl, hs6⟩
     refine Za ?_
     refine Zb ?_
     exact hjoin _ _ ⟨Qbn x.n (Mk, W'), Qf0 hI1 (hxkn hk0) (Rc.ref hrca hx hk0), fun _ => Qc9 hI1.len (hxkn hk0), fun r h1 h2 => QbA (hrt r h1 h2), QfZ hI1.len (hxkn hk0), hs6⟩ Yc
    ·have hk0 : x.k ≠ 0 := by simpa using hq
     refine Zag ?_
     exact hjoin _ _ ⟨(Mk, W'), hI1, fun e => absurd e hk0, hrt, Nat.le_refl _, hfin hS⟩ Yc
   clear hS
   rintro jv3 w6 ⟨s2, hI2, hm2, hrt2, hp2, hs2⟩
   obtain ⟨B6, d6, O6, hrow6, hS⟩ := hs2
   replace hS := hS.perm (.cons _ (.cons _ (.cons _ (List.perm_append_comm_assoc O6 [_, _] _))))
   refine Zg ?_
   refine ZfF ?_
   refine Zk ?_
   refine Calls.mono (Qod x _) ?_
   rintro _ w7 ⟨rfl, hb7⟩
   refine Za ?_
   replace hS := hS.grow hb7
   rw [hk]
   have hs2 : MSt M w0 ((b4, .cells (hcs x).toArray 104) :: (b1, hob (some ⟨bh, oh, none⟩) h.cs.length c B h.tr.length d) :: H) F b2 b3 rb s2 _ := ⟨B6, d6, O6, hrow6, hS.perm (.cons _ (.cons _ (.cons _ (List.perm_append_comm_assoc [_, _] O6 _))))⟩
   clear hS hrow6
   refine ZdU ?_
   refine Qo 63 (64 :: 65 :: 14 :: 66 :: 67 :: 68 :: 69 :: 70 :: 71 :: 72 :: []) (fun (j : Nat) v w' => ∃ (s3 : DS) (i : Nat), i + j = k ∧ v = .int .i64 (i : Nat) ∧ Ql7 h.cs R (fun i => i = a) s3 ∧ (x.k = 0 → Qs s3.1 x.n = true) ∧ (∀ q : Int, 0 ≤ q → q < i → Qs s3.1 (a + 1 + q) = true) ∧ (∀ r ∈ R, Qj h.cs r = true → Qs s3.1 r = true) ∧ pot s3 ≤ pot (Mk, W') ∧ MSt M w0 ((b4, .cells (hcs x).toArray 104) :: (b1, hob (some ⟨bh, oh, none⟩) h.cs.length c B h.tr.length d) :: H) F b2 b3 rb s3 w') (fun j => j) (k) ?_ Yb ?_
   ·exact ⟨s2, 0, by omega, rfl, hI2, hm2, fun q h1 h2 => by omega, hrt2, hp2, hs2⟩
   clear hs2 hI2 hm2 hrt2 hp2
   rintro j _ w8 jv4 ⟨s3, i, hi, rfl, hI3, hm3, ha3, hrt3, hp3, hs3⟩ ih3
   cases j with
   | zero =>
    refine ZL ?_
    refine ZaH ?_
    refine ih2 s3 _ _ ?_ ?_ Yc
    ·omega
    ·refine ⟨hI3.done hx hm3 fun q q0 q1 => ha3 q q0 Ya, hrt3, by omega, ?_⟩
     obtain ⟨B9, d9, O9, hrow9, hS⟩ := hs3
     exact ⟨B9, d9, O9, hrow9, (hS.perm (.cons _ (.cons _ (.cons _ (List.perm_append_comm_assoc O9 [_] _)))) |>.perm (List.perm_append_comm_assoc [_, _, _] [_] _)).drop⟩
   | succ j =>
    have hadr : Qj h.cs (a + 1 + (i : Nat)) = true := Ql.2 Ya
    have hrc3 : Rc h.cs R (a + 1 + (i : Nat)) := Rc.arg hrca hx Ya Ya
    have hsl3 := hpot hI3.len Ya
    refine ZaY ?_
    refine Z1 ?_
    refine Zz ?_
    refine ZbO ?_
    refine ZdH ?_
    refine Calls.mono (QhB (a + 1 + (i : Nat)) s3 _ Ya (by rw [hI3.len]; omega) hsl3 hs3) ?_
    rintro _ w9 ⟨rfl, hs9⟩
    refine Za ?_
    refine Zam ?_
    refine ih3 j _ _ _ ?_ ?_ Yb Yc
    ·omega
    ·refine ⟨Qbn (a + 1 + (i : Nat)) s3, i + 1, by omega, by simp, Qf0 hI3 hadr hrc3, fun e => QbA (hm3 e), fun q q0 q1 => ?_, fun r h1 h2 => QbA (hrt3 r h1 h2), Nat.le_trans (QfZ hI3.len hadr) hp3, hs9⟩
     by_cases e : q = i
     ·subst e; exact Qc9 hI3.len hadr
     ·exact QbA (ha3 q q0 Ya)
end
def Qcs (M : List Bool) : List Int := (List.range (M.length + 1)).map fun i => ((rk M i : Nat) : Int)
theorem QdB (M : List Bool) : (Qcs M).length = M.length + 1 := by simp [Qcs]
theorem Qe5 {M : List Bool} {i : Nat} (h : i ≤ M.length) : (Qcs M)[i]? = some ((rk M i : Nat) : Int) := by
 unfold Qcs
 rw [List.getElem?_map, List.getElem?_range Ya]; rfl
theorem Qvd (M : List Bool) (n : Nat) : rk M n ≤ n := by
 unfold rk
 exact Nat.le_trans List.count_le_length Yh
abbrev QuD (P : List Int) : Obj := .cells (Qm P).toArray 3
theorem Qf6 (P : List Int) (i : Nat) (x : Int) (h : i < P.length) : Put (Qm P) i (.int .i64 x) (Qm (P.set i x)) := by
 have := QhC (l := Qm P) (v := .int .i64 x) (i := i) (by simpa [Qm] using h)
 rwa [show (Qm P).set i (.int .i64 x) = Qm (P.set i x) by simp [Qm, List.map_set]] at this
section
variable {M : List Nat} {w0 : World} {H : List (Nat × Obj)} {F : List (World → Prop)}
theorem Qqp {P : List Int} {g : Nat} {H' : List (Nat × Obj)} {F' : List (World → Prop)} {w' : World} (hS : St M w0 ((g, QuD P) :: H') F' w') {i : Nat} {v : Int} (hv : P[i]? = some v) : w'.cell? ⟨g, i, none⟩ = some (.int .i64 v) := by
 rw [Qu (hS.own (g, _) (.head _))]
 simp [Qm, hv]
theorem St.freezeI {P : List Int} {g : Nat} {w : World} (hS : St M w0 ((g, QuD P) :: H) F w) : St M w0 H (Qz 1 (Qm P) (some ⟨g, 0, none⟩) P.length P.length :: F) w := by
 have ho := hS.own (g, _) (.head _)
 refine hS.drop.learn fun w' hw => Qz.own (sp := []) (el := 3) ?_ (QhR P) (Nat.le_refl _)
 rw [hw.block g (QcL ho) fun hm => ?_, List.append_nil]
 ·exact ho
 ·obtain ⟨p, hp, e⟩ := List.mem_map.1 hm
  exact (List.pairwise_cons.1 hS.apart).1 p hp e.symm
theorem Qno (Mk : List Bool) (A : Option Addr) (c : Nat) (w : World) (hM : Und F (Qz 1 (QV Mk) A Mk.length c)) (hl : Mk.length ≤ 1048576) (hS : St M w0 H F w) :
  Calls Tryz.prog 149 #[.slice A Mk.length c] w fun e w' => ∃ (A' : Option Addr) (c' : Nat) (F' : List (World → Prop)), e = .returned (.slice A' (Mk.length + 1) c') ∧ (∀ φ ∈ F, φ ∈ F') ∧ Und F' (Qz 1 (Qm (Qcs Mk)) A' (Qcs Mk).length c') ∧ St M w0 H F' w' := by
 refine Qh Tryz.func149 rfl Tryz.ntmps149 rfl ?_
 refine Za9 ?_
 refine Zs ?_
 refine Zz ?_
 refine Qcl (k := Mk.length + 1) (bts := 8) (z := .int .i64 0) hS (by show Value.int .i64 ((Mk.length : Int) + 1) = _; rw [show (Mk.length : Int) + 1 = ((Mk.length + 1 : Nat) : Int) by omega]) (by show Value.int .i64 ((Mk.length : Int) + 1) = _; rw [show (Mk.length : Int) + 1 = ((Mk.length + 1 : Nat) : Int) by omega]) rfl rfl rfl rfl Ya Ya rfl ?_
 clear hS
 intro g w3 hS
 rw [show List.replicate (Mk.length + 1) (Value.int .i64 0) = Qm (List.replicate (Mk.length + 1) 0) by simp [Qm]] at hS
 refine ZbN ?_
 refine Qo 12 (13 :: 14 :: 15 :: 16 :: 4 :: 5 :: 17 :: 18 :: 19 :: 20 :: 21 :: 22 :: 23 :: 24 :: 25 :: 26 :: 27 :: 28 :: 29 :: 30 :: 31 :: 32 :: 33 :: []) (fun (R : List Bool) v w' => ∃ (D : List Bool) (P : List Int), Mk = D ++ R ∧ v = .int .i64 (D.length : Nat) ∧ P.length = Mk.length + 1 ∧ (∀ q : Nat, q ≤ D.length → P[q]? = some ((rk Mk q : Nat) : Int)) ∧ St M w0 ((g, QuD P) :: H) F w') (fun R => R.length) (Mk) ?_ Yb ?_
 ·refine ⟨[], List.replicate (Mk.length + 1) 0, rfl, rfl, by simp, fun q hq => ?_, hS⟩
  obtain rfl : q = 0 := by simpa using hq
  rw [Qmv]; simp
 clear hS
 rintro R _ w4 jv ⟨D, P, hD, rfl, hPl, hP, hS⟩ ih
 have hlen : Mk.length = D.length + R.length := by rw [hD]; simp
 cases R with
 | nil =>
  simp only [List.length_nil] at hlen
  refine Zb9 ?_
  refine Qc Tryz.func149 rfl Yb ?_
  have hPe : P = Qcs Mk := by
   refine List.ext_getElem? fun q => ?_
   by_cases hq : q ≤ Mk.length
   ·rw [hP q Ya, Qe5 hq]
   ·rw [List.getElem?_eq_none Ya, List.getElem?_eq_none (by rw [QdB]; omega)]
  replace hS := St.freezeI hS
  rw [hPl, hPe] at hS
  exact ⟨some ⟨g, 0, none⟩, Mk.length + 1, _, rfl, fun φ h => .tail _ h, by rw [QdB]; exact Und.head, hS⟩
 | cons x R =>
  simp only [List.length_cons] at hlen
  have hxi : Mk[D.length]? = some x := by rw [hD]; simp
  obtain ⟨bt, ot, rfl⟩ := (hS.und hM).some_ Ya
  have hct : ∀ {H'} w', St M w0 H' F w' → w'.cell? ⟨bt, ot + ((D.length : Nat) : Int).toNat * 1, none⟩ = some (.bool x) := fun w' hS => by
   have := (hS.und hM).bool hxi
   rw [show ((D.length : Nat) : Int).toNat = D.length by omega]; exact this
  have hpa : ∀ {H' F'} w', St M w0 ((g, QuD P) :: H') F' w' → w'.cell? ⟨g, 0 + ((D.length : Nat) : Int).toNat * 1, none⟩ = some (.int .i64 ((rk Mk D.length : Nat) : Int)) := fun w' hS => by
   rw [show 0 + ((D.length : Nat) : Int).toNat * 1 = D.length by omega]
   exact Qqp hS (hP D.length (Nat.le_refl _))
  have hi1 : (((D.length : Nat) : Int) + 1).toNat = D.length + 1 := by omega
  have hput := Qf6 P (D.length + 1) ((rk Mk D.length : Nat) : Int) Ya
  have hrk := Qhy hxi
  have hrl := Qvd Mk D.length
  have hP2l : (P.set (D.length + 1) ((rk Mk D.length : Nat) : Int)).length = Mk.length + 1 := by simpa using hPl
  have hpb : ∀ {H' F'} w', St M w0 ((g, QuD (P.set (D.length + 1) ((rk Mk D.length : Nat) : Int))) :: H') F' w' → w'.cell? ⟨g, 0 + (((D.length : Nat) : Int) + 1).toNat * 1, none⟩ = some (.int .i64 ((rk Mk D.length : Nat) : Int)) := fun w' hS => by
   rw [show 0 + (((D.length : Nat) : Int) + 1).toNat * 1 = D.length + 1 by omega]
   exact Qqp hS (List.getElem?_set_self Ya)
  have hput2 := Qf6 (P.set (D.length + 1) ((rk Mk D.length : Nat) : Int)) (D.length + 1) (((rk Mk D.length : Nat) : Int) + 1) (by rw [hP2l]; omega)
  cases x with
  | false =>
   simp only [Bool.false_eq_true, if_false, Nat.add_zero] at hrk
   refine Zcz ?_
   refine ZdI ?_
   refine Zl ?_
   refine Zbs ?_
   refine Ze ?_
   refine ZaW ?_
   refine ZdI ?_
   refine ZM ?_
   refine ZfG ?_
   clear hS
   intro w6 hS
   refine Zbn ?_
   refine ZbM ?_
   refine ih (R) _ _ _ ?_ ?_ Yb Yc
   ·simp
   ·refine ⟨D ++ [false], _, by rw [hD]; simp, by simp, hP2l, fun q hq => ?_, hS⟩
    rw [List.length_append] at hq
    simp only [List.length_cons, List.length_nil] at hq
    rw [List.getElem?_set]
    split
    ·rename_i e; rw [if_pos Ya, ← e, hrk]
    ·exact hP q Ya
  | true =>
   simp only [if_true] at hrk
   refine Zcz ?_
   refine ZdI ?_
   refine Zl ?_
   refine Zbs ?_
   refine Ze ?_
   refine ZaW ?_
   refine ZdI ?_
   refine ZM ?_
   refine ZfG ?_
   clear hS
   intro w6 hS
   refine Zbn ?_
   refine Zcm ?_
   refine Zz ?_
   refine ZM ?_
   refine ZdI ?_
   refine Zz ?_
   refine ZM ?_
   refine Q8 hS rfl Yb rfl rfl .head (by rw [hi1, Nat.zero_add, Nat.mul_one]; exact hput2) .head ?_
   clear hS
   intro w7 hS
   refine Zam ?_
   refine ih (R) _ _ _ ?_ ?_ Yb Yc
   ·simp
   ·refine ⟨D ++ [true], _, by rw [hD]; simp, by simp, by simpa using hPl, fun q hq => ?_, hS⟩
    rw [List.length_append] at hq
    simp only [List.length_cons, List.length_nil] at hq
    rw [List.set_set, List.getElem?_set]
    split
    ·rename_i e; rw [if_pos Ya, ← e, hrk]; simp
    ·exact hP q Ya
theorem Qgb (Mk : List Bool) (I : List Int) (A B : Option Addr) (c d : Nat) (w : World) (hM : Und F (Qz 1 (Qm (Qcs Mk)) A (Qcs Mk).length c)) (hI : Und F (Qz 1 (Qm I) B I.length d)) (hl : Mk.length ≤ 1048576) (hl2 : I.length ≤ 1048576) (hS : St M w0 H F w) :
  Calls Tryz.prog 152 #[.slice A (Mk.length + 1) c, .slice B I.length d] w fun e w' => ∃ (A' : Option Addr) (c' : Nat) (F' : List (World → Prop)), e = .returned (.slice A' (I.map (rkI Mk)).length c') ∧ (∀ φ ∈ F, φ ∈ F') ∧ Und F' (Qz 1 (Qm (I.map (rkI Mk))) A' (I.map (rkI Mk)).length c') ∧ St M w0 H F' w' := by
 refine Qg Tryz.func152 rfl Tryz.ntmps152 rfl ?_
 refine Za9 ?_
 refine Zs ?_
 refine Qcl (k := I.length) (bts := 8) (z := .int .i64 0) hS Yb Yb rfl rfl rfl rfl Ya Ya rfl ?_
 clear hS
 intro g w3 hS
 rw [show List.replicate I.length (Value.int .i64 0) = Qm (List.replicate I.length 0) by simp [Qm]] at hS
 refine ZbN ?_
 refine Qo 13 (14 :: 15 :: 16 :: 17 :: 6 :: 7 :: 18 :: 19 :: 20 :: 21 :: 22 :: 23 :: 24 :: 25 :: 26 :: 27 :: 28 :: 29 :: 30 :: []) (fun (R : List Int) v w' => ∃ (D : List Int) (P : List Int), I = D ++ R ∧ v = .int .i64 (D.length : Nat) ∧ P.length = I.length ∧ (∀ (q : Nat) (x : Int), q < D.length → I[q]? = some x → P[q]? = some (rkI Mk x)) ∧ St M w0 ((g, QuD P) :: H) F w') (fun R => R.length) (I) ?_ Yb ?_
 ·exact ⟨[], List.replicate I.length 0, rfl, rfl, by simp, fun q x hq => by simp at hq, hS⟩
 clear hS
 rintro R _ w4 jv ⟨D, P, hD, rfl, hPl, hP, hS⟩ ih
 have hlen : I.length = D.length + R.length := by rw [hD]; simp
 cases R with
 | nil =>
  simp only [List.length_nil] at hlen
  refine Zb9 ?_
  refine Qc Tryz.func152 rfl Yb ?_
  have hPe : P = I.map (rkI Mk) := by
   refine List.ext_getElem? fun q => ?_
   rw [List.getElem?_map]
   cases hq : I[q]? with
   | none =>
    have : I.length ≤ q := by
     rcases Nat.lt_or_ge q I.length with g | g
     ·rw [List.getElem?_eq_getElem g] at hq; cases hq
     ·exact g
    rw [List.getElem?_eq_none Ya]; rfl
   | some x =>
    have : q < I.length := by
     rcases Nat.lt_or_ge q I.length with g | g
     ·exact g
     ·rw [List.getElem?_eq_none g] at hq; cases hq
    rw [hP q x Ya hq]; rfl
  replace hS := St.freezeI hS
  rw [hPe] at hS
  refine ⟨some ⟨g, 0, none⟩, I.length, _, by rw [List.length_map], fun φ h => .tail _ h, ?_, hS⟩
  have := Und.head (F := F) (φ := Qz 1 (Qm (I.map (rkI Mk))) (some ⟨g, 0, none⟩) (I.map (rkI Mk)).length (I.map (rkI Mk)).length)
  rw [show I.length = (I.map (rkI Mk)).length by simp]
  exact this
 | cons x R =>
  simp only [List.length_cons] at hlen
  have hxi : I[D.length]? = some x := by rw [hD]; simp
  obtain ⟨bt, ot, rfl⟩ := (hS.und hI).some_ Ya
  obtain ⟨bs, os, rfl⟩ := (hS.und hM).some_ (by rw [QdB]; omega)
  obtain ⟨mx, hmx⟩ : ∃ mx : Int, mx = if x < (0 : Int) then 0 else x := ⟨_, rfl⟩
  obtain ⟨mn, hmn⟩ : ∃ mn : Int, mn = if ((Mk.length + 1 : Nat) : Int) - 1 < mx then ((Mk.length + 1 : Nat) : Int) - 1 else mx := ⟨_, rfl⟩
  have hmb : 0 ≤ mn ∧ mn ≤ Mk.length ∧ rk Mk mn.toNat = rk Mk x.toNat := by
   refine ⟨by rw [hmn, hmx]; split <;> split <;> omega, by rw [hmn, hmx]; split <;> split <;> omega, ?_⟩
   by_cases hx : (Mk.length : Int) ≤ x
   ·rw [show mn.toNat = Mk.length by rw [hmn, hmx]; split <;> split <;> omega]
    exact (Qp7 Ya).symm
   ·rw [show mn.toNat = x.toNat by rw [hmn, hmx]; split <;> split <;> omega]
  have hct : ∀ {H'} w', St M w0 H' F w' → w'.cell? ⟨bt, ot + ((D.length : Nat) : Int).toNat * 1, none⟩ = some (.int .i64 x) := fun w' hS => by
   have := (hS.und hI).int hxi
   rw [show ((D.length : Nat) : Int).toNat = D.length by omega]; exact this
  have hcs : ∀ {H'} w', St M w0 H' F w' → w'.cell? ⟨bs, os + mn.toNat * 1, none⟩ = some (.int .i64 (rkI Mk x)) := fun w' hS => by
   have h1 : (Qcs Mk)[mn.toNat]? = some (rkI Mk x) := by rw [Qe5 Ya, hmb.2.2]
   exact (hS.und hM).int h1
  have hput := Qf6 P D.length (rkI Mk x) Ya
  refine Zcz ?_
  refine ZfH ?_
  refine Zl ?_
  refine Z1 ?_
  refine Za2 ?_
  refine Qa (Qnz rfl rfl Ye) rfl ?_
  refine ZaG ?_
  refine Zay ?_
  refine Qa (QjL rfl rfl Ye) rfl ?_
  refine ZM ?_
  refine ZfH ?_
  refine ZM ?_
  refine Q8 hS rfl Yb rfl rfl .head (by rw [show ((D.length : Nat) : Int).toNat = D.length by omega, Nat.zero_add, Nat.mul_one]; exact hput) .head ?_
  clear hS
  intro w6 hS
  refine Zam ?_
  refine ih (R) _ _ _ ?_ ?_ Yb Yc
  ·simp
  ·refine ⟨D ++ [x], _, by rw [hD]; simp, by simp, by simpa using hPl, fun q y hq hy => ?_, hS⟩
   rw [List.length_append] at hq
   simp only [List.length_cons, List.length_nil] at hq
   rw [List.getElem?_set]
   split
   ·rename_i e
    rw [if_pos Ya]
    rw [← e, hxi] at hy
    rw [Option.some.inj hy]
   ·exact hP q y Ya hy
theorem Qj6 (L : List HC) (Mk : List Bool) (A B S : Option Addr) (c d e : Nat) (w : World) (hL : Und F (Qz 3 (Q6 L) A L.length c)) (hM : Und F (Qz 1 (QV Mk) B Mk.length d)) (hs : Und F (Qz 1 (Qm (Qcs Mk)) S (Qcs Mk).length e)) (hg : QO L.length L = true) (hl : L.length ≤ 65536) (hml : Mk.length = L.length) (hS : St M w0 H F w) :
  Calls Tryz.prog 150 #[.slice A L.length c, .slice B Mk.length d, .slice S (Mk.length + 1) e] w fun e w' => ∃ (A' : Option Addr) (c' : Nat) (F' : List (World → Prop)), e = .returned (.slice A' (Qa5 Mk L).length c') ∧ (∀ φ ∈ F, φ ∈ F') ∧ Und F' (Qz 3 (Q6 (Qa5 Mk L)) A' (Qa5 Mk L).length c') ∧ St M w0 H F' w' := by
 refine Q2 Tryz.func150 rfl Tryz.ntmps150 rfl ?_
 refine Zj ?_
 refine Zc6 ?_
 refine QaB 12 7 (13 :: 14 :: 15 :: 16 :: 9 :: 8 :: 17 :: 18 :: 19 :: 20 :: 21 :: 22 :: 23 :: 24 :: 25 :: 26 :: 27 :: 28 :: 29 :: 30 :: 31 :: 32 :: 33 :: 34 :: 35 :: []) (fun (R : List HC) v u w' => ∃ (D : List HC) (m1 m2 : List Bool) (X : List HC) (Aa : Option Addr) (ca : Nat) (O : List (Nat × Obj)), L = D ++ R ∧ Mk = m1 ++ m2 ∧ m1.length = D.length ∧ v = .int .i64 (D.length : Nat) ∧ u = .slice Aa X.length ca ∧ X.length ≤ D.length ∧ Qa5 Mk L = X ++ (kept R m2).map (QbV Mk) ∧ Rw 104 3 (.slice Aa X.length ca) X.length (Q6 X) O ∧ St M w0 (O ++ H) F w') (fun R => R.length) (L) ?_ Yb Yb ?_
 ·exact ⟨[], [], Mk, [], none, 0, [], rfl, rfl, rfl, rfl, rfl, by simp, rfl, Rw.zero_, hS⟩
 clear hS
 rintro R _ _ w4 jv ⟨D, m1, m2, X, Aa, ca, O, hD, hm, hml1, rfl, rfl, hXl, hcol, hrow, hS⟩ ih
 have hlen : L.length = D.length + R.length := by rw [hD]; simp
 have hlm : m2.length = R.length := by
  have : Mk.length = m1.length + m2.length := by rw [hm]; simp
  omega
 cases R with
 | nil =>
  simp only [List.length_nil] at hlen
  have hX : Qa5 Mk L = X := by rw [hcol]; simp [kept]
  refine Zb9 ?_
  refine Qc Tryz.func150 rfl Yb ?_
  rw [hX]
  exact ⟨Aa, ca, _, rfl, fun φ h => .tail _ h, Und.head, St.freezeR hrow hS⟩
 | cons x R =>
  simp only [List.length_cons] at hlen hlm
  obtain ⟨b, m2, rfl⟩ : ∃ b m2', m2 = b :: m2' := by
   cases m2 with
   | nil => simp at hlm
   | cons b m2 => exact ⟨b, m2, rfl⟩
  have hxi : L[D.length]? = some x := by rw [hD]; simp
  have hbi : Mk[D.length]? = some b := by rw [hm, ← hml1]; simp
  obtain ⟨bt, ot, rfl⟩ := (hS.und hL).some_ Ya
  obtain ⟨bm, om, rfl⟩ := (hS.und hM).some_ Ya
  obtain ⟨bs, os, rfl⟩ := (hS.und hs).some_ (by rw [QdB]; omega)
  have hcc : ∀ {H'} w', St M w0 H' F w' → _ := fun w' hS => (hS.und hL).cell hxi
  have hcb : ∀ {H'} w', St M w0 H' F w' → w'.cell? ⟨bm, om + ((D.length : Nat) : Int).toNat * 1, none⟩ = some (.bool b) := fun w' hS => by
   have := (hS.und hM).bool hbi
   rw [show ((D.length : Nat) : Int).toNat = D.length by omega]; exact this
  rw [show D.length = ((D.length : Nat) : Int).toNat by omega] at hcc
  cases b with
  | false =>
   refine ZaV ?_
   refine ZaI ?_
   first
    | refine Qa (Qb (k := 3) hS rfl rfl rfl (by first | exact .head | exact .tail .head | exact .tail (.tail .head) | exact .tail (.tail (.tail .head)) | exact .tail (.tail (.tail (.tail .head))) | exact .tail (.tail (.tail (.tail (.tail .head))))) Yf) rfl ?_
    | refine Qa (Qb (k := 3) hS rfl rfl rfl (by first | exact .head | exact .tail .head | exact .tail (.tail .head) | exact .tail (.tail (.tail .head)) | exact .tail (.tail (.tail (.tail .head))) | exact .tail (.tail (.tail (.tail (.tail .head))))) Ye) rfl ?_
    | refine Qa (QaZ rfl rfl rfl (by first | assumption | exact (hcc _ hS).1 | exact (hcc _ hS).2.1 | exact (hcc _ hS).2.2 | exact hcb _ hS | exact hS.cell0 Ye) (by first | assumption | exact (hcc _ hS).1 | exact (hcc _ hS).2.1 | exact (hcc _ hS).2.2 | exact hcb _ hS | exact hS.cell0 Ye) (by first | assumption | exact (hcc _ hS).1 | exact (hcc _ hS).2.1 | exact (hcc _ hS).2.2 | exact hcb _ hS | exact hS.cell0 Ye)) rfl ?_
   refine Zaa ?_
   clear hS
   intro b1 wx1 hS
   refine ZbJ ?_
   clear hS
   intro wx2 hS
   refine ZaZ ?_
   refine ZaW ?_
   first
    | refine Qa (Qf hS rfl rfl (by first | exact .head | exact .tail .head | exact .tail (.tail .head) | exact .tail (.tail (.tail .head)) | exact .tail (.tail (.tail (.tail .head))) | exact .tail (.tail (.tail (.tail (.tail .head))))) Yf) rfl ?_
    | refine Qa (Qn rfl rfl (by first | assumption | exact (hcc _ hS).1 | exact (hcc _ hS).2.1 | exact (hcc _ hS).2.2 | exact hcb _ hS | exact hS.cell0 Ye | exact Qx hS | exact Qy hS)) rfl ?_
   refine Zbl ?_
   refine Zbf ?_
   refine ZeI ?_
   refine ih R _ _ _ _ ?_ ?_ Yb Yb Yc
   ·simp
   ·refine ⟨D ++ [x], m1 ++ [false], m2, X, Aa, ca, O, by rw [hD]; simp, by rw [hm]; simp, by simp [hml1], by simp, rfl, by simp; omega, ?_, hrow, hS.drop⟩
    rw [hcol]; simp [kept]
  | true =>
   have hgx : Q5 L.length x R.length = true := by
    cases hq : Q5 L.length x R.length with
    | true => rfl
    | false => have := QeQ (D := D) hq; rw [← hD, hg] at this; cases this
   have hgc := QP hgx
   by_cases hk : x.k = 0
   ·have hxn : 0 ≤ x.n ∧ x.n < L.length := by omega
    have hcs : ∀ {H'} w', St M w0 H' F w' → w'.cell? ⟨bs, os + x.n.toNat * 1, none⟩ = some (.int .i64 (rkI Mk x.n)) := fun w' hS => by
     have h1 : (Qcs Mk)[x.n.toNat]? = some (rkI Mk x.n) := by rw [Qe5 Ya]
     exact (hS.und hs).int h1
    have hrn : QbV Mk x = ⟨x.k, rkI Mk x.n, x.s⟩ := by unfold QbV; rw [if_pos hk]
    refine ZaV ?_
    refine ZaI ?_
    refine Zel ?_
    refine Zaa ?_
    clear hS
    intro b1 wx1 hS
    refine ZbJ ?_
    clear hS
    intro wx2 hS
    refine ZaZ ?_
    refine ZaW ?_
    refine ZcH ?_
    refine ZV ?_
    refine Zu ?_
    refine ZaU ?_
    refine ZcH ?_
    refine Zn ?_
    refine ZbF ?_
    refine ZE ?_
    refine ZcH ?_
    refine ZM ?_
    refine ZcH ?_
    refine ZE ?_
    refine Zt ?_
    clear hS
    intro wx3 hS
    refine Zcp ?_
    refine Zel ?_
    refine ZcI ?_
    clear hS
    intro b2 wx4 hS
    refine Qee (L := [⟨x.k, rkI Mk x.n, x.s⟩]) hS Yb (by rfl) rfl rfl rfl (Qz.own (sp := []) (hS.own (_, _) (.head _)) rfl (Nat.le_refl _)) hrow (List.perm_append_comm_assoc [_, _] O _) Yh rfl ?_
    clear hS
    intro v7 O7 w7 hrow7 hS
    obtain ⟨B7, d7, rfl, _⟩ := hrow7.form
    refine ZaN ?_
    refine ih R _ _ _ _ ?_ ?_ Yb Yb Yc
    ·simp
    ·refine ⟨D ++ [x], m1 ++ [true], m2, X ++ [⟨x.k, rkI Mk x.n, x.s⟩], B7, d7, O7, by rw [hD]; simp, by rw [hm]; simp, by simp [hml1], by simp, by rw [List.length_append], by simp; omega, ?_, ?_, (hS.perm (List.perm_append_comm_assoc O7 [_, _] _)).drop.drop⟩
     ·rw [hcol]; simp [kept, hrn]
     ·rw [List.length_append, QbG]; exact hrow7
   ·have hrn : QbV Mk x = x := by unfold QbV; rw [if_neg hk]
    refine ZaV ?_
    refine ZaI ?_
    refine Zel ?_
    refine Zaa ?_
    clear hS
    intro b1 wx1 hS
    refine ZbJ ?_
    clear hS
    intro wx2 hS
    refine ZaZ ?_
    refine ZaW ?_
    refine ZcH ?_
    refine ZV ?_
    refine Zu ?_
    refine ZaU ?_
    refine ZcH ?_
    refine Zn ?_
    refine Zq ?_
    refine ZU ?_
    refine Zel ?_
    refine ZcI ?_
    clear hS
    intro b2 wx3 hS
    refine Qee (L := [x]) hS Yb (by rfl) rfl rfl rfl (Qz.own (sp := []) (hS.own (_, _) (.head _)) rfl (Nat.le_refl _)) hrow (List.perm_append_comm_assoc [_, _] O _) Yh rfl ?_
    clear hS
    intro v7 O7 w7 hrow7 hS
    obtain ⟨B7, d7, rfl, _⟩ := hrow7.form
    refine ZaN ?_
    refine ih R _ _ _ _ ?_ ?_ Yb Yb Yc
    ·simp
    ·refine ⟨D ++ [x], m1 ++ [true], m2, X ++ [x], B7, d7, O7, by rw [hD]; simp, by rw [hm]; simp, by simp [hml1], by simp, by rw [List.length_append], by simp; omega, ?_, ?_, (hS.perm (List.perm_append_comm_assoc O7 [_, _] _)).drop.drop⟩
     ·rw [hcol]; simp [kept, hrn]
     ·rw [List.length_append, QbG]; exact hrow7
theorem Qj5 (T : List Int) (N Mk : List Bool) (A B S : Option Addr) (c d e : Nat) (w : World) (hT : Und F (Qz 1 (Qm T) A T.length c)) (hM : Und F (Qz 1 (QV N) B N.length d)) (hs : Und F (Qz 1 (Qm (Qcs Mk)) S (Qcs Mk).length e)) (hg : ∀ a ∈ T, 0 ≤ a ∧ a < Mk.length) (hl : T.length ≤ 65536) (hml : N.length = T.length) (hS : St M w0 H F w) :
  Calls Tryz.prog 151 #[.slice A T.length c, .slice B N.length d, .slice S (Mk.length + 1) e] w fun e w' => ∃ (A' : Option Addr) (c' : Nat) (F' : List (World → Prop)), e = .returned (.slice A' ((kept T N).map (rkI Mk)).length c') ∧ (∀ φ ∈ F, φ ∈ F') ∧ Und F' (Qz 1 (Qm ((kept T N).map (rkI Mk))) A' ((kept T N).map (rkI Mk)).length c') ∧ St M w0 H F' w' := by
 refine Q2 Tryz.func151 rfl Tryz.ntmps151 rfl ?_
 refine Zj ?_
 refine Zc6 ?_
 refine QaB 12 7 (13 :: 14 :: 15 :: 16 :: 8 :: 9 :: 17 :: 18 :: 19 :: 20 :: 21 :: 22 :: 23 :: 24 :: 25 :: 26 :: 27 :: 28 :: []) (fun (R : List Int) v u w' => ∃ (D : List Int) (m1 m2 : List Bool) (X : List Int) (Aa : Option Addr) (ca : Nat) (O : List (Nat × Obj)), T = D ++ R ∧ N = m1 ++ m2 ∧ m1.length = D.length ∧ v = .int .i64 (D.length : Nat) ∧ u = .slice Aa X.length ca ∧ X.length ≤ D.length ∧ (kept T N).map (rkI Mk) = X ++ (kept R m2).map (rkI Mk) ∧ Rw 3 1 (.slice Aa X.length ca) X.length (Qm X) O ∧ St M w0 (O ++ H) F w') (fun R => R.length) (T) ?_ Yb Yb ?_
 ·exact ⟨[], [], N, [], none, 0, [], rfl, rfl, rfl, rfl, rfl, by simp, rfl, Rw.zero_, hS⟩
 clear hS
 rintro R _ _ w4 jv ⟨D, m1, m2, X, Aa, ca, O, hD, hm, hml1, rfl, rfl, hXl, hcol, hrow, hS⟩ ih
 have hlen : T.length = D.length + R.length := by rw [hD]; simp
 have hlm : m2.length = R.length := by
  have : N.length = m1.length + m2.length := by rw [hm]; simp
  omega
 cases R with
 | nil =>
  simp only [List.length_nil] at hlen
  have hX : (kept T N).map (rkI Mk) = X := by rw [hcol]; simp [kept]
  refine Zb9 ?_
  refine Qc Tryz.func151 rfl Yb ?_
  rw [hX]
  exact ⟨Aa, ca, _, rfl, fun φ h => .tail _ h, Und.head, St.freezeR hrow hS⟩
 | cons x R =>
  simp only [List.length_cons] at hlen hlm
  obtain ⟨b, m2, rfl⟩ : ∃ b m2', m2 = b :: m2' := by
   cases m2 with
   | nil => simp at hlm
   | cons b m2 => exact ⟨b, m2, rfl⟩
  have hxi : T[D.length]? = some x := by rw [hD]; simp
  have hbi : N[D.length]? = some b := by rw [hm, ← hml1]; simp
  obtain ⟨hx0, hx1⟩ := hg x (by rw [hD]; simp)
  obtain ⟨bt, ot, rfl⟩ := (hS.und hT).some_ Ya
  obtain ⟨bm, om, rfl⟩ := (hS.und hM).some_ Ya
  obtain ⟨bs, os, rfl⟩ := (hS.und hs).some_ (by rw [QdB]; omega)
  have hcc : ∀ {H'} w', St M w0 H' F w' → w'.cell? ⟨bt, ot + ((D.length : Nat) : Int).toNat * 1, none⟩ = some (.int .i64 x) := fun w' hS => by
   have := (hS.und hT).int hxi
   rw [show ((D.length : Nat) : Int).toNat = D.length by omega]; exact this
  have hcb : ∀ {H'} w', St M w0 H' F w' → w'.cell? ⟨bm, om + ((D.length : Nat) : Int).toNat * 1, none⟩ = some (.bool b) := fun w' hS => by
   have := (hS.und hM).bool hbi
   rw [show ((D.length : Nat) : Int).toNat = D.length by omega]; exact this
  have hcs : ∀ {H'} w', St M w0 H' F w' → w'.cell? ⟨bs, os + x.toNat * 1, none⟩ = some (.int .i64 (rkI Mk x)) := fun w' hS => by
   have h1 : (Qcs Mk)[x.toNat]? = some (rkI Mk x) := by rw [Qe5 Ya]
   exact (hS.und hs).int h1
  cases b with
  | false =>
   refine Zcz ?_
   refine ZdJ ?_
   refine Zl ?_
   refine Z5 ?_
   refine ZM ?_
   refine ZdJ ?_
   refine ZbM ?_
   refine ih R _ _ _ _ ?_ ?_ Yb Yb Yc
   ·simp
   ·refine ⟨D ++ [x], m1 ++ [false], m2, X, Aa, ca, O, by rw [hD]; simp, by rw [hm]; simp, by simp [hml1], by simp, rfl, by simp; omega, ?_, hrow, hS⟩
    rw [hcol]; simp [kept]
  | true =>
   refine Zcz ?_
   refine ZdJ ?_
   refine Zl ?_
   refine Z5 ?_
   refine ZM ?_
   refine ZdJ ?_
   refine Zcm ?_
   refine ZaW ?_
   refine ZdJ ?_
   refine ZaR ?_
   clear hS
   intro b1 wx1 hS
   refine QgQ (L := [rkI Mk x]) hS Yb (by rfl) rfl rfl rfl (Qz.own (sp := []) (hS.own (_, _) (.head _)) rfl (Nat.le_refl _)) hrow (List.perm_append_comm_assoc [_] O _) Yh rfl ?_
   clear hS
   intro v7 O7 w7 hrow7 hS
   obtain ⟨B7, d7, rfl, _⟩ := hrow7.form
   refine ZaN ?_
   refine ih R _ _ _ _ ?_ ?_ Yb Yb Yc
   ·simp
   ·refine ⟨D ++ [x], m1 ++ [true], m2, X ++ [rkI Mk x], B7, d7, O7, by rw [hD]; simp, by rw [hm]; simp, by simp [hml1], by simp, by rw [List.length_append], by simp; omega, ?_, ?_, (hS.perm (List.perm_append_comm_assoc O7 [_] _)).drop⟩
    ·rw [hcol]; simp [kept]
    ·rw [List.length_append, show Qm (X ++ [rkI Mk x]) = Qm X ++ Qm [rkI Mk x] by simp [Qm]]; exact hrow7
end
end Go.Proofs.YthliapbflkfdiacGreatDoor
