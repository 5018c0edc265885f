/- SModel, SMem, SMem2, SPure, EMem, RefS1, GSim, GRun, SPure2, TSim, DRun, TidyBy, Tidy: texts that follow one another, laid into one file. -/
import Derived.Test.YtehhgmeaggempaaDoorG3
import Derived.Test.YtehhgmeaggempaaDoorG1
import Derived.Test.YtehhgmeaggempaaDoorProg
import Derived.Test.YtehhgmeaggempaaDoorG0
import Derived.Test.YtehhgmeaggempaaDoorG2
namespace Go.Proofs.YtehhgmeaggempaaDoor
open Go.RowKit
set_option linter.unusedVariables false
def Tm.shift (t : Tm) (m : Int) : Tm := ⟨t.k, shiftN t.k t.n m, t.s, t.ar.shift m⟩
abbrev Bnd := List (Int × Tm)
def bget (v : Int) : Bnd → Option Tm
 | [] => none
 | x :: r => if v = x.1 then some x.2 else bget v r
def lookF (B : Bnd) : Nat → Tm → Tm
 | 0, t => t
 | f + 1, t => if t.k = 0 then match bget t.n B with | none => t | some u => lookF B f u else t
def lookM (B : Bnd) (t : Tm) : Tm := lookF B B.length t
def Bok : Bnd → Prop
 | [] => True
 | x :: r => bget x.1 r = none ∧ (x.2.k = 0 → x.2.n ≠ x.1 ∧ bget x.2.n r = none) ∧ Bok r
def anyL (g : Tm → Nat → Bool × Nat) : Ts → Nat → Bool × Nat
 | .nil, w => (false, w)
 | .cons k n s a r, w => if (g ⟨k, n, s, a⟩ w).1 = true then (true, (g ⟨k, n, s, a⟩ w).2) else anyL g r (g ⟨k, n, s, a⟩ w).2
def occM (B : Bnd) (v : Int) : Nat → Tm → Nat → Bool × Nat
 | 0, _, w => (false, w + 1)
 | f + 1, t, w => if 400 < w + 1 then (false, w + 1) else if (lookM B t).k = 0 then (decide ((lookM B t).n = v), w + 1) else anyL (occM B v f) (lookM B t).ar (w + 1)
structure Us where
 ok : Bool
 B : Bnd
 w : Nat
def allL (g : Tm → Tm → Bnd → Nat → Us) : Ts → Ts → Bnd → Nat → Us
 | .cons k n s a r, .cons k' n' s' a' r', B, w => if (g ⟨k, n, s, a⟩ ⟨k', n', s', a'⟩ B w).ok = true then allL g r r' (g ⟨k, n, s, a⟩ ⟨k', n', s', a'⟩ B w).B (g ⟨k, n, s, a⟩ ⟨k', n', s', a'⟩ B w).w else g ⟨k, n, s, a⟩ ⟨k', n', s', a'⟩ B w
 | _, _, B, w => ⟨true, B, w⟩
def asgM (v : Int) (t : Tm) (B : Bnd) (w : Nat) : Us :=
 if (occM B v 401 t w).1 = true ∨ 400 < (occM B v 401 t w).2 then ⟨false, B, (occM B v 401 t w).2⟩ else ⟨true, (v, t) :: B, (occM B v 401 t w).2⟩
def alikeT (x y : Tm) : Bool := decide (x.k = y.k) && decide (x.n = y.n) && decide (x.s = y.s) && decide (x.ar.length = y.ar.length)
def uniM : Nat → Tm → Tm → Bnd → Nat → Us
 | 0, _, _, B, w => ⟨false, B, w + 1⟩
 | f + 1, a, b, B, w => if 400 < w + 1 then ⟨false, B, w + 1⟩ else
  if (lookM B a).k = 0 then
   if (lookM B b).k = 0 then ⟨true, if (lookM B a).n = (lookM B b).n then B else ((lookM B a).n, lookM B b) :: B, w + 1⟩
   else asgM (lookM B a).n (lookM B b) B (w + 1)
  else if (lookM B b).k = 0 then asgM (lookM B b).n (lookM B a) B (w + 1)
  else if alikeT (lookM B a) (lookM B b) = true then allL (uniM f) (lookM B a).ar (lookM B b).ar B (w + 1)
  else ⟨false, B, w + 1⟩
def mapL (g : Tm → Nat → Option (Tm × Nat)) : Ts → Nat → Option (Ts × Nat)
 | .nil, l => some (.nil, l)
 | .cons k n s a r, l => match g ⟨k, n, s, a⟩ l with
  | none => none
  | some (t, l') => match mapL g r l' with
   | none => none
   | some (T, l'') => some (.cons t.k t.n t.s t.ar T, l'')
def appM (B : Bnd) : Nat → Tm → Nat → Option (Tm × Nat)
 | 0, _, _ => none
 | f + 1, t, l => if l = 0 then none else match mapL (appM B f) (lookM B t).ar (l - 1) with
  | none => none
  | some (T, l') => some (⟨(lookM B t).k, (lookM B t).n, (lookM B t).s, T⟩, l')
abbrev Gl := Tm × Nat
structure Ch where
 g : Gl
 next : List Gl
 cls : List Cl
 bound : Nat
structure SS where
 B : Bnd
 fresh : Nat
 fuel : Nat
 goals : List Gl
 ch : List Ch
 ev : List Ts
def undoM (B : Bnd) (n : Nat) : Bnd := B.drop (B.length - n)
def bodyG : Ts → Int → Nat → List Gl → List Gl
 | .nil, _, _, rest => rest
 | .cons k n s a r, m, o, rest => (Tm.shift ⟨k, n, s, a⟩ m, o) :: bodyG r m o rest
def cntC : List Ch → Nat
 | [] => 0
 | c :: r => c.cls.length + cntC r
def Cl.head (c : Cl) : Tm := ⟨c.k, c.n, c.s, c.hd⟩
def popC (c : Ch) (more : List Cl) (cs : List Ch) : List Ch := match more with
 | [] => cs
 | _ :: _ => ⟨c.g, c.next, more, c.bound⟩ :: cs
def retryM : Nat → SS → Int × SS
 | 0, s => (2, s)
 | f + 1, s => match s.ch with
  | [] => (2, s)
  | c :: cs => match c.cls with
   | [] => (2, s)
   | cl :: more =>
    let r := uniM 401 (cl.head.shift s.fresh) c.g.1 (undoM s.B c.bound) 0
    let s' : SS := ⟨r.B, s.fresh + cl.vars.toNat, s.fuel, s.goals, popC c more cs, s.ev⟩
    if 400 < r.w then (4, s')
    else if r.ok = true then (0, ⟨s'.B, s'.fresh, s'.fuel, bodyG cl.bd s.fresh cs.length c.next, s'.ch, s'.ev⟩)
    else retryM f s'
def againM (s : SS) : Int × SS := retryM (cntC s.ch + 1) s
def SS.setB (s : SS) (B : Bnd) : SS := ⟨B, s.fresh, s.fuel, s.goals, s.ch, s.ev⟩
def equalM (a b : Tm) (s : SS) : Int × SS :=
 let r := uniM 401 a b s.B 0
 if 400 < r.w then (4, s.setB r.B) else if r.ok = true then (0, s.setB r.B) else againM (s.setB r.B)
def Ts.at_ : Ts → Nat → Tm
 | .nil, _ => ⟨0, 0, ⟨#[]⟩, .nil⟩
 | .cons k n s a _, 0 => ⟨k, n, s, a⟩
 | .cons _ _ _ _ r, i + 1 => r.at_ i
def lessM (T : Ts) (s : SS) : Int × SS :=
 let a := lookM s.B (T.at_ 0)
 let b := lookM s.B (T.at_ 1)
 if a.k ≠ 2 ∨ b.k ≠ 2 then (5, s) else if b.n ≤ a.n then againM s else (0, s)
def addM (T : Ts) (s : SS) : Int × SS :=
 let a := lookM s.B (T.at_ 0)
 let b := lookM s.B (T.at_ 1)
 if a.k ≠ 2 ∨ b.k ≠ 2 then (5, s) else if a.n + b.n < -1099511627776 ∨ 1099511627776 < a.n + b.n then (5, s)
 else equalM (T.at_ 2) ⟨2, a.n + b.n, ⟨#[]⟩, .nil⟩ s
def builtM (g : Gl) (s : SS) : Int × SS :=
 if g.1.s.toList = [33] then (0, ⟨s.B, s.fresh, s.fuel, s.goals, s.ch.drop (s.ch.length - g.2), s.ev⟩)
 else if g.1.s.toList = [116, 114, 117, 101] then (0, s)
 else if g.1.s.toList = [101, 113] then equalM (g.1.ar.at_ 0) (g.1.ar.at_ 1) s
 else if g.1.s.toList = [108, 101, 115, 115] then lessM g.1.ar s
 else if g.1.s.toList = [97, 100, 100] then addM g.1.ar s
 else againM s
def varsM (B : Bnd) : Nat → Nat → Nat → Option (Ts × Nat)
 | 0, _, l => some (.nil, l)
 | m + 1, v, l => match appM B 201 ⟨0, v, ⟨#[]⟩, .nil⟩ l with
  | none => none
  | some (t, l') => match varsM B m (v + 1) l' with
   | none => none
   | some (T, l'') => some (.cons t.k t.n t.s t.ar T, l'')
def answerM (vars : Nat) (s : SS) : Int × SS := match varsM s.B vars 0 200 with
 | none => (4, s)
 | some (T, _) =>
  let s' : SS := ⟨s.B, s.fresh, s.fuel, s.goals, s.ch, s.ev ++ [T.tidy]⟩
  if s'.ev.length = 12 then (6, s') else againM s'
def fitsC (g : Tm) (c : Cl) : Bool := decide (c.s = g.s) && decide (c.hd.length = g.ar.length)
def stepM (p : List Cl) (vars : Nat) (s : SS) : Int × SS := match s.goals with
 | [] => answerM vars s
 | g :: rest =>
  if s.fuel = 0 then (3, s)
  else if builtB g.1.s.toList g.1.ar.length = true then builtM g ⟨s.B, s.fresh, s.fuel - 1, rest, s.ch, s.ev⟩
  else match p.filter (fitsC g.1) with
   | [] => (5, ⟨s.B, s.fresh, s.fuel - 1, rest, s.ch, s.ev⟩)
   | c :: cs => againM ⟨s.B, s.fresh, s.fuel - 1, rest, ⟨g, rest, c :: cs, s.B.length⟩ :: s.ch, s.ev⟩
abbrev Ev := Int × Ts
def evsOf (l : List Ts) : List Ev := l.map fun T => (1, T)
def runM (p : List Cl) (vars : Nat) : Nat → SS → List Ev
 | 0, _ => []
 | n + 1, s => if (stepM p vars s).1 = 0 then runM p vars n (stepM p vars s).2 else evsOf (stepM p vars s).2.ev ++ [((stepM p vars s).1, .nil)]
def startM (q : Ts) (vars fuel : Nat) : SS := ⟨[], vars, fuel, bodyG q 0 0 [], [], []⟩
def allM (p : List Cl) (q : Ts) (vars fuel : Int) : List Ev × Int :=
 if pB p = false ∨ qB vars q = false then ([], 1)
 else if fuel < 0 ∨ 150 < fuel then ([], 2)
 else (runM p vars.toNat 4000 (startM q vars.toNat fuel.toNat), 0)
end Go.Proofs.YtehhgmeaggempaaDoor
namespace Go.Proofs.YtehhgmeaggempaaDoor
open Go.RowKit
set_option linter.unusedVariables false
set_option linter.unusedSimpArgs false
structure GB where
 v : Int
 t : LT
def bnd (G : List GB) : Bnd := G.map fun x => (x.v, x.t.tm)
def ents (G : List GB) : List (Int × Value) := (G.map fun x => (x.v, tv x.t)).reverse
def trailV (G : List GB) : List Value := (G.map fun x => Value.int .i64 x.v).reverse
def GRd (G : List GB) (w : World) : Prop := ∀ x ∈ G, LRd x.t w
def gget (v : Int) : List GB → Option GB
 | [] => none
 | x :: r => if v = x.v then some x else gget v r
theorem bget_gget (v : Int) : ∀ G : List GB, bget v (bnd G) = (gget v G).map (·.t.tm)
 | [] => rfl
 | x :: r => by
  show (if v = x.v then some x.t.tm else bget v (bnd r)) = _
  simp only [gget]
  by_cases e : v = x.v
  ·rw [if_pos e, if_pos e]; rfl
  ·rw [if_neg e, if_neg e]; exact bget_gget v r
theorem aget_snoc (v : Int) (y : Int × Value) : ∀ A : List (Int × Value), aget v (A ++ [y]) = (aget v A).orElse fun _ => if v = y.1 then some y.2 else none
 | [] => by simp [aget]
 | x :: r => by
  simp only [List.cons_append, aget]
  by_cases e : v = x.1
  ·rw [if_pos e, if_pos e]; rfl
  ·rw [if_neg e, if_neg e]; exact aget_snoc v y r
theorem ents_cons (x : GB) (G : List GB) : ents (x :: G) = ents G ++ [(x.v, tv x.t)] := by simp [ents]
theorem trail_cons (x : GB) (G : List GB) : trailV (x :: G) = trailV G ++ [.int .i64 x.v] := by simp [trailV]
theorem bnd_len (G : List GB) : (bnd G).length = G.length := by simp [bnd]
theorem aget_gget (v : Int) : ∀ G : List GB, Bok (bnd G) → aget v (ents G) = (gget v G).map fun x => tv x.t
 | [], _ => rfl
 | x :: r, h => by
  have ih := aget_gget v r h.2.2
  rw [ents_cons, aget_snoc, ih]
  simp only [gget]
  by_cases e : v = x.v
  ·have h0 : bget x.v (bnd r) = none := h.1
   rw [bget_gget, Option.map_eq_none_iff] at h0
   rw [if_pos e, if_pos e, e, h0]; rfl
  ·rw [if_neg e, if_neg e]
   cases gget v r <;> rfl
theorem gget_mem {v : Int} : ∀ {G : List GB} {x : GB}, gget v G = some x → x ∈ G ∧ x.v = v
 | y :: r, x, h => by
  simp only [gget] at h
  by_cases e : v = y.v
  ·rw [if_pos e] at h; cases h; exact ⟨.head _, e.symm⟩
  ·rw [if_neg e] at h
   obtain ⟨h1, h2⟩ := gget_mem h
   exact ⟨.tail _ h1, h2⟩
structure BM (G : List GB) (it : TypeId) (es : Array MapEntry) (TR : Value) (O : List (Nat × Obj)) (F : List (World → Prop)) : Prop where
 mp : MapO es (ents G)
 row : Row it 1 TR G.length (trailV G) O
 rd : Und F (GRd G)
 ok : Bok (bnd G)
theorem BM.tail {G : List GB} {it : TypeId} {es : Array MapEntry} {TR : Value} {O : List (Nat × Obj)} {F : List (World → Prop)} {φ : World → Prop} (h : BM G it es TR O F) : BM G it es TR O (φ :: F) := ⟨h.mp, h.row, h.rd.tail, h.ok⟩
theorem BM.mono {G : List GB} {it : TypeId} {es : Array MapEntry} {TR : Value} {O : List (Nat × Obj)} {F F' : List (World → Prop)} (h : BM G it es TR O F) (hs : ∀ φ ∈ F, φ ∈ F') : BM G it es TR O F' := ⟨h.mp, h.row, h.rd.mono hs, h.ok⟩
end Go.Proofs.YtehhgmeaggempaaDoor
namespace Go.Proofs.YtehhgmeaggempaaDoor
open Go.RowKit
set_option linter.unusedVariables false
set_option linter.unusedSimpArgs false
structure GN where
 t : LT
 o : Nat
 blk : Nat
def hdA : List GN → Option Addr
 | [] => none
 | g :: _ => some ⟨g.blk, 0, none⟩
abbrev ptrOf (gs : List GN) : Value := .pointer (hdA gs)
abbrev gcs (t : LT) (o : Nat) (p : Value) : List Value := [.int .i64 t.k, .int .i64 t.n, .string t.s, .slice t.A t.ar.len t.c, .int .i64 (o : Nat), p]
def PRd (ty : TypeId) : List GN → World → Prop
 | [], _ => True
 | g :: r, w => w.heap[g.blk]? = some (.cells (gcs g.t g.o (ptrOf r)).toArray ty) ∧ LRd g.t w ∧ PRd ty r w
def glsOf (gs : List GN) : List Gl := gs.map fun g => (g.t.tm, g.o)
theorem PRd.cells {ty : TypeId} {g : GN} {r : List GN} {w : World} (h : PRd ty (g :: r) w) : w.cell? ⟨g.blk, 0, none⟩ = some (.int .i64 g.t.k) ∧ w.cell? ⟨g.blk, 1, none⟩ = some (.int .i64 g.t.n) ∧ w.cell? ⟨g.blk, 2, none⟩ = some (.string g.t.s) ∧ w.cell? ⟨g.blk, 3, none⟩ = some (.slice g.t.A g.t.ar.len g.t.c) ∧ w.cell? ⟨g.blk, 4, none⟩ = some (.int .i64 (g.o : Nat)) ∧ w.cell? ⟨g.blk, 5, none⟩ = some (ptrOf r) := by
 have hb := h.1
 refine ⟨?_, ?_, ?_, ?_, ?_, ?_⟩ <;> rw [cell_own hb] <;> rfl
structure LC where
 hd : LT
 bA : Option Addr
 bc : Nat
 bd : TA
 vars : Int
def LC.cl (c : LC) : Cl := ⟨c.hd.k, c.hd.n, c.hd.s, c.hd.ar.ts, c.bd.ts, c.vars⟩
abbrev lcs (c : LC) : List Value := [.int .i64 c.hd.k, .int .i64 c.hd.n, .string c.hd.s, .slice c.hd.A c.hd.ar.len c.hd.c, .slice c.bA c.bd.len c.bc, .int .i64 c.vars]
def lcsL : List LC → List Value
 | [] => []
 | c :: r => lcs c ++ lcsL r
theorem lcsL_app (L M : List LC) : lcsL (L ++ M) = lcsL L ++ lcsL M := by
 induction L with
 | nil => rfl
 | cons c r ih => simp [lcsL, ih]
def ClsAt (w : World) (b : Nat) : List LC → Nat → Prop
 | [], _ => True
 | c :: r, o => w.cell? ⟨b, o, none⟩ = some (.int .i64 c.hd.k) ∧ w.cell? ⟨b, o + 1, none⟩ = some (.int .i64 c.hd.n) ∧ w.cell? ⟨b, o + 2, none⟩ = some (.string c.hd.s) ∧ w.cell? ⟨b, o + 3, none⟩ = some (.slice c.hd.A c.hd.ar.len c.hd.c) ∧
     w.cell? ⟨b, o + 4, none⟩ = some (.slice c.bA c.bd.len c.bc) ∧ w.cell? ⟨b, o + 5, none⟩ = some (.int .i64 c.vars) ∧ ClsAt w b r (o + 6)
def LCRd (c : LC) (w : World) : Prop := LRd c.hd w ∧ ArA c.bA c.bc c.bd w
def ClsR (L : List LC) (A : Option Addr) (c : Nat) (w : World) : Prop := L.length ≤ c ∧ (0 < L.length → ∃ b o, A = some ⟨b, o, none⟩ ∧ ClsAt w b L o) ∧ ∀ x ∈ L, LCRd x w
theorem ClsAt.skip {w : World} {b : Nat} {R : List LC} : ∀ {D : List LC} {o : Nat}, ClsAt w b (D ++ R) o → ClsAt w b R (o + D.length * 6)
 | [], o, h => by simpa using h
 | c :: D, o, ⟨_, _, _, _, _, _, h⟩ => by
  have := ClsAt.skip (R := R) (D := D) h
  rwa [show o + 6 + D.length * 6 = o + (c :: D).length * 6 by simp; omega] at this
theorem ClsR.some_ {L : List LC} {A : Option Addr} {c : Nat} {w : World} (h : ClsR L A c w) (hl : 0 < L.length) : ∃ b o, A = some ⟨b, o, none⟩ := by
 obtain ⟨b, o, e, _⟩ := h.2.1 hl
 exact ⟨b, o, e⟩
theorem ClsR.cells {D R : List LC} {x : LC} {b o c : Nat} {w : World} (h : ClsR (D ++ x :: R) (some ⟨b, o, none⟩) c w) : w.cell? ⟨b, o + D.length * 6, none⟩ = some (.int .i64 x.hd.k) ∧ w.cell? ⟨b, o + D.length * 6 + 1, none⟩ = some (.int .i64 x.hd.n) ∧ w.cell? ⟨b, o + D.length * 6 + 2, none⟩ = some (.string x.hd.s) ∧ w.cell? ⟨b, o + D.length * 6 + 3, none⟩ = some (.slice x.hd.A x.hd.ar.len x.hd.c) ∧
   w.cell? ⟨b, o + D.length * 6 + 4, none⟩ = some (.slice x.bA x.bd.len x.bc) ∧ w.cell? ⟨b, o + D.length * 6 + 5, none⟩ = some (.int .i64 x.vars) := by
 obtain ⟨b', o', e, hs⟩ := h.2.1 (by simp; omega)
 simp only [Option.some.injEq, Addr.mk.injEq, and_true] at e
 obtain ⟨rfl, rfl⟩ := e
 obtain ⟨h0, h1, h2, h3, h4, h5, _⟩ := hs.skip
 exact ⟨h0, h1, h2, h3, h4, h5⟩
theorem ClsR.rest {x : LC} {R : List LC} {b o c : Nat} {w : World} (h : ClsR (x :: R) (some ⟨b, o, none⟩) c w) : ClsR R (some ⟨b, o + 6, none⟩) (c - 1) w := by
 have h1 := h.1
 simp only [List.length_cons] at h1
 refine ⟨by omega, fun _ => ⟨b, o + 6, rfl, ?_⟩, fun y hy => h.2.2 y (.tail _ hy)⟩
 obtain ⟨b', o', e, hs⟩ := h.2.1 (by simp)
 simp only [Option.some.injEq, Addr.mk.injEq, and_true] at e
 obtain ⟨rfl, rfl⟩ := e
 exact hs.2.2.2.2.2.2
theorem clsAt_of {w : World} {b : Nat} : ∀ {L : List LC} {o : Nat}, (∀ j u, (lcsL L)[j]? = some u → w.cell? ⟨b, o + j, none⟩ = some u) → ClsAt w b L o
 | [], _, _ => trivial
 | c :: r, o, h => ⟨h 0 _ rfl, h 1 _ rfl, h 2 _ rfl, h 3 _ rfl, h 4 _ rfl, h 5 _ rfl, clsAt_of fun j u hu => by
     rw [show o + 6 + j = o + (j + 6) by omega]
     exact h (j + 6) u (by simpa [lcsL] using hu)⟩
theorem St.freezeC {M : List Nat} {w0 w : World} {H O : List (Nat × Obj)} {F : List (World → Prop)} {el : Nat} {A : Option Addr} {c : Nat} {L : List LC} (hr : Row el 6 (.slice A L.length c) L.length (lcsL L) O) (hR : ∀ x ∈ L, Und F (LCRd x)) (hS : St M w0 (O ++ H) F w) :
  ∃ F', (∀ φ ∈ F, φ ∈ F') ∧ Und F' (ClsR L A c) ∧ St M w0 H F' w := by
 obtain ⟨F', h1, h2, h3⟩ := St.freezeL hS
 refine ⟨F', h1, fun w' hw' => ⟨hr.cap, fun hl => ?_, fun x hx => (hR x hx).mono h1 w' hw'⟩, h3⟩
 obtain ⟨g, sp, rfl, rfl, _⟩ := hr.some_ hl
 refine ⟨g, 0, rfl, clsAt_of fun j u hu => ?_⟩
 have hjl : j < (lcsL L).length := by
  rcases Nat.lt_or_ge j (lcsL L).length with hh | hh
  ·exact hh
  ·rw [List.getElem?_eq_none hh] at hu; cases hu
 rw [cell_own (h2 _ (.head _) w' hw'), Nat.zero_add, List.getElem?_append_left hjl]; exact hu
theorem SegC.locate {w : World} {p : Nat → Prop} : ∀ {L : List Cl} {b o : Nat}, SegC w p L b o → ∃ X : List LC, X.map LC.cl = L ∧ ∀ w' : World, (∀ k, p k → k < w.heap.size → w'.heap[k]? = w.heap[k]?) → ClsAt w' b X o ∧ ∀ x ∈ X, LCRd x w'
 | [], b, o, _ => ⟨[], rfl, fun _ _ => ⟨trivial, fun x hx => by cases hx⟩⟩
 | c :: r, b, o, ⟨h0, h1, h2, h3, ⟨v, h4, h5⟩, ⟨u, h6, h7⟩, h8, h9⟩ => by
  obtain ⟨X, hX, hX'⟩ := SegC.locate h9
  obtain ⟨A1, c1, L1, rfl, e1, k1⟩ := h5.locate
  obtain ⟨A2, c2, L2, rfl, e2, k2⟩ := h7.locate
  refine ⟨⟨⟨c.k, c.n, c.s, A1, c1, L1⟩, A2, c2, L2, c.vars⟩ :: X, ?_, fun w' hw => ?_⟩
  ·simp only [List.map_cons, hX, LC.cl, e1, e2]
  ·have hc : ∀ j, w'.cell? ⟨b, j, none⟩ = w.cell? ⟨b, j, none⟩ := fun j => World.cell?_of_block (hw b h0 (lt_of_cell h1))
   obtain ⟨g1, g2⟩ := hX' w' hw
   refine ⟨⟨(hc _).trans h1, (hc _).trans h2, (hc _).trans h3, (hc _).trans h4, (hc _).trans h6, (hc _).trans h8, g1⟩, fun x hx => ?_⟩
   rcases List.mem_cons.1 hx with rfl | hx
   ·exact ⟨k1 w' hw, k2 w' hw⟩
   ·exact g2 x hx
theorem SlC.locate {w : World} {p : Nat → Prop} {L : List Cl} {v : Value} (h : SlC w p v L) : ∃ (A : Option Addr) (c : Nat) (X : List LC), v = .slice A X.length c ∧ X.map LC.cl = L ∧ ∀ w' : World, (∀ k, p k → k < w.heap.size → w'.heap[k]? = w.heap[k]?) → ClsR X A c w' := by
 obtain ⟨A, c, rfl, h6, h7⟩ := h
 by_cases hl : 0 < L.length
 ·obtain ⟨b', o', e, h9⟩ := h7 hl
  obtain ⟨X, hX, hX'⟩ := h9.locate
  have e1 : X.length = L.length := by rw [← hX]; simp
  exact ⟨A, c, X, by rw [e1], hX, fun w' hw => ⟨by rw [e1]; exact h6, fun _ => ⟨b', o', e, (hX' w' hw).1⟩, (hX' w' hw).2⟩⟩
 ·have e0 : L = [] := List.eq_nil_of_length_eq_zero (by omega)
  subst e0
  exact ⟨A, c, [], rfl, rfl, fun w' hw => ⟨Nat.zero_le _, fun h => by simp at h, fun x hx => by cases hx⟩⟩
end Go.Proofs.YtehhgmeaggempaaDoor
namespace Go.Proofs.YtehhgmeaggempaaDoor
set_option linter.unusedVariables false
theorem bget_app (v : Int) (Y : Bnd) : ∀ X : Bnd, bget v (X ++ Y) = (bget v X).orElse fun _ => bget v Y
 | [] => by simp [bget]
 | x :: r => by
  simp only [List.cons_append, bget]
  by_cases e : v = x.1
  ·rw [if_pos e, if_pos e]; rfl
  ·rw [if_neg e, if_neg e]; exact bget_app v Y r
theorem Bok.drop {B : Bnd} (h : Bok B) : ∀ m, Bok (B.drop m) := by
 induction B with
 | nil => intro m; simpa using h
 | cons x r ih =>
  intro m
  cases m with
  | zero => exact h
  | succ m => exact ih h.2.2 m
theorem bget_pos {v : Int} {u : Tm} : ∀ {B : Bnd}, bget v B = some u → ∃ p, p < B.length ∧ B.drop p = (v, u) :: B.drop (p + 1)
 | [], h => by cases h
 | x :: r, h => by
  simp only [bget] at h
  by_cases e : v = x.1
  ·rw [if_pos e] at h
   cases h
   exact ⟨0, by simp, by simp [e]⟩
  ·rw [if_neg e] at h
   obtain ⟨p, h1, h2⟩ := bget_pos h
   exact ⟨p + 1, by simp; omega, by simpa using h2⟩
def Clear (B : Bnd) (m : Nat) (t : Tm) : Prop := t.k = 0 → bget t.n (B.drop m) = none
theorem Clear.step {B : Bnd} {m : Nat} {t u : Tm} (hB : Bok B) (h : Clear B m t) (hk : t.k = 0) (hg : bget t.n B = some u) : ∃ p, p < m ∧ Clear B p u := by
 obtain ⟨p, hp, hd⟩ := bget_pos hg
 refine ⟨p, ?_, fun hu => ?_⟩
 ·rcases Nat.lt_or_ge p m with hl | hl
  ·exact hl
  ·exfalso
   have h0 := h hk
   have e : B.drop m = (B.drop m).take (p - m) ++ B.drop p := by
    conv => lhs; rw [← List.take_append_drop (p - m) (B.drop m)]
    rw [List.drop_drop, show m + (p - m) = p by omega]
   rw [e, bget_app, hd] at h0
   have h1 : bget t.n ((t.n, u) :: B.drop (p + 1)) = some u := by simp [bget]
   rw [h1] at h0
   cases hx : bget t.n ((B.drop m).take (p - m)) <;> rw [hx] at h0 <;> cases h0
 ·have hb := hB.drop p
  rw [hd] at hb ⊢
  obtain ⟨h1, h2, h3⟩ := hb
  obtain ⟨h4, h5⟩ := h2 hu
  simp only [bget]
  rw [if_neg h4]; exact h5
theorem Clear.start (B : Bnd) (t : Tm) : Clear B B.length t := fun _ => by simp [bget]
theorem lookF_nonvar {B : Bnd} {t : Tm} (h : t.k ≠ 0) : ∀ f, lookF B f t = t
 | 0 => rfl
 | f + 1 => by simp [lookF, h]
theorem lookF_free {B : Bnd} {t : Tm} (h : bget t.n B = none) : ∀ f, lookF B f t = t
 | 0 => rfl
 | f + 1 => by simp [lookF, h]
theorem lookF_step {B : Bnd} {t u : Tm} (hk : t.k = 0) (h : bget t.n B = some u) (f : Nat) : lookF B (f + 1) t = lookF B f u := by simp [lookF, hk, h]
theorem lookF_enough {B : Bnd} (hB : Bok B) : ∀ (p : Nat) (t : Tm), Clear B p t → ∀ f, p ≤ f → lookF B f t = lookF B p t := by
 intro p
 induction p using Nat.strongRecOn with
 | _ p ih =>
  intro t hc f hf
  by_cases hk : t.k = 0
  ·cases hg : bget t.n B with
   | none => rw [lookF_free hg, lookF_free hg]
   | some u =>
    obtain ⟨q, hq, hcq⟩ := hc.step hB hk hg
    obtain ⟨f, rfl⟩ : ∃ f', f = f' + 1 := ⟨f - 1, by omega⟩
    obtain ⟨p, rfl⟩ : ∃ p', p = p' + 1 := ⟨p - 1, by omega⟩
    rw [lookF_step hk hg, lookF_step hk hg, ih q hq u hcq f (by omega), ih q hq u hcq p (by omega)]
  ·rw [lookF_nonvar hk, lookF_nonvar hk]
theorem look_nonvar {B : Bnd} {t : Tm} (h : t.k ≠ 0) : lookM B t = t := lookF_nonvar h _
theorem look_free {B : Bnd} {t : Tm} (h : bget t.n B = none) : lookM B t = t := lookF_free h _
theorem look_bound {B : Bnd} {t u : Tm} (hB : Bok B) (hk : t.k = 0) (h : bget t.n B = some u) : lookM B t = lookM B u := by
 obtain ⟨p, hp, hc⟩ := (Clear.start B t).step hB hk h
 unfold lookM
 have : B.length = (B.length - 1) + 1 := by omega
 conv => lhs; rw [this, lookF_step hk h]
 exact (lookF_enough hB p u hc _ (by omega)).trans (lookF_enough hB p u hc _ (by omega)).symm
theorem lookF_end {B : Bnd} (hB : Bok B) : ∀ (p : Nat) (t : Tm), Clear B p t → (lookF B p t).k = 0 → bget (lookF B p t).n B = none := by
 intro p
 induction p using Nat.strongRecOn with
 | _ p ih =>
  intro t hc
  by_cases hk : t.k = 0
  ·cases hg : bget t.n B with
   | none => rw [lookF_free hg]; exact fun _ => hg
   | some u =>
    obtain ⟨q, hq, hcq⟩ := hc.step hB hk hg
    obtain ⟨p, rfl⟩ : ∃ p', p = p' + 1 := ⟨p - 1, by omega⟩
    rw [lookF_step hk hg, lookF_enough hB q u hcq p (by omega)]
    exact ih q hq u hcq
  ·rw [lookF_nonvar hk]; exact fun h => absurd h hk
theorem look_end {B : Bnd} (hB : Bok B) (t : Tm) (h : (lookM B t).k = 0) : bget (lookM B t).n B = none := lookF_end hB _ t (Clear.start B t) h
theorem look_look {B : Bnd} (hB : Bok B) (t : Tm) : lookM B (lookM B t) = lookM B t := by
 by_cases h : (lookM B t).k = 0
 ·exact look_free (look_end hB t h)
 ·exact look_nonvar h
theorem lookF_mem {B : Bnd} : ∀ (f : Nat) (t : Tm), lookF B f t = t ∨ ∃ x ∈ B, lookF B f t = x.2
 | 0, t => .inl rfl
 | f + 1, t => by
  by_cases hk : t.k = 0
  ·cases hg : bget t.n B with
   | none => exact .inl (lookF_free hg _)
   | some u =>
    rw [lookF_step hk hg]
    have hm : ∃ x ∈ B, u = x.2 := by
     obtain ⟨p, _, hd⟩ := bget_pos hg
     exact ⟨(t.n, u), List.mem_of_mem_drop (i := p) (by rw [hd]; exact .head _), rfl⟩
    rcases lookF_mem f u with h | h
    ·rw [h]; exact .inr hm
    ·exact .inr h
  ·exact .inl (lookF_nonvar hk _)
theorem look_mem {B : Bnd} (t : Tm) : lookM B t = t ∨ ∃ x ∈ B, lookM B t = x.2 := lookF_mem _ t
end Go.Proofs.YtehhgmeaggempaaDoor
namespace Go.Proofs.YtehhgmeaggempaaDoor
open Go.RowKit
set_option linter.unusedVariables false
set_option linter.unusedSimpArgs false
structure EN where
 v : Int
 t : LT
 blk : Nat
def eA : List EN → Option Addr
 | [] => none
 | x :: _ => some ⟨x.blk, 0, none⟩
abbrev eptr (E : List EN) : Value := .pointer (eA E)
abbrev ecs (v : Int) (t : LT) (p : Value) : List Value := [.int .i64 v, .int .i64 t.k, .int .i64 t.n, .string t.s, .slice t.A t.ar.len t.c, p]
def ERd (ty : TypeId) : List EN → World → Prop
 | [], _ => True
 | x :: r, w => w.heap[x.blk]? = some (.cells (ecs x.v x.t (eptr r)).toArray ty) ∧ LRd x.t w ∧ ERd ty r w
def envB (E : List EN) : Bnd := E.map fun x => (x.v, x.t.tm)
theorem ERd.cells {ty : TypeId} {x : EN} {r : List EN} {w : World} (h : ERd ty (x :: r) w) : w.cell? ⟨x.blk, 0, none⟩ = some (.int .i64 x.v) ∧ w.cell? ⟨x.blk, 1, none⟩ = some (.int .i64 x.t.k) ∧ w.cell? ⟨x.blk, 2, none⟩ = some (.int .i64 x.t.n) ∧ w.cell? ⟨x.blk, 3, none⟩ = some (.string x.t.s) ∧ w.cell? ⟨x.blk, 4, none⟩ = some (.slice x.t.A x.t.ar.len x.t.c) ∧ w.cell? ⟨x.blk, 5, none⟩ = some (eptr r) := by
 have hb := h.1
 refine ⟨?_, ?_, ?_, ?_, ?_, ?_⟩ <;> rw [cell_own hb] <;> rfl
theorem ERd.skip {ty : TypeId} {w : World} {R : List EN} : ∀ {D : List EN}, ERd ty (D ++ R) w → ERd ty R w
 | [], h => h
 | x :: D, h => ERd.skip (D := D) h.2.2
theorem env_none {c : Int} : ∀ {E : List EN}, (∀ x ∈ E, x.v ≠ c) → bget c (envB E) = none
 | [], _ => rfl
 | x :: r, h => by
  show bget c ((x.v, x.t.tm) :: envB r) = none
  simp only [bget]
  rw [if_neg fun e => h x (List.mem_cons_self ..) e.symm]
  exact env_none fun y hy => h y (List.mem_cons_of_mem _ hy)
theorem env_some {c : Int} {x : EN} {R : List EN} (hx : x.v = c) : ∀ {D : List EN}, (∀ x ∈ D, x.v ≠ c) → bget c (envB (D ++ x :: R)) = some x.t.tm
 | [], _ => by
  show bget c ((x.v, x.t.tm) :: envB R) = _
  simp only [bget]; rw [if_pos hx.symm]
 | y :: D, h => by
  show bget c ((y.v, y.t.tm) :: envB (D ++ x :: R)) = _
  simp only [bget]
  rw [if_neg fun e => h y (List.mem_cons_self ..) e.symm]
  exact env_some hx fun z hz => h z (List.mem_cons_of_mem _ hz)
section
variable {P : Program} {n : Nat} {e : Env} {w : World} {ty : TypeId} {pos : String} {after : Array Edge} {dst : Option Nat} {x y : Operand} {t t2 : TypeId}
theorem run_neq_nil {el : TypeId} {q : Option Addr} (hx : ev n e x = .pointer q) (hy : ev n e y = .pointer none) (hT : isPtrP P t = some el) :
  (execOp (ev n e) ⟨dst, .binOp .neq t x y t2, ty, pos, after, none⟩).run P w = .ok (.value (.bool (!q.isNone))) w := by
 have h1 := run_equal_ptr_none (w := w) (q := q) hT
 have h2 : (execOp (ev n e) ⟨dst, .binOp .neq t x y t2, ty, pos, after, none⟩) = (Op.equal t (.pointer q) (.pointer none)).bind fun r => .pure (.value (.bool (!r))) := by
  simp only [execOp, hx, hy, eqGuard, binOp]
  simp only [bind, pure, Bool.not_true, Bool.false_eq_true, if_false, Sem.bind]
  exact (Sem.bind_assoc' _ _ _)
 rw [h2, Sem.run_bind', h1]
 rfl
theorem run_neq_nil_no {el : TypeId} (hx : ev n e x = .pointer none) (hy : ev n e y = .pointer none) (hT : isPtrP P t = some el) :
  (execOp (ev n e) ⟨dst, .binOp .neq t x y t2, ty, pos, after, none⟩).run P w = .ok (.value (.bool false)) w := run_neq_nil hx hy hT
theorem run_neq_nil_yes {el : TypeId} {a : Addr} (hx : ev n e x = .pointer (some a)) (hy : ev n e y = .pointer none) (hT : isPtrP P t = some el) :
  (execOp (ev n e) ⟨dst, .binOp .neq t x y t2, ty, pos, after, none⟩).run P w = .ok (.value (.bool true)) w := run_neq_nil hx hy hT
end
end Go.Proofs.YtehhgmeaggempaaDoor
namespace Go.Proofs.YtehhgmeaggempaaDoor
open Go.RowKit
set_option linter.unusedVariables false
set_option linter.unusedSimpArgs false
set_option maxRecDepth 100000
set_option maxHeartbeats 1000000
abbrev tyE : TypeId := 156
section
variable {M : List Nat} {w0 : World} {H : List (Nat × Obj)} {F : List (World → Prop)}
theorem elook_any (E : List EN) (t : LT) (w : World) (hE : Und F (ERd tyE E)) (ht : Und F (LRd t)) (hB : Bok (envB E)) (hS : St M w0 H F w) :
  Calls Tryd.prog 109 #[eptr E, tv t] w fun e w' => ∃ u : LT, e = .returned (tv u) ∧ u.tm = lookM (envB E) t.tm ∧ Und F (LRd u) ∧ (u = t ∨ ∃ x ∈ E, u = x.t) ∧ St M w0 H F w' := by
 refine goes_enter2 Tryd.func109 rfl Tryd.ntmps109 rfl ?_
 refine goes_seq ?_
 refine goes_region ?_
 refine lst_box hS rfl rfl ?_
 clear hS
 intro b1 wx1 hS
 refine lst_alloc (cs := [_, _, _, _]) hS rfl rfl rfl ?_
 clear hS
 intro b2 wx2 hS
 refine lst_done ?_
 refine goes_seq ?_
 refine goes_seq ?_
 refine goes_region ?_
 refine lst_run (run_move (by conv=>lhs;whnf)) rfl ?_
 refine lst_run (run_assign (by conv=>lhs;whnf)) rfl ?_
 refine lst_done ?_
 refine goes_block ?_
 refine goes_loop1 5 (7 :: 8 :: 9 :: 10 :: 11 :: 12 :: 13 :: 14 :: 15 :: 16 :: 17 :: 18 :: 19 :: 20 :: 21 :: 22 :: 23 :: 24 :: 25 :: 26 :: 27 :: 28 :: 29 :: []) (fun (m : Nat) v w' => ∃ (c : LT) (D R : List EN) (p : Nat), E = D ++ R ∧ v = eptr R ∧ Clear (envB E) p c.tm ∧ lookM (envB E) c.tm = lookM (envB E) t.tm ∧ Und F (LRd c) ∧ (c = t ∨ ∃ x ∈ E, c = x.t) ∧ (∀ x ∈ D, x.v ≠ c.n) ∧ m = p * (E.length + 1) + R.length ∧ St M w0 ((b2, .cells [.int .i64 0, .int .i64 0, .string ⟨#[]⟩, .slice none 0 0].toArray 24) :: (b1, .cells (tcs c).toArray 24) :: H) F w') (fun m => m) ((envB E).length * (E.length + 1) + E.length) ?_ (by conv=>lhs;whnf) ?_
 ·exact ⟨t, [], E, (envB E).length, rfl, rfl, Clear.start _ _, rfl, ht, .inl rfl, fun x hx => (by cases hx), rfl, hS⟩
 clear hS
 rintro m _ w2 jv ⟨c, D, R, p, hD, rfl, hcl, hlk, hc, hcm, hno, hm, hS⟩ ih
 cases R with
 | nil =>
  have e0 : E = D := by rw [hD, List.append_nil]
  have hres : c.tm = lookM (envB E) t.tm := by
   rw [← hlk]
   by_cases hk : c.k = 0
   ·exact (look_free (t := c.tm) (env_none fun x hx => hno x (by rw [← e0]; exact hx))).symm
   ·exact (look_nonvar (t := c.tm) hk).symm
  refine goes_seq ?_
  refine goes_seq ?_
  refine goes_region ?_
  refine lst_run (run_move (by conv=>lhs;whnf)) rfl ?_
  refine lst_run (run_neq_nil_no rfl rfl rfl) rfl ?_
  refine lst_run (run_move (by conv=>lhs;whnf)) rfl ?_
  refine lst_pass rfl rfl rfl ?_
  refine lst_pass rfl rfl rfl ?_
  refine lst_pass rfl rfl rfl ?_
  refine lst_run (run_pick_f rfl (by conv=>lhs;whnf)) rfl ?_
  refine lst_done ?_
  refine goes_false rfl ?_
  refine goes_exit rfl ?_
  refine goes_seq ?_
  refine goes_region ?_
  refine lst_run (run_loadN_own (k := 4) hS rfl rfl rfl (by exact .tail .head) (by repeat constructor)) rfl ?_
  refine lst_storeN hS rfl (by conv=>lhs;whnf) rfl rfl (by exact .head) (by repeat constructor) (by exact .head) ?_
  clear hS
  intro wx3 hS
  refine lst_done ?_
  refine goes_retC (sz := 4) hS Tryd.func109 rfl rfl rfl rfl (by exact .head) (by repeat constructor) ?_
  exact ⟨c, rfl, hres, hc, hcm, hS.drop.drop⟩
 | cons x R =>
  have hE2 : Und F (ERd tyE (x :: R)) := fun w hw => by
   have := hE w hw
   rw [hD] at this; exact this.skip
  have hcc : ∀ {H'} w', St M w0 H' F w' → _ := fun w' hS => (hS.und hE2).cells
  by_cases hk : c.k = 0
  ·by_cases hv : x.v = c.n
   ·have hget : bget c.tm.n (envB E) = some x.t.tm := by rw [hD]; exact env_some hv hno
    obtain ⟨p', hp', hcl'⟩ := hcl.step hB hk hget
    have hlk' : lookM (envB E) x.t.tm = lookM (envB E) t.tm := by rw [← hlk, look_bound hB hk hget]
    have hxr : Und F (LRd x.t) := fun w hw => (hE2 w hw).2.1
    refine goes_seq ?_
    refine goes_seq ?_
    refine goes_region ?_
    refine lst_run (run_move (by conv=>lhs;whnf)) rfl ?_
    refine lst_run (run_neq_nil_yes rfl rfl rfl) rfl ?_
    refine lst_run (run_move (by conv=>lhs;whnf)) rfl ?_
    refine lst_guard rfl rfl ?_
    refine lst_run (run_fieldAddr (off := 0) rfl rfl) rfl ?_
    refine lst_guard rfl rfl ?_
    refine lst_run (run_load1_own hS rfl rfl (by exact .tail .head) (by repeat constructor)) rfl ?_
    refine lst_guard rfl rfl ?_
    refine lst_run (run_eql_yes rfl rfl (by omega)) rfl ?_
    refine lst_run (run_pick_t rfl (by conv=>lhs;whnf)) rfl ?_
    refine lst_done ?_
    refine goes_true rfl ?_
    refine goes_skip ?_
    refine goes_block ?_
    refine goes_seq ?_
    refine goes_draw (St _ _ _ _) 7 ((0, true) :: (1, true) :: (2, true) :: (3, true) :: (4, true) :: (5, true) :: (6, true) :: []) (by kernel_rfl) (by kernel_rfl) (hS.drew) ?_
    replace hS := hS.drew
    refine ord_read rfl (fun _ hS => run_move (by conv=>lhs;whnf)) rfl ?_
    refine ord_read rfl (fun _ hS => run_nilCheck rfl) rfl ?_
    refine ord_read rfl (fun _ hS => run_fieldAddr (off := 0) rfl rfl) rfl ?_
    refine ord_read rfl (fun _ hS => run_load1 rfl rfl (by exact (hcc _ hS).1)) rfl ?_
    refine ord_read rfl (fun _ hS => run_fieldAddr (off := 1) rfl rfl) rfl ?_
    refine ord_read rfl (fun _ hS => run_load1_own hS rfl rfl (by exact .tail .head) (by repeat constructor)) rfl ?_
    refine ord_read rfl (fun _ hS => run_eql_yes rfl rfl (by omega)) rfl ?_
    refine ord_end ?_
    refine lst_done ?_
    refine goes_true rfl ?_
    refine goes_region ?_
    refine lst_run (run_move (by conv=>lhs;whnf)) rfl ?_
    refine lst_run (run_nilCheck rfl) rfl ?_
    refine lst_run (run_fieldAddr (off := 1) rfl rfl) rfl ?_
    refine lst_run (run_load4 rfl rfl rfl (by exact (hcc _ hS).2.1) (by exact (hcc _ hS).2.2.1) (by exact (hcc _ hS).2.2.2.1) (by exact (hcc _ hS).2.2.2.2.1)) rfl ?_
    refine lst_run (run_move (by conv=>lhs;whnf)) rfl ?_
    refine lst_storeN hS rfl (by conv=>lhs;whnf) rfl rfl (by exact .tail .head) (by repeat constructor) (by exact .tail .head) ?_
    clear hS
    intro wx3 hS
    refine lst_run (run_assign (by conv=>lhs;whnf)) rfl ?_
    refine lst_done ?_
    refine goes_inBlock ?_
    have hlt : p' * (E.length + 1) + E.length < p * (E.length + 1) + (x :: R).length := by
     have h1 : (p' + 1) * (E.length + 1) ≤ p * (E.length + 1) := Nat.mul_le_mul_right _ hp'
     rw [Nat.add_mul] at h1
     simp only [List.length_cons]; omega
    refine ih (p' * (E.length + 1) + E.length) _ _ _ ?_ ?_ (by conv=>lhs;whnf) (by kernel_rfl)
    ·rw [hm]; exact hlt
    ·exact ⟨x.t, [], E, p', rfl, rfl, hcl', hlk', hxr, .inr ⟨x, by rw [hD]; simp, rfl⟩, fun y hy => (by cases hy), rfl, hS⟩
   ·refine goes_seq ?_
    refine goes_seq ?_
    refine goes_region ?_
    refine lst_run (run_move (by conv=>lhs;whnf)) rfl ?_
    refine lst_run (run_neq_nil_yes rfl rfl rfl) rfl ?_
    refine lst_run (run_move (by conv=>lhs;whnf)) rfl ?_
    refine lst_guard rfl rfl ?_
    refine lst_run (run_fieldAddr (off := 0) rfl rfl) rfl ?_
    refine lst_guard rfl rfl ?_
    refine lst_run (run_load1_own hS rfl rfl (by exact .tail .head) (by repeat constructor)) rfl ?_
    refine lst_guard rfl rfl ?_
    refine lst_run (run_eql_yes rfl rfl (by omega)) rfl ?_
    refine lst_run (run_pick_t rfl (by conv=>lhs;whnf)) rfl ?_
    refine lst_done ?_
    refine goes_true rfl ?_
    refine goes_skip ?_
    refine goes_block ?_
    refine goes_seq ?_
    refine goes_draw (St _ _ _ _) 7 ((0, true) :: (1, true) :: (2, true) :: (3, true) :: (4, true) :: (5, true) :: (6, true) :: []) (by kernel_rfl) (by kernel_rfl) (hS.drew) ?_
    replace hS := hS.drew
    refine ord_read rfl (fun _ hS => run_move (by conv=>lhs;whnf)) rfl ?_
    refine ord_read rfl (fun _ hS => run_nilCheck rfl) rfl ?_
    refine ord_read rfl (fun _ hS => run_fieldAddr (off := 0) rfl rfl) rfl ?_
    refine ord_read rfl (fun _ hS => run_load1 rfl rfl (by exact (hcc _ hS).1)) rfl ?_
    refine ord_read rfl (fun _ hS => run_fieldAddr (off := 1) rfl rfl) rfl ?_
    refine ord_read rfl (fun _ hS => run_load1_own hS rfl rfl (by exact .tail .head) (by repeat constructor)) rfl ?_
    refine ord_read rfl (fun _ hS => run_eql_no rfl rfl (by assumption)) rfl ?_
    refine ord_end ?_
    refine lst_done ?_
    refine goes_false rfl ?_
    refine goes_region ?_
    refine lst_run (run_move (by conv=>lhs;whnf)) rfl ?_
    refine lst_run (run_nilCheck rfl) rfl ?_
    refine lst_run (run_fieldAddr (off := 5) rfl rfl) rfl ?_
    refine lst_run (run_load1 rfl rfl (by exact (hcc _ hS).2.2.2.2.2)) rfl ?_
    refine lst_run (run_assign (by conv=>lhs;whnf)) rfl ?_
    refine lst_done ?_
    refine goes_inBlock ?_
    refine ih (p * (E.length + 1) + R.length) _ _ _ ?_ ?_ (by conv=>lhs;whnf) (by kernel_rfl)
    ·rw [hm]; simp only [List.length_cons]; omega
    ·refine ⟨c, D ++ [x], R, p, by rw [hD]; simp, rfl, hcl, hlk, hc, hcm, fun y hy => ?_, rfl, hS⟩
     rcases List.mem_append.1 hy with hy | hy
     ·exact hno y hy
     ·rw [List.mem_singleton.1 hy]; exact hv
  ·have hres : c.tm = lookM (envB E) t.tm := by rw [← hlk]; exact (look_nonvar (t := c.tm) hk).symm
   refine goes_seq ?_
   refine goes_seq ?_
   refine goes_region ?_
   refine lst_run (run_move (by conv=>lhs;whnf)) rfl ?_
   refine lst_run (run_neq_nil_yes rfl rfl rfl) rfl ?_
   refine lst_run (run_move (by conv=>lhs;whnf)) rfl ?_
   refine lst_guard rfl rfl ?_
   refine lst_run (run_fieldAddr (off := 0) rfl rfl) rfl ?_
   refine lst_guard rfl rfl ?_
   refine lst_run (run_load1_own hS rfl rfl (by exact .tail .head) (by repeat constructor)) rfl ?_
   refine lst_guard rfl rfl ?_
   refine lst_run (run_eql_no rfl rfl (by assumption)) rfl ?_
   refine lst_run (run_pick_t rfl (by conv=>lhs;whnf)) rfl ?_
   refine lst_done ?_
   refine goes_false rfl ?_
   refine goes_exit rfl ?_
   refine goes_seq ?_
   refine goes_region ?_
   refine lst_run (run_loadN_own (k := 4) hS rfl rfl rfl (by exact .tail .head) (by repeat constructor)) rfl ?_
   refine lst_storeN hS rfl (by conv=>lhs;whnf) rfl rfl (by exact .head) (by repeat constructor) (by exact .head) ?_
   clear hS
   intro wx3 hS
   refine lst_done ?_
   refine goes_retC (sz := 4) hS Tryd.func109 rfl rfl rfl rfl (by exact .head) (by repeat constructor) ?_
   exact ⟨c, rfl, hres, hc, hcm, hS.drop.drop⟩
end
end Go.Proofs.YtehhgmeaggempaaDoor
namespace Go.Proofs.YtehhgmeaggempaaDoor
open Go.RowKit
set_option linter.unusedVariables false
set_option linter.unusedSimpArgs false
inductive Vw (X : Type) where
 | var (v : Int)
 | node (k n : Int) (s : ByteArray) (ar : List X)
def Vw.sub {X : Type} (a : Vw X) (v : Int) (t : Vw X) : Vw X := match a with
 | .var u => if u = v then t else .var u
 | .node k n s ar => .node k n s ar
inductive Al {X Y : Type} (R : X → Y → Prop) : List X → List Y → Prop
 | nil : Al R [] []
 | cons {x : X} {y : Y} {l : List X} {m : List Y} : R x y → Al R l m → Al R (x :: l) (y :: m)
theorem Al.len {X Y : Type} {R : X → Y → Prop} {l : List X} {m : List Y} (h : Al R l m) : l.length = m.length := by
 induction h with
 | nil => rfl
 | cons _ _ ih => simp [ih]
theorem Al.imp {X Y : Type} {R Q : X → Y → Prop} (hi : ∀ x y, R x y → Q x y) {l : List X} {m : List Y} (h : Al R l m) : Al Q l m := by
 induction h with
 | nil => exact .nil
 | cons h _ ih => exact .cons (hi _ _ h) ih
theorem Al.app {X Y : Type} {R : X → Y → Prop} {l l' : List X} {m m' : List Y} (h : Al R l m) (h' : Al R l' m') : Al R (l ++ l') (m ++ m') := by
 induction h with
 | nil => exact h'
 | cons h _ ih => exact .cons h ih
structure Sy where
 X : Type
 S : Type
 ok : S → Prop
 dom : S → X → Prop
 view : S → X → Vw X
 bind : S → Int → X → S
 join : S → X → X → S
structure Sy.Law (A : Sy) : Prop where
 bind_ok : ∀ {σ x v t k n s ar}, A.ok σ → A.dom σ x → A.dom σ t → A.view σ x = .var v → A.view σ t = .node k n s ar → A.ok (A.bind σ v t)
 bind_dom : ∀ {σ v t y}, A.dom σ y → A.dom (A.bind σ v t) y
 bind_view : ∀ {σ x v t k n s ar y}, A.ok σ → A.dom σ x → A.dom σ t → A.view σ x = .var v → A.view σ t = .node k n s ar → A.dom σ y → A.view (A.bind σ v t) y = (A.view σ y).sub v (A.view σ t)
 join_ok : ∀ {σ a b u v}, A.ok σ → A.dom σ a → A.dom σ b → A.view σ a = .var u → A.view σ b = .var v → u ≠ v → A.ok (A.join σ a b)
 join_dom : ∀ {σ a b y}, A.dom σ y → A.dom (A.join σ a b) y
 join_view : ∀ {σ a b u v}, A.ok σ → A.dom σ a → A.dom σ b → A.view σ a = .var u → A.view σ b = .var v → u ≠ v →
  (∀ y, A.dom σ y → A.view (A.join σ a b) y = (A.view σ y).sub u (.var v)) ∨ (∀ y, A.dom σ y → A.view (A.join σ a b) y = (A.view σ y).sub v (.var u))
section
variable {A : Sy}
def anyG {X : Type} (g : X → Nat → Bool × Nat) : List X → Nat → Bool × Nat
 | [], w => (false, w)
 | x :: r, w => if (g x w).1 = true then (true, (g x w).2) else anyG g r (g x w).2
def occG (A : Sy) (σ : A.S) (v : Int) : Nat → A.X → Nat → Bool × Nat
 | 0, _, w => (false, w + 1)
 | f + 1, x, w => if 400 < w + 1 then (false, w + 1) else match A.view σ x with
  | .var u => (decide (u = v), w + 1)
  | .node _ _ _ ar => anyG (occG A σ v f) ar (w + 1)
structure Ug (S : Type) where
 ok : Bool
 s : S
 w : Nat
def allG {X S : Type} (g : X → X → S → Nat → Ug S) : List X → List X → S → Nat → Ug S
 | x :: r, y :: r', σ, w => if (g x y σ w).ok = true then allG g r r' (g x y σ w).s (g x y σ w).w else g x y σ w
 | _, _, σ, w => ⟨true, σ, w⟩
def asgG (A : Sy) (v : Int) (t : A.X) (σ : A.S) (w : Nat) : Ug A.S :=
 if (occG A σ v 401 t w).1 = true ∨ 400 < (occG A σ v 401 t w).2 then ⟨false, σ, (occG A σ v 401 t w).2⟩ else ⟨true, A.bind σ v t, (occG A σ v 401 t w).2⟩
def uniG (A : Sy) : Nat → A.X → A.X → A.S → Nat → Ug A.S
 | 0, _, _, σ, w => ⟨false, σ, w + 1⟩
 | f + 1, a, b, σ, w => if 400 < w + 1 then ⟨false, σ, w + 1⟩ else match A.view σ a, A.view σ b with
  | .var u, .var v => ⟨true, if u = v then σ else A.join σ a b, w + 1⟩
  | .var u, .node _ _ _ _ => asgG A u b σ (w + 1)
  | .node _ _ _ _, .var v => asgG A v a σ (w + 1)
  | .node k n s ar, .node k' n' s' ar' => if k = k' ∧ n = n' ∧ s = s' ∧ ar.length = ar'.length then allG (uniG A f) ar ar' σ (w + 1) else ⟨false, σ, w + 1⟩
def mapG {X : Type} (g : X → Nat → Option (Tm × Nat)) : List X → Nat → Option (Ts × Nat)
 | [], l => some (.nil, l)
 | x :: r, l => match g x l with
  | none => none
  | some (t, l') => match mapG g r l' with
   | none => none
   | some (T, l'') => some (.cons t.k t.n t.s t.ar T, l'')
def appG (A : Sy) (σ : A.S) : Nat → A.X → Nat → Option (Tm × Nat)
 | 0, _, _ => none
 | f + 1, x, l => if l = 0 then none else match A.view σ x with
  | .var u => some (⟨0, u, ⟨#[]⟩, .nil⟩, l - 1)
  | .node k n s ar => match mapG (appG A σ f) ar (l - 1) with
   | none => none
   | some (T, l') => some (⟨k, n, s, T⟩, l')
end
section
variable {A B : Sy} {R : A.X → B.X → Prop} {σ : A.S} {τ : B.S}
def VwR {X Y : Type} (R : X → Y → Prop) : Vw X → Vw Y → Prop
 | .var _, .var _ => True
 | .node k n s ar, .node k' n' s' ar' => k = k' ∧ n = n' ∧ s = s' ∧ Al R ar ar'
 | _, _ => False
theorem VwR.imp {X Y : Type} {R Q : X → Y → Prop} (hi : ∀ x y, R x y → Q x y) : ∀ {a : Vw X} {b : Vw Y}, VwR R a b → VwR Q a b
 | .var _, .var _, _ => trivial
 | .node _ _ _ _, .node _ _ _ _, h => ⟨h.1, h.2.1, h.2.2.1, h.2.2.2.imp hi⟩
structure Bm (A B : Sy) (R : A.X → B.X → Prop) (σ : A.S) (τ : B.S) : Prop where
 oka : A.ok σ
 okb : B.ok τ
 da : ∀ {x y}, R x y → A.dom σ x
 db : ∀ {x y}, R x y → B.dom τ y
 vw : ∀ {x y}, R x y → VwR R (A.view σ x) (B.view τ y)
 vr : ∀ {x y x' y' u u' v v'}, R x y → R x' y' → A.view σ x = .var u → A.view σ x' = .var u' → B.view τ y = .var v → B.view τ y' = .var v' → (u = u' ↔ v = v')
theorem Bm.cases (h : Bm A B R σ τ) {x : A.X} {y : B.X} (hr : R x y) : (∃ u v, A.view σ x = .var u ∧ B.view τ y = .var v) ∨ ∃ k n s ar ar', A.view σ x = .node k n s ar ∧ B.view τ y = .node k n s ar' ∧ Al R ar ar' := by
 have := h.vw hr
 cases hx : A.view σ x with
 | var u =>
  cases hy : B.view τ y with
  | var v => exact .inl ⟨u, v, rfl, rfl⟩
  | node k n s ar => rw [hx, hy] at this; exact this.elim
 | node k n s ar =>
  cases hy : B.view τ y with
  | var v => rw [hx, hy] at this; exact this.elim
  | node k' n' s' ar' =>
   rw [hx, hy] at this
   obtain ⟨rfl, rfl, rfl, h4⟩ := this
   exact .inr ⟨k, n, s, ar, ar', rfl, rfl, h4⟩
theorem Bm.bind (hA : A.Law) (hB : B.Law) (h : Bm A B R σ τ) {x t : A.X} {y t' : B.X} {v v' : Int} {k n : Int} {s : ByteArray} {ar : List A.X} {ar' : List B.X} (hx : R x y) (ht : R t t') (hv : A.view σ x = .var v) (hv' : B.view τ y = .var v') (htv : A.view σ t = .node k n s ar) (htv' : B.view τ t' = .node k n s ar') (hal : Al R ar ar') :
  Bm A B R (A.bind σ v t) (B.bind τ v' t') := by
 have ea := fun {z : A.X} (hz : A.dom σ z) => hA.bind_view (y := z) h.oka (h.da hx) (h.da ht) hv htv hz
 have eb := fun {z : B.X} (hz : B.dom τ z) => hB.bind_view (y := z) h.okb (h.db hx) (h.db ht) hv' htv' hz
 refine ⟨hA.bind_ok h.oka (h.da hx) (h.da ht) hv htv, hB.bind_ok h.okb (h.db hx) (h.db ht) hv' htv', fun hr => hA.bind_dom (h.da hr), fun hr => hB.bind_dom (h.db hr), fun {p q} hr => ?_, ?_⟩
 ·rw [ea (h.da hr), eb (h.db hr)]
  rcases h.cases hr with ⟨u, u', e, e'⟩ | ⟨k2, n2, s2, r2, r2', e, e', ha⟩
  ·have := h.vr hr hx e hv e' hv'
   rw [e, e']
   simp only [Vw.sub]
   by_cases he : u = v
   ·rw [if_pos he, if_pos (this.1 he), htv, htv']; exact ⟨rfl, rfl, rfl, hal⟩
   ·rw [if_neg he, if_neg fun e2 => he (this.2 e2)]; trivial
  ·rw [e, e']; exact ⟨rfl, rfl, rfl, ha⟩
 ·intro p q p' q' u u' w w' hr hr' e1 e2 e3 e4
  rw [ea (h.da hr)] at e1
  rw [ea (h.da hr')] at e2
  rw [eb (h.db hr)] at e3
  rw [eb (h.db hr')] at e4
  rcases h.cases hr with ⟨c, c', f1, f2⟩ | ⟨k2, n2, s2, r2, r2', f1, f2, _⟩
  ·rcases h.cases hr' with ⟨d, d', g1, g2⟩ | ⟨k2, n2, s2, r2, r2', g1, g2, _⟩
   ·rw [f1] at e1
    rw [g1] at e2
    rw [f2] at e3
    rw [g2] at e4
    simp only [Vw.sub] at e1 e2 e3 e4
    split at e1
    ·rw [htv] at e1; cases e1
    split at e2
    ·rw [htv] at e2; cases e2
    split at e3
    ·rw [htv'] at e3; cases e3
    split at e4
    ·rw [htv'] at e4; cases e4
    cases e1; cases e2; cases e3; cases e4
    exact h.vr hr hr' f1 g1 f2 g2
   ·rw [g1] at e2; simp only [Vw.sub] at e2; cases e2
  ·rw [f1] at e1; simp only [Vw.sub] at e1; cases e1
theorem Bm.join (hA : A.Law) (hB : B.Law) (h : Bm A B R σ τ) {a b : A.X} {a' b' : B.X} {u v u' v' : Int} (ha : R a a') (hb : R b b') (hu : A.view σ a = .var u) (hv : A.view σ b = .var v) (hu' : B.view τ a' = .var u') (hv' : B.view τ b' = .var v') (hne : u ≠ v) :
  Bm A B R (A.join σ a b) (B.join τ a' b') := by
 have hne' : u' ≠ v' := fun e => hne ((h.vr ha hb hu hv hu' hv').2 e)
 have ja := hA.join_view h.oka (h.da ha) (h.da hb) hu hv hne
 have jb := hB.join_view h.okb (h.db ha) (h.db hb) hu' hv' hne'
 have key : ∀ (p q : Int) (p' q' : Int), ((p = u ∧ q = v) ∨ (p = v ∧ q = u)) → ((p' = u' ∧ q' = v') ∨ (p' = v' ∧ q' = u')) → (∀ y, A.dom σ y → A.view (A.join σ a b) y = (A.view σ y).sub p (.var q)) → (∀ y, B.dom τ y → B.view (B.join τ a' b') y = (B.view τ y).sub p' (.var q')) → Bm A B R (A.join σ a b) (B.join τ a' b') := by
  intro p q p' q' hp hp' ea eb
  refine ⟨hA.join_ok h.oka (h.da ha) (h.da hb) hu hv hne, hB.join_ok h.okb (h.db ha) (h.db hb) hu' hv' hne', fun hr => hA.join_dom (h.da hr), fun hr => hB.join_dom (h.db hr), fun {c d} hr => ?_, ?_⟩
  ·rw [ea _ (h.da hr), eb _ (h.db hr)]
   rcases h.cases hr with ⟨w, w', e, e'⟩ | ⟨k2, n2, s2, r2, r2', e, e', hal⟩
   ·rw [e, e']
    simp only [Vw.sub]
    split <;> split <;> trivial
   ·rw [e, e']; exact ⟨rfl, rfl, rfl, hal⟩
  ·intro x y x' y' c c' d d' hr hr' e1 e2 e3 e4
   rw [ea _ (h.da hr)] at e1
   rw [ea _ (h.da hr')] at e2
   rw [eb _ (h.db hr)] at e3
   rw [eb _ (h.db hr')] at e4
   rcases h.cases hr with ⟨x1, y1, f1, f2⟩ | ⟨k2, n2, s2, r2, r2', f1, f2, _⟩
   ·rcases h.cases hr' with ⟨x2, y2, g1, g2⟩ | ⟨k2, n2, s2, r2, r2', g1, g2, _⟩
    ·have i1 := h.vr hr hr' f1 g1 f2 g2
     have i2 := h.vr hr ha f1 hu f2 hu'
     have i3 := h.vr hr hb f1 hv f2 hv'
     have i4 := h.vr hr' ha g1 hu g2 hu'
     have i5 := h.vr hr' hb g1 hv g2 hv'
     rw [f1] at e1
     rw [g1] at e2
     rw [f2] at e3
     rw [g2] at e4
     simp only [Vw.sub] at e1 e2 e3 e4
     have t1 : c = if x1 = p then q else x1 := by
      split at e1 <;> (cases e1; rename_i hh; simp [hh])
     have t2 : c' = if x2 = p then q else x2 := by
      split at e2 <;> (cases e2; rename_i hh; simp [hh])
     have t3 : d = if y1 = p' then q' else y1 := by
      split at e3 <;> (cases e3; rename_i hh; simp [hh])
     have t4 : d' = if y2 = p' then q' else y2 := by
      split at e4 <;> (cases e4; rename_i hh; simp [hh])
     clear e1 e2 e3 e4 ea eb ja jb
     rcases hp with ⟨rfl, rfl⟩ | ⟨rfl, rfl⟩ <;> rcases hp' with ⟨rfl, rfl⟩ | ⟨rfl, rfl⟩ <;> (subst t1 t2 t3 t4; split <;> split <;> split <;> split <;> omega)
    ·rw [g1] at e2; simp only [Vw.sub] at e2; cases e2
   ·rw [f1] at e1; simp only [Vw.sub] at e1; cases e1
 rcases ja with ja | ja <;> rcases jb with jb | jb
 ·exact key u v u' v' (.inl ⟨rfl, rfl⟩) (.inl ⟨rfl, rfl⟩) ja jb
 ·exact key u v v' u' (.inl ⟨rfl, rfl⟩) (.inr ⟨rfl, rfl⟩) ja jb
 ·exact key v u u' v' (.inr ⟨rfl, rfl⟩) (.inl ⟨rfl, rfl⟩) ja jb
 ·exact key v u v' u' (.inr ⟨rfl, rfl⟩) (.inr ⟨rfl, rfl⟩) ja jb
theorem any_sim {X Y : Type} {R : X → Y → Prop} {g : X → Nat → Bool × Nat} {g' : Y → Nat → Bool × Nat} (hg : ∀ x y w, R x y → g x w = g' y w) {l : List X} {m : List Y} (h : Al R l m) : ∀ w, anyG g l w = anyG g' m w := by
 induction h with
 | nil => intro w; rfl
 | cons h _ ih => intro w; simp only [anyG]; rw [hg _ _ w h, ih]
theorem occ_sim (h : Bm A B R σ τ) {x0 : A.X} {y0 : B.X} {v v' : Int} (h0 : R x0 y0) (hv : A.view σ x0 = .var v) (hv' : B.view τ y0 = .var v') : ∀ (f : Nat) (x : A.X) (y : B.X) (w : Nat), R x y → occG A σ v f x w = occG B τ v' f y w
 | 0, x, y, w, hr => rfl
 | f + 1, x, y, w, hr => by
  simp only [occG]
  split
  ·rfl
  ·rcases h.cases hr with ⟨u, u', e, e'⟩ | ⟨k, n, s, ar, ar', e, e', ha⟩
   ·rw [e, e']
    have := h.vr hr h0 e hv e' hv'
    show (decide (u = v), _) = (decide (u' = v'), _)
    rw [show decide (u = v) = decide (u' = v') from by by_cases hh : u = v <;> simp [hh, ← this]]
   ·rw [e, e']
    exact any_sim (fun x y w hr => occ_sim h h0 hv hv' f x y w hr) ha _
def UgR (A B : Sy) (R : A.X → B.X → Prop) (r : Ug A.S) (r' : Ug B.S) : Prop := r.ok = r'.ok ∧ r.w = r'.w ∧ Bm A B R r.s r'.s
theorem all_sim {g : A.X → A.X → A.S → Nat → Ug A.S} {g' : B.X → B.X → B.S → Nat → Ug B.S} (hg : ∀ a b a' b' σ τ w, Bm A B R σ τ → R a a' → R b b' → UgR A B R (g a b σ w) (g' a' b' τ w)) {l l2 : List A.X} {m m2 : List B.X} (h : Al R l m) (h2 : Al R l2 m2) :
  ∀ (σ : A.S) (τ : B.S) (w : Nat), Bm A B R σ τ → UgR A B R (allG g l l2 σ w) (allG g' m m2 τ w) := by
 induction h generalizing l2 m2 with
 | nil => intro σ τ w hb; cases h2 <;> exact ⟨rfl, rfl, hb⟩
 | cons h _ ih =>
  intro σ τ w hb
  cases h2 with
  | nil => exact ⟨rfl, rfl, hb⟩
  | cons h2 h3 =>
   simp only [allG]
   obtain ⟨e1, e2, e3⟩ := hg _ _ _ _ σ τ w hb h h2
   rw [← e1]
   split
   ·rw [← e2]; exact ih h3 _ _ _ e3
   ·exact ⟨e1, e2, e3⟩
theorem asg_sim (hA : A.Law) (hB : B.Law) (h : Bm A B R σ τ) {x t : A.X} {y t' : B.X} {v v' : Int} {k n : Int} {s : ByteArray} {ar : List A.X} {ar' : List B.X} (hx : R x y) (ht : R t t') (hv : A.view σ x = .var v) (hv' : B.view τ y = .var v') (htv : A.view σ t = .node k n s ar) (htv' : B.view τ t' = .node k n s ar') (hal : Al R ar ar') (w : Nat) :
  UgR A B R (asgG A v t σ w) (asgG B v' t' τ w) := by
 unfold asgG
 rw [occ_sim h hx hv hv' 401 t t' w ht]
 split
 ·exact ⟨rfl, rfl, h⟩
 ·exact ⟨rfl, rfl, h.bind hA hB hx ht hv hv' htv htv' hal⟩
theorem uni_sim (hA : A.Law) (hB : B.Law) : ∀ (f : Nat) (a b : A.X) (a' b' : B.X) (σ : A.S) (τ : B.S) (w : Nat), Bm A B R σ τ → R a a' → R b b' → UgR A B R (uniG A f a b σ w) (uniG B f a' b' τ w)
 | 0, a, b, a', b', σ, τ, w, h, _, _ => ⟨rfl, rfl, h⟩
 | f + 1, a, b, a', b', σ, τ, w, h, ha, hb => by
  simp only [uniG]
  split
  ·exact ⟨rfl, rfl, h⟩
  ·rcases h.cases ha with ⟨u, u', e1, e2⟩ | ⟨k, n, s, ar, ar', e1, e2, hal⟩
   ·rcases h.cases hb with ⟨v, v', e3, e4⟩ | ⟨k, n, s, ar, ar', e3, e4, hal⟩
    ·rw [e1, e2, e3, e4]
     have := h.vr ha hb e1 e3 e2 e4
     by_cases hh : u = v
     ·refine ⟨rfl, rfl, ?_⟩
      show Bm A B R (if u = v then σ else A.join σ a b) (if u' = v' then τ else B.join τ a' b')
      rw [if_pos hh, if_pos (this.1 hh)]; exact h
     ·refine ⟨rfl, rfl, ?_⟩
      show Bm A B R (if u = v then σ else A.join σ a b) (if u' = v' then τ else B.join τ a' b')
      rw [if_neg hh, if_neg fun e => hh (this.2 e)]
      exact h.join hA hB ha hb e1 e3 e2 e4 hh
    ·rw [e1, e2, e3, e4]
     exact asg_sim hA hB h ha hb e1 e2 e3 e4 hal _
   ·rcases h.cases hb with ⟨v, v', e3, e4⟩ | ⟨k2, n2, s2, ar2, ar2', e3, e4, hal2⟩
    ·rw [e1, e2, e3, e4]
     exact asg_sim hA hB h hb ha e3 e4 e1 e2 hal _
    ·rw [e1, e2, e3, e4]
     show UgR A B R (if _ then _ else _) (if _ then _ else _)
     rw [← hal.len, ← hal2.len]
     split
     ·exact all_sim (fun a b a' b' σ τ w hb ha hb' => uni_sim hA hB f a b a' b' σ τ w hb ha hb') hal hal2 _ _ _ h
     ·exact ⟨rfl, rfl, h⟩
inductive TsR (ρ : Int → Int → Prop) : Ts → Ts → Prop
 | nil : TsR ρ .nil .nil
 | var {n n' : Int} {s : ByteArray} {r r' : Ts} : ρ n n' → TsR ρ r r' → TsR ρ (.cons 0 n s .nil r) (.cons 0 n' s .nil r')
 | node {k n : Int} {s : ByteArray} {ar ar' r r' : Ts} : k ≠ 0 → TsR ρ ar ar' → TsR ρ r r' → TsR ρ (.cons k n s ar r) (.cons k n s ar' r')
def OptR {P Q : Type} (R : P → Q → Prop) : Option P → Option Q → Prop
 | none, none => True
 | some p, some q => R p q
 | _, _ => False
def TmR (ρ : Int → Int → Prop) (p q : Tm × Nat) : Prop := p.2 = q.2 ∧ TsR ρ (.cons p.1.k p.1.n p.1.s p.1.ar .nil) (.cons q.1.k q.1.n q.1.s q.1.ar .nil)
theorem TsR.put {ρ : Int → Int → Prop} {k n k' n' : Int} {s s' : ByteArray} {a a' r r' : Ts} (h : TsR ρ (.cons k n s a .nil) (.cons k' n' s' a' .nil)) (hr : TsR ρ r r') : TsR ρ (.cons k n s a r) (.cons k' n' s' a' r') := by
 cases h with
 | var h _ => exact .var h hr
 | node h1 h2 _ => exact .node h1 h2 hr
theorem map_sim {X Y : Type} {R : X → Y → Prop} {ρ : Int → Int → Prop} {g : X → Nat → Option (Tm × Nat)} {g' : Y → Nat → Option (Tm × Nat)} (hg : ∀ x y l, R x y → OptR (TmR ρ) (g x l) (g' y l)) {l : List X} {m : List Y} (h : Al R l m) : ∀ w, OptR (fun p q : Ts × Nat => p.2 = q.2 ∧ TsR ρ p.1 q.1) (mapG g l w) (mapG g' m w) := by
 induction h with
 | nil => intro w; exact ⟨rfl, .nil⟩
 | @cons x y l m h _ ih =>
  intro w
  simp only [mapG]
  have h1 := hg x y w h
  cases e1 : g x w with
  | none =>
   cases e2 : g' y w with
   | none => trivial
   | some q => rw [e1, e2] at h1; exact h1.elim
  | some p =>
   cases e2 : g' y w with
   | none => rw [e1, e2] at h1; exact h1.elim
   | some q =>
    rw [e1, e2] at h1
    obtain ⟨p1, p2⟩ := p
    obtain ⟨q1, q2⟩ := q
    obtain ⟨rfl, h3⟩ : p2 = q2 ∧ _ := h1
    have h4 := ih p2
    dsimp only
    cases e3 : mapG g l p2 with
    | none =>
     cases e4 : mapG g' m p2 with
     | none => trivial
     | some q => rw [e3, e4] at h4; exact h4.elim
    | some p' =>
     cases e4 : mapG g' m p2 with
     | none => rw [e3, e4] at h4; exact h4.elim
     | some q' =>
      rw [e3, e4] at h4
      exact ⟨h4.1, h3.put h4.2⟩
def Bm.rho (A B : Sy) (R : A.X → B.X → Prop) (σ : A.S) (τ : B.S) (u v : Int) : Prop := ∃ x y, R x y ∧ A.view σ x = .var u ∧ B.view τ y = .var v
theorem Bm.inj (h : Bm A B R σ τ) {u v u' v' : Int} (h1 : Bm.rho A B R σ τ u v) (h2 : Bm.rho A B R σ τ u' v') : u = u' ↔ v = v' := by
 obtain ⟨x, y, a, b, c⟩ := h1
 obtain ⟨x', y', a', b', c'⟩ := h2
 exact h.vr a a' b b' c c'
theorem app_sim (h : Bm A B R σ τ) (hz : ∀ {x k n s ar}, A.view σ x = .node k n s ar → A.dom σ x → k ≠ 0) : ∀ (f : Nat) (x : A.X) (y : B.X) (l : Nat), R x y → OptR (TmR (Bm.rho A B R σ τ)) (appG A σ f x l) (appG B τ f y l)
 | 0, x, y, l, hr => trivial
 | f + 1, x, y, l, hr => by
  simp only [appG]
  split
  ·trivial
  ·rcases h.cases hr with ⟨u, u', e, e'⟩ | ⟨k, n, s, ar, ar', e, e', ha⟩
   ·rw [e, e']
    exact ⟨rfl, .var ⟨x, y, hr, e, e'⟩ .nil⟩
   ·rw [e, e']
    have h4 := map_sim (fun x y l hr => app_sim h hz f x y l hr) ha (l - 1)
    dsimp only
    cases e3 : mapG (appG A σ f) ar (l - 1) with
    | none =>
     cases e4 : mapG (appG B τ f) ar' (l - 1) with
     | none => trivial
     | some q => rw [e3, e4] at h4; exact h4.elim
    | some p' =>
     cases e4 : mapG (appG B τ f) ar' (l - 1) with
     | none => rw [e3, e4] at h4; exact h4.elim
     | some q' =>
      rw [e3, e4] at h4
      exact ⟨h4.1, .node (hz e (h.da hr)) h4.2 .nil⟩
end
end Go.Proofs.YtehhgmeaggempaaDoor
namespace Go.Proofs.YtehhgmeaggempaaDoor
open Go.RowKit
set_option linter.unusedVariables false
set_option linter.unusedSimpArgs false
section
variable {A : Sy} {σ : A.S} {v : Int}
theorem any_ge {X : Type} {g : X → Nat → Bool × Nat} (hg : ∀ x w, w ≤ (g x w).2) : ∀ (l : List X) (w : Nat), w ≤ (anyG g l w).2
 | [], w => Nat.le_refl _
 | x :: r, w => by
  simp only [anyG]
  split
  ·exact hg x w
  ·exact Nat.le_trans (hg x w) (any_ge hg r _)
theorem occ_succG (f : Nat) (x : A.X) (w : Nat) : occG A σ v (f + 1) x w = if 400 < w + 1 then (false, w + 1) else match A.view σ x with
  | .var u => (decide (u = v), w + 1)
  | .node _ _ _ ar => anyG (occG A σ v f) ar (w + 1) := rfl
theorem occ_ge : ∀ (f : Nat) (x : A.X) (w : Nat), w + 1 ≤ (occG A σ v f x w).2
 | 0, x, w => Nat.le_refl _
 | f + 1, x, w => by
  simp only [occG]
  split
  ·exact Nat.le_refl _
  ·cases A.view σ x with
   | var u => exact Nat.le_refl _
   | node k n s ar => exact any_ge (fun x w => Nat.le_of_succ_le (occ_ge f x w)) ar (w + 1)
theorem occ_over (f : Nat) (x : A.X) {w : Nat} (h : 400 ≤ w) : occG A σ v f x w = (false, w + 1) := by
 cases f with
 | zero => rfl
 | succ f => simp only [occG]; rw [if_pos (by omega)]
theorem any_congrG {X : Type} {g g' : X → Nat → Bool × Nat} {k : Nat} (hw : ∀ x w, w ≤ (g x w).2) (hg : ∀ x w, k ≤ w → g x w = g' x w) : ∀ (l : List X) (w : Nat), k ≤ w → anyG g l w = anyG g' l w
 | [], w, _ => rfl
 | x :: r, w, h => by
  simp only [anyG]
  rw [← hg x w h]
  split
  ·rfl
  ·exact any_congrG hw hg r _ (Nat.le_trans h (hw x w))
theorem occ_fuelG : ∀ (f g : Nat) (x : A.X) (w : Nat), 400 ≤ w + f → 400 ≤ w + g → occG A σ v f x w = occG A σ v g x w
 | f, g, x, w, hf, hg => by
  by_cases h : 400 ≤ w
  ·rw [occ_over f x h, occ_over g x h]
  ·match f, g, hf, hg with
   | 0, _, hf, _ => omega
   | _ + 1, 0, _, hg => omega
   | f + 1, g + 1, hf, hg =>
    simp only [occG]
    rw [if_neg (by omega), if_neg (by omega)]
    cases A.view σ x with
    | var u => rfl
    | node k n s ar => exact any_congrG (k := w + 1) (fun x w => Nat.le_of_succ_le (occ_ge f x w)) (fun x w' h => occ_fuelG f g x w' (by omega) (by omega)) ar (w + 1) (Nat.le_refl _)
def runO' (A : Sy) (σ : A.S) (v : Int) (l : List A.X) (w : Nat) : Bool × Nat := anyG (occG A σ v 401) l w
theorem any_appG {X : Type} {g : X → Nat → Bool × Nat} : ∀ (l m : List X) (w : Nat), anyG g (l ++ m) w = if (anyG g l w).1 = true then anyG g l w else anyG g m (anyG g l w).2
 | [], m, w => by simp [anyG]
 | x :: r, m, w => by
  by_cases h : (g x w).1 = true
  ·have e1 : ∀ S, anyG g (x :: S) w = (true, (g x w).2) := fun S => by simp only [anyG]; rw [if_pos h]
   rw [List.cons_append, e1, e1, if_pos rfl]
  ·have e1 : ∀ S, anyG g (x :: S) w = anyG g S (g x w).2 := fun S => by simp only [anyG]; rw [if_neg h]
   rw [List.cons_append, e1, e1]; exact any_appG r m _
theorem runO'_one (x : A.X) (w : Nat) : runO' A σ v [x] w = occG A σ v 401 x w := by
 unfold runO'
 simp only [anyG]
 split
 ·rename_i h; rw [← h]
 ·rename_i h
  have : (occG A σ v 401 x w).1 = false := by simpa using h
  rw [← this]
theorem runO'_over : ∀ (l : List A.X) {w : Nat}, 400 ≤ w → (runO' A σ v l w).1 = false ∧ w ≤ (runO' A σ v l w).2
 | [], w, h => ⟨rfl, Nat.le_refl _⟩
 | x :: r, w, h => by
  unfold runO'
  simp only [anyG]
  rw [occ_over 401 x h]
  simp only [Bool.false_eq_true, if_false]
  have := runO'_over r (w := w + 1) (by omega)
  exact ⟨this.1, by have := this.2; unfold runO' at this; omega⟩
theorem runO'_long (x : A.X) (r : List A.X) {w : Nat} (h : 400 ≤ w) : (runO' A σ v (x :: r) w).1 = false ∧ 400 < (runO' A σ v (x :: r) w).2 := by
 unfold runO'
 simp only [anyG]
 rw [occ_over 401 x h]
 simp only [Bool.false_eq_true, if_false]
 have := runO'_over (A := A) (σ := σ) (v := v) r (w := w + 1) (by omega)
 exact ⟨this.1, by have := this.2; unfold runO' at this; omega⟩
theorem runO'_var {x : A.X} {u : Int} (r : List A.X) {w : Nat} (h : w < 400) (hx : A.view σ x = .var u) : runO' A σ v (x :: r) w = if u = v then (true, w + 1) else runO' A σ v r (w + 1) := by
 have e : occG A σ v 401 x w = (decide (u = v), w + 1) := by
  rw [show occG A σ v 401 x w = occG A σ v (400 + 1) x w from rfl, occ_succG, if_neg (by omega), hx]
 unfold runO'
 simp only [anyG]
 rw [e]
 by_cases hu : u = v <;> simp [hu]
theorem runO'_node {x : A.X} {k n : Int} {s : ByteArray} {ar : List A.X} (r : List A.X) {w : Nat} (h : w < 400) (hx : A.view σ x = .node k n s ar) : runO' A σ v (x :: r) w = runO' A σ v (ar ++ r) (w + 1) := by
 have e : occG A σ v 401 x w = runO' A σ v ar (w + 1) := by
  rw [show occG A σ v 401 x w = occG A σ v (400 + 1) x w from rfl, occ_succG, if_neg (by omega), hx]
  exact any_congrG (k := 1) (fun x w => Nat.le_of_succ_le (occ_ge 400 x w)) (fun x w' h => occ_fuelG 400 401 x w' (by omega) (by omega)) ar (w + 1) (by omega)
 have e2 : runO' A σ v (x :: r) w = if (occG A σ v 401 x w).1 = true then (true, (occG A σ v 401 x w).2) else runO' A σ v r (occG A σ v 401 x w).2 := rfl
 rw [e2, e]
 unfold runO'
 rw [any_appG]
 split
 ·rename_i h; rw [← h]
 ·rfl
end
section
variable {A : Sy}
theorem asg_ge {v : Int} {t : A.X} {σ : A.S} {w : Nat} : w + 1 ≤ (asgG A v t σ w).w := by
 unfold asgG
 split
 ·exact occ_ge 401 t w
 ·exact occ_ge 401 t w
theorem all_ge {X S : Type} {g : X → X → S → Nat → Ug S} (hg : ∀ a b σ w, w ≤ (g a b σ w).w) : ∀ (l m : List X) (σ : S) (w : Nat), w ≤ (allG g l m σ w).w
 | [], m, σ, w => by cases m <;> exact Nat.le_refl _
 | _ :: _, [], σ, w => Nat.le_refl _
 | x :: l, y :: m, σ, w => by
  simp only [allG]
  split
  ·exact Nat.le_trans (hg x y σ w) (all_ge hg l m _ _)
  ·exact hg x y σ w
theorem ite_ge {S : Type} {c : Prop} [Decidable c] {x y : Ug S} {n : Nat} (hx : n ≤ x.w) (hy : n ≤ y.w) : n ≤ (if c then x else y).w := by
 split
 ·exact hx
 ·exact hy
theorem uni_ge : ∀ (f : Nat) (a b : A.X) (σ : A.S) (w : Nat), w + 1 ≤ (uniG A f a b σ w).w
 | 0, a, b, σ, w => Nat.le_refl _
 | f + 1, a, b, σ, w => by
  simp only [uniG]
  split
  ·exact Nat.le_refl _
  ·cases A.view σ a with
   | var u =>
    cases A.view σ b with
    | var u' => exact Nat.le_refl _
    | node k n s ar => exact Nat.le_of_succ_le (asg_ge (w := w + 1))
   | node k n s ar =>
    cases A.view σ b with
    | var u' => exact Nat.le_of_succ_le (asg_ge (w := w + 1))
    | node k' n' s' ar' => exact ite_ge (all_ge (fun a b σ w => Nat.le_of_succ_le (uni_ge f a b σ w)) _ _ _ _) (Nat.le_refl _)
theorem uni_succG (f : Nat) (a b : A.X) (σ : A.S) (w : Nat) : uniG A (f + 1) a b σ w = if 400 < w + 1 then ⟨false, σ, w + 1⟩ else match A.view σ a, A.view σ b with
  | .var u, .var v => ⟨true, if u = v then σ else A.join σ a b, w + 1⟩
  | .var u, .node _ _ _ _ => asgG A u b σ (w + 1)
  | .node _ _ _ _, .var v => asgG A v a σ (w + 1)
  | .node k n s ar, .node k' n' s' ar' => if k = k' ∧ n = n' ∧ s = s' ∧ ar.length = ar'.length then allG (uniG A f) ar ar' σ (w + 1) else ⟨false, σ, w + 1⟩ := rfl
theorem uni_over (f : Nat) (a b : A.X) (σ : A.S) {w : Nat} (h : 400 ≤ w) : uniG A f a b σ w = ⟨false, σ, w + 1⟩ := by
 cases f with
 | zero => rfl
 | succ f => simp only [uniG]; rw [if_pos (by omega)]
theorem all_congrG {X S : Type} {g g' : X → X → S → Nat → Ug S} {k : Nat} (hw : ∀ a b σ w, w ≤ (g a b σ w).w) (hg : ∀ a b σ w, k ≤ w → g a b σ w = g' a b σ w) : ∀ (l m : List X) (σ : S) (w : Nat), k ≤ w → allG g l m σ w = allG g' l m σ w
 | [], m, σ, w, _ => by cases m <;> rfl
 | _ :: _, [], σ, w, _ => rfl
 | x :: l, y :: m, σ, w, h => by
  simp only [allG]
  rw [← hg x y σ w h]
  split
  ·exact all_congrG hw hg l m _ _ (Nat.le_trans h (hw x y σ w))
  ·rfl
theorem uni_fuelG : ∀ (f g : Nat) (a b : A.X) (σ : A.S) (w : Nat), 400 ≤ w + f → 400 ≤ w + g → uniG A f a b σ w = uniG A g a b σ w
 | f, g, a, b, σ, w, hf, hg => by
  by_cases h : 400 ≤ w
  ·rw [uni_over f a b σ h, uni_over g a b σ h]
  ·match f, g, hf, hg with
   | 0, _, hf, _ => omega
   | _ + 1, 0, _, hg => omega
   | f + 1, g + 1, hf, hg =>
    simp only [uniG]
    rw [if_neg (by omega), if_neg (by omega)]
    cases A.view σ a with
    | var u => cases A.view σ b <;> rfl
    | node k n s ar =>
     cases A.view σ b with
     | var u' => rfl
     | node k' n' s' ar' =>
      show ite _ _ _ = ite _ _ _
      rw [all_congrG (k := w + 1) (fun a b σ w => Nat.le_of_succ_le (uni_ge f a b σ w)) (fun a b σ w' h => uni_fuelG f g a b σ w' (by omega) (by omega)) ar ar' σ (w + 1) (Nat.le_refl _)]
def runP (A : Sy) : List (A.X × A.X) → A.S → Nat → Ug A.S
 | [], σ, w => ⟨true, σ, w⟩
 | p :: r, σ, w => if (uniG A 401 p.1 p.2 σ w).ok = true then runP A r (uniG A 401 p.1 p.2 σ w).s (uniG A 401 p.1 p.2 σ w).w else uniG A 401 p.1 p.2 σ w
theorem all_runP : ∀ (l m : List A.X) (σ : A.S) (w : Nat), allG (uniG A 401) l m σ w = runP A (l.zip m) σ w
 | [], m, σ, w => by cases m <;> rfl
 | _ :: _, [], σ, w => rfl
 | x :: l, y :: m, σ, w => by
  simp only [allG, List.zip_cons_cons, runP]
  rw [all_runP l m]
theorem runP_app : ∀ (L M : List (A.X × A.X)) (σ : A.S) (w : Nat), runP A (L ++ M) σ w = if (runP A L σ w).ok = true then runP A M (runP A L σ w).s (runP A L σ w).w else runP A L σ w
 | [], M, σ, w => by simp [runP]
 | p :: L, M, σ, w => by
  by_cases h : (uniG A 401 p.1 p.2 σ w).ok = true
  ·have e1 : ∀ S, runP A (p :: S) σ w = runP A S (uniG A 401 p.1 p.2 σ w).s (uniG A 401 p.1 p.2 σ w).w := fun S => by simp only [runP]; rw [if_pos h]
   rw [List.cons_append, e1, e1]; exact runP_app L M _ _
  ·have e1 : ∀ S, runP A (p :: S) σ w = uniG A 401 p.1 p.2 σ w := fun S => by simp only [runP]; rw [if_neg h]
   rw [List.cons_append, e1, e1, if_neg h]
theorem runP_one (a b : A.X) (σ : A.S) (w : Nat) : runP A [(a, b)] σ w = uniG A 401 a b σ w := by
 simp only [runP]
 split
 ·rename_i h; rw [← h]
 ·rfl
theorem runP_over (p : A.X × A.X) (r : List (A.X × A.X)) (σ : A.S) {w : Nat} (h : 400 ≤ w) : runP A (p :: r) σ w = ⟨false, σ, w + 1⟩ := by
 simp only [runP]
 rw [uni_over 401 p.1 p.2 σ h]; simp
theorem runP_vv {a b : A.X} {u u' : Int} (r : List (A.X × A.X)) {σ : A.S} {w : Nat} (h : w < 400) (ha : A.view σ a = .var u) (hb : A.view σ b = .var u') : runP A ((a, b) :: r) σ w = runP A r (if u = u' then σ else A.join σ a b) (w + 1) := by
 have e : uniG A 401 a b σ w = ⟨true, if u = u' then σ else A.join σ a b, w + 1⟩ := by
  rw [show uniG A 401 a b σ w = uniG A (400 + 1) a b σ w from rfl, uni_succG, if_neg (by omega), ha, hb]
 simp only [runP]
 rw [e, if_pos rfl]
theorem runP_asg {a b : A.X} (r : List (A.X × A.X)) {σ : A.S} {w : Nat} {u : Int} {t : A.X} (e : uniG A 401 a b σ w = asgG A u t σ (w + 1)) : runP A ((a, b) :: r) σ w = if (runO' A σ u [t] (w + 1)).1 = true ∨ 400 < (runO' A σ u [t] (w + 1)).2 then ⟨false, σ, (runO' A σ u [t] (w + 1)).2⟩ else runP A r (A.bind σ u t) (runO' A σ u [t] (w + 1)).2 := by
 simp only [runP]
 rw [e, runO'_one]
 unfold asgG
 split
 ·simp
 ·simp
theorem uni_vn {a b : A.X} {u : Int} {k n : Int} {s : ByteArray} {ar : List A.X} {σ : A.S} {w : Nat} (h : w < 400) (ha : A.view σ a = .var u) (hb : A.view σ b = .node k n s ar) : uniG A 401 a b σ w = asgG A u b σ (w + 1) := by
 rw [show uniG A 401 a b σ w = uniG A (400 + 1) a b σ w from rfl, uni_succG, if_neg (by omega), ha, hb]
theorem uni_nv {a b : A.X} {u : Int} {k n : Int} {s : ByteArray} {ar : List A.X} {σ : A.S} {w : Nat} (h : w < 400) (ha : A.view σ a = .node k n s ar) (hb : A.view σ b = .var u) : uniG A 401 a b σ w = asgG A u a σ (w + 1) := by
 rw [show uniG A 401 a b σ w = uniG A (400 + 1) a b σ w from rfl, uni_succG, if_neg (by omega), ha, hb]
theorem runP_nn {a b : A.X} {k n k' n' : Int} {s s' : ByteArray} {ar ar' : List A.X} (r : List (A.X × A.X)) {σ : A.S} {w : Nat} (h : w < 400) (ha : A.view σ a = .node k n s ar) (hb : A.view σ b = .node k' n' s' ar') : runP A ((a, b) :: r) σ w = if k = k' ∧ n = n' ∧ s = s' ∧ ar.length = ar'.length then runP A (ar.zip ar' ++ r) σ (w + 1) else ⟨false, σ, w + 1⟩ := by
 have e : uniG A 401 a b σ w = if k = k' ∧ n = n' ∧ s = s' ∧ ar.length = ar'.length then runP A (ar.zip ar') σ (w + 1) else ⟨false, σ, w + 1⟩ := by
  rw [show uniG A 401 a b σ w = uniG A (400 + 1) a b σ w from rfl, uni_succG, if_neg (by omega), ha, hb]
  show ite _ _ _ = ite _ _ _
  rw [all_congrG (k := 1) (fun a b σ w => Nat.le_of_succ_le (uni_ge 400 a b σ w)) (fun a b σ w' h => uni_fuelG 400 401 a b σ w' (by omega) (by omega)) ar ar' σ (w + 1) (by omega), all_runP]
 simp only [runP]
 rw [e]
 split
 ·rw [runP_app]
 ·simp
end
end Go.Proofs.YtehhgmeaggempaaDoor
namespace Go.Proofs.YtehhgmeaggempaaDoor
set_option linter.unusedVariables false
def SmB (B : Bnd) : Prop := ∀ x ∈ B, x.2.ar.nodes ≤ 24
theorem look_small {B : Bnd} (hB : SmB B) {t : Tm} (ht : t.ar.nodes ≤ 24) : (lookM B t).ar.nodes ≤ 24 := by
 rcases look_mem (B := B) t with h | ⟨x, hx, h⟩
 ·rw [h]; exact ht
 ·rw [h]; exact hB x hx
theorem anyL_le {g : Tm → Nat → Bool × Nat} {K : Nat} : ∀ (T : Ts) (w : Nat), (∀ t : Tm, t.ar.nodes < T.nodes → ∀ w, (g t w).2 ≤ max (w + 1) K) → (anyL g T w).2 ≤ max w K + T.length
 | .nil, w, _ => by simp [anyL, Ts.length]; omega
 | .cons k n s a r, w, h => by
  have h1 := h ⟨k, n, s, a⟩ (by simp only [Ts.nodes]; omega) w
  have h2 := anyL_le r (g ⟨k, n, s, a⟩ w).2 fun t ht => h t (by simp only [Ts.nodes]; omega)
  simp only [anyL, Ts.length]
  split
  ·simp only; omega
  ·omega
theorem occ_le {B : Bnd} (hB : SmB B) (v : Int) : ∀ (f : Nat) (t : Tm), t.ar.nodes ≤ 24 → ∀ w, (occM B v f t w).2 ≤ max (w + 1) (401 + 24 * f)
 | 0, t, ht, w => by simp only [occM]; omega
 | f + 1, t, ht, w => by
  simp only [occM]
  split
  ·simp only; omega
  ·split
   ·simp only; omega
   ·have hs := look_small hB ht
    have hl := (lookM B t).ar.length_le
    have := anyL_le (g := occM B v f) (K := 401 + 24 * f) (lookM B t).ar (w + 1) fun u hu => occ_le hB v f u (by omega)
    omega
theorem occ_gt {B : Bnd} {v : Int} : ∀ (f : Nat) (t : Tm) (w : Nat), w + 1 ≤ (occM B v f t w).2
 | 0, t, w => Nat.le_refl _
 | f + 1, t, w => by
  have key : ∀ (T : Ts) (w : Nat), w ≤ (anyL (occM B v f) T w).2 := by
   intro T
   induction T with
   | nil => intro w; exact Nat.le_refl _
   | cons k n s a r _ ih =>
    intro w
    have h1 := occ_gt (B := B) (v := v) f ⟨k, n, s, a⟩ w
    have h2 := ih (occM B v f ⟨k, n, s, a⟩ w).2
    simp only [anyL]
    split
    ·simp only; omega
    ·omega
  simp only [occM]
  split
  ·exact Nat.le_refl _
  ·split
   ·exact Nat.le_refl _
   ·exact key _ _
structure UP (B : Bnd) (w : Nat) (r : Us) : Prop where
 bok : Bok r.B
 sm : SmB r.B
 ok : r.ok = true → r.w ≤ 400
 len : r.B.length + w ≤ B.length + r.w
 ext : ∃ N, r.B = N ++ B
theorem SmB.cons {B : Bnd} (h : SmB B) {x : Int × Tm} (hx : x.2.ar.nodes ≤ 24) : SmB (x :: B) := fun y hy => by
 rcases List.mem_cons.1 hy with rfl | hy
 ·exact hx
 ·exact h y hy
theorem sasg_up {B : Bnd} {w : Nat} {v : Int} {t : Tm} (hB : Bok B) (hS : SmB B) (hv : bget v B = none) (hk : t.k ≠ 0) (ht : t.ar.nodes ≤ 24) : UP B w (asgM v t B w) := by
 have h1 := occ_gt (B := B) (v := v) 401 t w
 unfold asgM
 split
 ·exact ⟨hB, hS, fun h => (by cases h), by simp only; omega, [], rfl⟩
 ·rename_i h
  exact ⟨⟨hv, fun h => absurd h hk, hB⟩, hS.cons ht, fun _ => by simp only; omega, by simp; omega, [(v, t)], rfl⟩
theorem sall_up {g : Tm → Tm → Bnd → Nat → Us} : ∀ (T U : Ts) (B : Bnd) (w : Nat), (∀ a b : Tm, a.ar.nodes < T.nodes → b.ar.nodes < U.nodes → ∀ B w, Bok B → SmB B → w ≤ 400 → UP B w (g a b B w)) → Bok B → SmB B → w ≤ 400 → UP B w (allL g T U B w)
 | .nil, U, B, w, h, hB, hS, hw => ⟨hB, hS, fun _ => hw, by simp [allL], [], rfl⟩
 | .cons k n s a r, .nil, B, w, h, hB, hS, hw => ⟨hB, hS, fun _ => hw, by simp [allL], [], rfl⟩
 | .cons k n s a r, .cons k' n' s' a' r', B, w, h, hB, hS, hw => by
  have h1 := h ⟨k, n, s, a⟩ ⟨k', n', s', a'⟩ (by simp only [Ts.nodes]; omega) (by simp only [Ts.nodes]; omega) B w hB hS hw
  simp only [allL]
  split
  ·rename_i hok
   have h2 := sall_up r r' _ _ (fun a b ha hb => h a b (by simp only [Ts.nodes]; omega) (by simp only [Ts.nodes]; omega)) h1.bok h1.sm (h1.ok hok)
   obtain ⟨N1, e1⟩ := h1.ext
   obtain ⟨N2, e2⟩ := h2.ext
   refine ⟨h2.bok, h2.sm, h2.ok, ?_, N2 ++ N1, by rw [e2, e1, List.append_assoc]⟩
   have := h1.len
   have := h2.len
   omega
  ·exact h1
theorem suni_up : ∀ (f : Nat) (a b : Tm) (B : Bnd) (w : Nat), a.ar.nodes ≤ 24 → b.ar.nodes ≤ 24 → Bok B → SmB B → w ≤ 400 → UP B w (uniM f a b B w)
 | 0, a, b, B, w, ha, hb, hB, hS, hw => ⟨hB, hS, fun h => (by cases h), by simp only [uniM]; omega, [], rfl⟩
 | f + 1, a, b, B, w, ha, hb, hB, hS, hw => by
  have ea := look_small hS ha
  have eb := look_small hS hb
  have na := look_end hB a
  have nb := look_end hB b
  have up1 : ∀ r : Us, UP B (w + 1) r → UP B w r := fun r h => ⟨h.bok, h.sm, h.ok, by have := h.len; omega, h.ext⟩
  simp only [uniM]
  split
  ·exact ⟨hB, hS, fun h => (by cases h), by simp only; omega, [], rfl⟩
  split
  ·rename_i ha0
   split
   ·rename_i hb0
    by_cases e : (lookM B a).n = (lookM B b).n
    ·rw [if_pos e]
     exact ⟨hB, hS, fun _ => by simp only; omega, by simp only; omega, [], rfl⟩
    ·rw [if_neg e]
     exact ⟨⟨na ha0, fun h => ⟨fun h2 => e h2.symm, nb h⟩, hB⟩, hS.cons eb, fun _ => by simp only; omega, by simp; omega, [_], rfl⟩
   ·rename_i hb0
    exact up1 _ (sasg_up hB hS (na ha0) hb0 eb)
  split
  ·rename_i ha0 hb0
   exact up1 _ (sasg_up hB hS (nb hb0) ha0 ea)
  split
  ·exact up1 _ (sall_up _ _ _ _ (fun x y hx hy B w hB hS hw => suni_up f x y B w (by omega) (by omega) hB hS hw) hB hS (by omega))
  ·exact ⟨hB, hS, fun h => (by cases h), by simp only; omega, [], rfl⟩
end Go.Proofs.YtehhgmeaggempaaDoor
namespace Go.Proofs.YtehhgmeaggempaaDoor
open Go.RowKit
set_option linter.unusedVariables false
set_option linter.unusedSimpArgs false
def Ts.tms : Ts → List Tm
 | .nil => []
 | .cons k n s a r => ⟨k, n, s, a⟩ :: r.tms
theorem Ts.tms_len (T : Ts) : T.tms.length = T.length := by
 induction T with
 | nil => rfl
 | cons k n s a r _ ih => simp only [Ts.tms, List.length_cons, ih, Ts.length]
def tvw (t : Tm) : Vw Tm := if t.k = 0 then .var t.n else .node t.k t.n t.s t.ar.tms
def tview (B : Bnd) (t : Tm) : Vw Tm := tvw (lookM B t)
def sysT (j : Bnd → Tm → Tm → Bnd) : Sy where
 X := Tm
 S := Bnd
 ok := Bok
 dom := fun _ _ => True
 view := tview
 bind := fun B v t => (v, lookM B t) :: B
 join := j
theorem tview_var {B : Bnd} {t : Tm} {v : Int} : tview B t = .var v ↔ (lookM B t).k = 0 ∧ (lookM B t).n = v := by
 unfold tview tvw
 split
 ·rename_i h; simp [h]
 ·rename_i h; simp [h]
theorem tview_node {B : Bnd} {t : Tm} {k n : Int} {s : ByteArray} {ar : List Tm} (h : tview B t = .node k n s ar) : (lookM B t).k = k ∧ k ≠ 0 ∧ (lookM B t).n = n ∧ (lookM B t).s = s ∧ (lookM B t).ar.tms = ar := by
 unfold tview tvw at h
 split at h
 ·cases h
 ·rename_i h0; cases h; exact ⟨rfl, h0, rfl, rfl, rfl⟩
theorem look_cons {B : Bnd} {v : Int} {t : Tm} (hB : Bok ((v, t) :: B)) (x : Tm) : lookM ((v, t) :: B) x = if (lookM B x).k = 0 ∧ (lookM B x).n = v then t else lookM B x := by
 obtain ⟨hv, ht, hB'⟩ := hB
 have hBo : Bok ((v, t) :: B) := ⟨hv, ht, hB'⟩
 have htt : lookM ((v, t) :: B) t = t := by
  by_cases hk : t.k = 0
  ·refine look_free ?_
   obtain ⟨h1, h2⟩ := ht hk
   simp only [bget]
   rw [if_neg h1]; exact h2
  ·exact look_nonvar hk
 have key : ∀ (p : Nat) (x : Tm), Clear B p x → lookM ((v, t) :: B) x = if (lookM B x).k = 0 ∧ (lookM B x).n = v then t else lookM B x := by
  intro p
  induction p using Nat.strongRecOn with
  | _ p ih =>
   intro x hx
   by_cases hk : x.k = 0
   ·cases hg : bget x.n B with
    | none =>
     rw [look_free hg]
     by_cases hn : x.n = v
     ·rw [if_pos ⟨hk, hn⟩, look_bound hBo hk (u := t) (by simp only [bget]; rw [if_pos hn]), htt]
     ·rw [if_neg fun h => hn h.2, look_free]
      simp only [bget]; rw [if_neg hn]; exact hg
    | some u =>
     obtain ⟨q, hq, hu⟩ := hx.step hB' hk hg
     have hn : x.n ≠ v := fun e => by rw [e] at hg; rw [show bget v B = none from hv] at hg; cases hg
     rw [look_bound hB' hk hg, look_bound hBo hk (u := u) (by simp only [bget]; rw [if_neg hn]; exact hg)]
     exact ih q hq u hu
   ·rw [look_nonvar hk, look_nonvar hk, if_neg fun h => hk h.1]
 exact key _ x (Clear.start B x)
theorem tview_cons {B : Bnd} {v : Int} {t : Tm} (hB : Bok ((v, t) :: B)) (x : Tm) : tview ((v, t) :: B) x = (tview B x).sub v (tvw t) := by
 have := look_cons hB x
 unfold tview
 rw [this]
 by_cases h : (lookM B x).k = 0
 ·by_cases h2 : (lookM B x).n = v
  ·rw [if_pos ⟨h, h2⟩]
   unfold Vw.sub
   rw [show tvw (lookM B x) = .var (lookM B x).n by unfold tvw; rw [if_pos h]]
   simp [h2]
  ·rw [if_neg fun e => h2 e.2]
   rw [show tvw (lookM B x) = .var (lookM B x).n by unfold tvw; rw [if_pos h]]
   unfold Vw.sub; simp [h2]
 ·rw [if_neg fun e => h e.1]
  rw [show tvw (lookM B x) = .node (lookM B x).k (lookM B x).n (lookM B x).s (lookM B x).ar.tms by unfold tvw; rw [if_neg h]]
  rfl
def JoinOk (j : Bnd → Tm → Tm → Bnd) : Prop := ∀ B a b u v, Bok B → tview B a = .var u → tview B b = .var v → u ≠ v → ∃ p q t, j B a b = (p, t) :: B ∧ t.k = 0 ∧ t.n = q ∧ ((p = u ∧ q = v) ∨ (p = v ∧ q = u))
theorem free_of {B : Bnd} (hB : Bok B) {x : Tm} {v : Int} (h : tview B x = .var v) : bget v B = none := by
 obtain ⟨h1, h2⟩ := tview_var.1 h
 rw [← h2]; exact look_end hB x h1
theorem sysT_law {j : Bnd → Tm → Tm → Bnd} (hj : JoinOk j) : (sysT j).Law where
 bind_ok := by
  intro B x v t k n s ar hB _ _ hx ht
  obtain ⟨h1, h2, _⟩ := tview_node ht
  exact ⟨free_of hB hx, fun e => absurd e (by show (lookM B t).k ≠ 0; rw [h1]; exact h2), hB⟩
 bind_dom := fun _ => trivial
 bind_view := by
  intro B x v t k n s ar y hB _ _ hx ht _
  obtain ⟨h1, h2, _⟩ := tview_node ht
  have hb : Bok ((v, lookM B t) :: B) := ⟨free_of hB hx, fun e => absurd e (by show (lookM B t).k ≠ 0; rw [h1]; exact h2), hB⟩
  exact tview_cons hb y
 join_ok := by
  intro B a b u v hB _ _ ha hb hne
  obtain ⟨p, q, t, e, hk, hn, hpq⟩ := hj B a b u v hB ha hb hne
  show Bok (j B a b)
  rw [e]
  have fu := free_of hB ha
  have fv := free_of hB hb
  rcases hpq with ⟨rfl, rfl⟩ | ⟨rfl, rfl⟩
  ·exact ⟨fu, fun _ => ⟨by rw [hn]; exact fun e => hne e.symm, by rw [hn]; exact fv⟩, hB⟩
  ·exact ⟨fv, fun _ => ⟨by rw [hn]; exact hne, by rw [hn]; exact fu⟩, hB⟩
 join_dom := fun _ => trivial
 join_view := by
  intro B a b u v hB _ _ ha hb hne
  obtain ⟨p, q, t, e, hk, hn, hpq⟩ := hj B a b u v hB ha hb hne
  have fu := free_of hB ha
  have fv := free_of hB hb
  have et : tvw t = .var q := by unfold tvw; rw [if_pos hk, hn]
  rcases hpq with ⟨rfl, rfl⟩ | ⟨rfl, rfl⟩
  ·refine .inl fun y _ => ?_
   show tview (j B a b) y = _
   have hb2 : Bok ((p, t) :: B) := ⟨fu, fun _ => ⟨by rw [hn]; exact fun e => hne e.symm, by rw [hn]; exact fv⟩, hB⟩
   rw [e]
   have := tview_cons hb2 y
   rw [et] at this; exact this
  ·refine .inr fun y _ => ?_
   show tview (j B a b) y = _
   have hb2 : Bok ((p, t) :: B) := ⟨fv, fun _ => ⟨by rw [hn]; exact hne, by rw [hn]; exact fu⟩, hB⟩
   rw [e]
   have := tview_cons hb2 y
   rw [et] at this; exact this
def joinS (B : Bnd) (a b : Tm) : Bnd := ((lookM B a).n, lookM B b) :: B
def joinD (B : Bnd) (a b : Tm) : Bnd := (max (lookM B a).n (lookM B b).n, ⟨0, min (lookM B a).n (lookM B b).n, ⟨#[]⟩, .nil⟩) :: B
theorem joinS_ok : JoinOk joinS := fun B a b u v hB ha hb hne => by
 obtain ⟨a1, a2⟩ := tview_var.1 ha
 obtain ⟨b1, b2⟩ := tview_var.1 hb
 exact ⟨u, v, lookM B b, by unfold joinS; rw [a2], b1, b2, .inl ⟨rfl, rfl⟩⟩
theorem joinD_ok : JoinOk joinD := fun B a b u v hB ha hb hne => by
 obtain ⟨a1, a2⟩ := tview_var.1 ha
 obtain ⟨b1, b2⟩ := tview_var.1 hb
 refine ⟨max u v, min u v, ⟨0, min u v, ⟨#[]⟩, .nil⟩, by unfold joinD; rw [a2, b2], rfl, rfl, ?_⟩
 omega
abbrev sysS : Sy := sysT joinS
abbrev sysD : Sy := sysT joinD
theorem any_tms {g : Tm → Nat → Bool × Nat} : ∀ (T : Ts) (w : Nat), anyL g T w = anyG g T.tms w
 | .nil, w => rfl
 | .cons k n s a r, w => by simp only [anyL, Ts.tms, anyG]; rw [any_tms r]
theorem occ_eq (B : Bnd) (v : Int) : ∀ (f : Nat) (t : Tm) (w : Nat), occM B v f t w = occG sysS B v f t w
 | 0, t, w => rfl
 | f + 1, t, w => by
  simp only [occM, occG]
  split
  ·rfl
  ·rw [show sysS.view B t = tvw (lookM B t) from rfl]
   unfold tvw
   by_cases hk : (lookM B t).k = 0
   ·rw [if_pos hk, if_pos hk]
   ·rw [if_neg hk, if_neg hk, any_tms]
    have : occM B v f = occG sysS B v f := by funext t w; exact occ_eq B v f t w
    rw [this]; rfl
theorem occ_look {j : Bnd → Tm → Tm → Bnd} {B : Bnd} (hB : Bok B) (v : Int) (f : Nat) (t : Tm) (w : Nat) : occG (sysT j) B v f (lookM B t) w = occG (sysT j) B v f t w := by
 cases f with
 | zero => rfl
 | succ f =>
  simp only [occG]
  rw [show (sysT j).view B (lookM B t) = (sysT j).view B t by show tvw (lookM B (lookM B t)) = _; rw [look_look hB]; rfl]
def Us.ug (u : Us) : Ug Bnd := ⟨u.ok, u.B, u.w⟩
theorem all_tms {g : Tm → Tm → Bnd → Nat → Us} {g' : Tm → Tm → Bnd → Nat → Ug Bnd} (P : Bnd → Prop) (hP : ∀ a b B w, P B → P (g a b B w).B) (hg : ∀ a b B w, P B → (g a b B w).ug = g' a b B w) : ∀ (T U : Ts) (B : Bnd) (w : Nat), P B → (allL g T U B w).ug = allG g' T.tms U.tms B w
 | .nil, U, B, w, _ => by cases U <;> rfl
 | .cons k n s a r, .nil, B, w, _ => rfl
 | .cons k n s a r, .cons k' n' s' a' r', B, w, h => by
  simp only [allL, Ts.tms, allG]
  rw [← hg _ _ _ _ h]
  by_cases hok : (g ⟨k, n, s, a⟩ ⟨k', n', s', a'⟩ B w).ok = true
  ·rw [if_pos hok, if_pos (show (g ⟨k, n, s, a⟩ ⟨k', n', s', a'⟩ B w).ug.ok = true from hok)]
   exact all_tms P hP hg r r' _ _ (hP _ _ _ _ h)
  ·rw [if_neg hok, if_neg (show ¬ (g ⟨k, n, s, a⟩ ⟨k', n', s', a'⟩ B w).ug.ok = true from hok)]
theorem asg_bok {B : Bnd} (hB : Bok B) {v : Int} {t : Tm} (hv : bget v B = none) (ht : t.k ≠ 0) (w : Nat) : Bok (asgM v t B w).B := by
 unfold asgM
 split
 ·exact hB
 ·exact ⟨hv, fun e => absurd e ht, hB⟩
theorem allL_bok {g : Tm → Tm → Bnd → Nat → Us} (hg : ∀ a b B w, Bok B → Bok (g a b B w).B) : ∀ (T U : Ts) (B : Bnd) (w : Nat), Bok B → Bok (allL g T U B w).B
 | .nil, U, B, w, h => by cases U <;> exact h
 | .cons _ _ _ _ _, .nil, B, w, h => h
 | .cons k n s a r, .cons k' n' s' a' r', B, w, h => by
  simp only [allL]
  split
  ·exact allL_bok hg r r' _ _ (hg _ _ _ _ h)
  ·exact hg _ _ _ _ h
theorem uni_bok : ∀ (f : Nat) (a b : Tm) (B : Bnd) (w : Nat), Bok B → Bok (uniM f a b B w).B
 | 0, a, b, B, w, h => h
 | f + 1, a, b, B, w, h => by
  simp only [uniM]
  split
  ·exact h
  split
  ·rename_i ha
   split
   ·rename_i hb
    show Bok (if _ then _ else _)
    split
    ·exact h
    ·rename_i hne
     exact ⟨look_end h a ha, fun _ => ⟨fun e => hne e.symm, look_end h b hb⟩, h⟩
   ·rename_i hb
    exact asg_bok h (look_end h a ha) hb _
  ·rename_i ha
   split
   ·rename_i hb
    exact asg_bok h (look_end h b hb) ha _
   ·split
    ·exact allL_bok (fun a b B w h => uni_bok f a b B w h) _ _ _ _ h
    ·exact h
theorem uni_eq : ∀ (f : Nat) (a b : Tm) (B : Bnd) (w : Nat), Bok B → (uniM f a b B w).ug = uniG sysS f a b B w
 | 0, a, b, B, w, h => rfl
 | f + 1, a, b, B, w, h => by
  simp only [uniM, uniG]
  by_cases hw : 400 < w + 1
  ·rw [if_pos hw, if_pos hw]; rfl
  rw [if_neg hw, if_neg hw]
  have va : sysS.view B a = tvw (lookM B a) := rfl
  have vb : sysS.view B b = tvw (lookM B b) := rfl
  rw [va, vb]
  have hasg : ∀ (v : Int) (t : Tm), (asgM v (lookM B t) B (w + 1)).ug = asgG sysS v t B (w + 1) := fun v t => by
   unfold asgM asgG
   rw [occ_eq, occ_look (j := joinS) h]
   split <;> rfl
  by_cases ha : (lookM B a).k = 0
  ·rw [if_pos ha, show tvw (lookM B a) = .var (lookM B a).n by unfold tvw; rw [if_pos ha]]
   by_cases hb : (lookM B b).k = 0
   ·rw [if_pos hb, show tvw (lookM B b) = .var (lookM B b).n by unfold tvw; rw [if_pos hb]]
    rfl
   ·rw [if_neg hb, show tvw (lookM B b) = .node (lookM B b).k (lookM B b).n (lookM B b).s (lookM B b).ar.tms by unfold tvw; rw [if_neg hb]]
    exact hasg _ _
  ·rw [if_neg ha, show tvw (lookM B a) = .node (lookM B a).k (lookM B a).n (lookM B a).s (lookM B a).ar.tms by unfold tvw; rw [if_neg ha]]
   by_cases hb : (lookM B b).k = 0
   ·rw [if_pos hb, show tvw (lookM B b) = .var (lookM B b).n by unfold tvw; rw [if_pos hb]]
    exact hasg _ _
   ·rw [if_neg hb, show tvw (lookM B b) = .node (lookM B b).k (lookM B b).n (lookM B b).s (lookM B b).ar.tms by unfold tvw; rw [if_neg hb]]
    show (if _ then _ else _ : Us).ug = if _ then _ else _
    have hc : alikeT (lookM B a) (lookM B b) = true ↔ (lookM B a).k = (lookM B b).k ∧ (lookM B a).n = (lookM B b).n ∧ (lookM B a).s = (lookM B b).s ∧ (lookM B a).ar.tms.length = (lookM B b).ar.tms.length := by
     simp only [alikeT, Bool.and_eq_true, decide_eq_true_eq, Ts.tms_len, and_assoc]
    by_cases hal : alikeT (lookM B a) (lookM B b) = true
    ·rw [if_pos hal]
     refine Eq.trans ?_ (if_pos (hc.1 hal)).symm
     exact all_tms Bok (fun a b B w h => uni_bok f a b B w h) (fun a b B w h => uni_eq f a b B w h) _ _ _ _ h
    ·rw [if_neg hal]
     exact (if_neg fun e => hal (hc.2 e)).symm
end Go.Proofs.YtehhgmeaggempaaDoor
namespace Go.Proofs.YtehhgmeaggempaaDoor
open Go.RowKit
set_option linter.unusedVariables false
set_option linter.unusedSimpArgs false
def runD (l : List (Tm × Tm)) (B : Bnd) (w : Nat) : Ug Bnd := runP sysD l B w
def runOD (B : Bnd) (v : Int) (l : List Tm) (w : Nat) : Bool × Nat := runO' sysD B v l w
theorem tvw_var {t : Tm} (h : t.k = 0) : tvw t = .var t.n := by unfold tvw; rw [if_pos h]
theorem tvw_node {t : Tm} (h : t.k ≠ 0) : tvw t = .node t.k t.n t.s t.ar.tms := by unfold tvw; rw [if_neg h]
theorem runD_one (a b : Tm) (B : Bnd) (w : Nat) : runD [(a, b)] B w = uniG sysD 401 a b B w := runP_one (A := sysD) a b B w
theorem runD_over (p : Tm × Tm) (r : List (Tm × Tm)) (B : Bnd) {w : Nat} (h : 400 ≤ w) : runD (p :: r) B w = ⟨false, B, w + 1⟩ := runP_over (A := sysD) p r B h
theorem runD_same {a b : Tm} (r : List (Tm × Tm)) {B : Bnd} {w : Nat} (h : w < 400) (ka : (lookM B a).k = 0) (kb : (lookM B b).k = 0) (e : (lookM B a).n = (lookM B b).n) : runD ((a, b) :: r) B w = runD r B (w + 1) := by
 have := runP_vv (A := sysD) (a := a) (b := b) r (σ := B) h (tvw_var ka) (tvw_var kb)
 exact this.trans (congrArg (fun x => runP sysD r x (w + 1)) (if_pos e))
theorem runD_join {a b : Tm} (r : List (Tm × Tm)) {B : Bnd} {w : Nat} (h : w < 400) (ka : (lookM B a).k = 0) (kb : (lookM B b).k = 0) (e : (lookM B a).n ≠ (lookM B b).n) : runD ((a, b) :: r) B w = runD r ((max (lookM B a).n (lookM B b).n, ⟨0, min (lookM B a).n (lookM B b).n, ⟨#[]⟩, .nil⟩) :: B) (w + 1) := by
 have := runP_vv (A := sysD) (a := a) (b := b) r (σ := B) h (tvw_var ka) (tvw_var kb)
 exact this.trans (congrArg (fun x => runP sysD r x (w + 1)) (if_neg e))
theorem runOD_look {B : Bnd} (hB : Bok B) (v : Int) (t : Tm) (w : Nat) : runOD B v [lookM B t] w = runOD B v [t] w := by
 exact (runO'_one (A := sysD) (σ := B) (v := v) (lookM B t) w).trans ((occ_look (j := joinD) hB v 401 t w).trans (runO'_one (A := sysD) (σ := B) (v := v) t w).symm)
theorem runD_vn {a b : Tm} (r : List (Tm × Tm)) {B : Bnd} {w : Nat} (hB : Bok B) (h : w < 400) (ka : (lookM B a).k = 0) (kb : (lookM B b).k ≠ 0) : runD ((a, b) :: r) B w =
  if (runOD B (lookM B a).n [lookM B b] (w + 1)).1 = true ∨ 400 < (runOD B (lookM B a).n [lookM B b] (w + 1)).2 then ⟨false, B, (runOD B (lookM B a).n [lookM B b] (w + 1)).2⟩ else runD r (((lookM B a).n, lookM B b) :: B) (runOD B (lookM B a).n [lookM B b] (w + 1)).2 := by
 rw [runOD_look hB]
 exact runP_asg (A := sysD) (a := a) (b := b) r (uni_vn (A := sysD) h (tvw_var ka) (tvw_node kb))
theorem runD_nv {a b : Tm} (r : List (Tm × Tm)) {B : Bnd} {w : Nat} (hB : Bok B) (h : w < 400) (ka : (lookM B a).k ≠ 0) (kb : (lookM B b).k = 0) : runD ((a, b) :: r) B w =
  if (runOD B (lookM B b).n [lookM B a] (w + 1)).1 = true ∨ 400 < (runOD B (lookM B b).n [lookM B a] (w + 1)).2 then ⟨false, B, (runOD B (lookM B b).n [lookM B a] (w + 1)).2⟩ else runD r (((lookM B b).n, lookM B a) :: B) (runOD B (lookM B b).n [lookM B a] (w + 1)).2 := by
 rw [runOD_look hB]
 exact runP_asg (A := sysD) (a := a) (b := b) r (uni_nv (A := sysD) h (tvw_node ka) (tvw_var kb))
theorem runD_nn {a b : Tm} (r : List (Tm × Tm)) {B : Bnd} {w : Nat} (h : w < 400) (ka : (lookM B a).k ≠ 0) (kb : (lookM B b).k ≠ 0) (he : (lookM B a).k = (lookM B b).k ∧ (lookM B a).n = (lookM B b).n ∧ (lookM B a).s = (lookM B b).s ∧ (lookM B a).ar.length = (lookM B b).ar.length) :
  runD ((a, b) :: r) B w = runD ((lookM B a).ar.tms.zip (lookM B b).ar.tms ++ r) B (w + 1) := by
 have := runP_nn (A := sysD) (a := a) (b := b) r (σ := B) h (tvw_node ka) (tvw_node kb)
 exact this.trans (if_pos ⟨he.1, he.2.1, he.2.2.1, (Ts.tms_len _).trans (he.2.2.2.trans (Ts.tms_len _).symm)⟩)
theorem runD_no {a b : Tm} (r : List (Tm × Tm)) {B : Bnd} {w : Nat} (h : w < 400) (ka : (lookM B a).k ≠ 0) (kb : (lookM B b).k ≠ 0) (he : ¬ ((lookM B a).k = (lookM B b).k ∧ (lookM B a).n = (lookM B b).n ∧ (lookM B a).s = (lookM B b).s ∧ (lookM B a).ar.length = (lookM B b).ar.length)) :
  runD ((a, b) :: r) B w = ⟨false, B, w + 1⟩ := by
 have := runP_nn (A := sysD) (a := a) (b := b) r (σ := B) h (tvw_node ka) (tvw_node kb)
 exact this.trans (if_neg fun hh => he ⟨hh.1, hh.2.1, hh.2.2.1, (Ts.tms_len _).symm.trans (hh.2.2.2.trans (Ts.tms_len _))⟩)
theorem runOD_long (B : Bnd) (v : Int) (x : Tm) (r : List Tm) {w : Nat} (h : 400 ≤ w) : (runOD B v (x :: r) w).1 = false ∧ 400 < (runOD B v (x :: r) w).2 := runO'_long (A := sysD) x r h
theorem runOD_hit {B : Bnd} {v : Int} {x : Tm} (r : List Tm) {w : Nat} (h : w < 400) (hk : (lookM B x).k = 0) (hn : (lookM B x).n = v) : runOD B v (x :: r) w = (true, w + 1) :=
 (runO'_var (A := sysD) r h (tvw_var hk)).trans (if_pos hn)
theorem runOD_miss {B : Bnd} {v : Int} {x : Tm} (r : List Tm) {w : Nat} (h : w < 400) (hk : (lookM B x).k = 0) (hn : (lookM B x).n ≠ v) : runOD B v (x :: r) w = runOD B v r (w + 1) :=
 (runO'_var (A := sysD) r h (tvw_var hk)).trans (if_neg hn)
theorem runOD_node {B : Bnd} {v : Int} {x : Tm} (r : List Tm) {w : Nat} (h : w < 400) (hk : (lookM B x).k ≠ 0) : runOD B v (x :: r) w = runOD B v ((lookM B x).ar.tms ++ r) (w + 1) :=
 runO'_node (A := sysD) r h (tvw_node hk)
end Go.Proofs.YtehhgmeaggempaaDoor
namespace Go.Proofs.YtehhgmeaggempaaDoor
def Ts.vars (P : Int → Prop) : Ts → Prop
 | .nil => True
 | .cons k n _ ar r => (k = 0 → P n) ∧ ar.vars P ∧ r.vars P
end Go.Proofs.YtehhgmeaggempaaDoor
namespace Go.Proofs.YtehhgmeaggempaaDoor
theorem pos_lt {n : Int} : ∀ {ks : List Int} {j : Nat}, pos n ks = some j → j < ks.length
 | [], _, h => by cases h
 | k :: r, j, h => by
  rw [pos] at h
  by_cases e : n = k
  ·rw [if_pos e] at h; cases h; simp
  ·rw [if_neg e] at h
   cases hp : pos n r with
   | none => rw [hp] at h; cases h
   | some i =>
    rw [hp] at h
    cases h
    have := pos_lt hp
    simp; omega
end Go.Proofs.YtehhgmeaggempaaDoor
