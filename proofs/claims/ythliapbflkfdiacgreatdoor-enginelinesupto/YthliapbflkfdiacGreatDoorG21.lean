/- PSim4, HModel, HMem, HRow, CTerm: texts that follow one another, laid into one file. -/
import Derived.Test.YthliapbflkfdiacGreatDoorZ0
import Derived.Test.YthliapbflkfdiacGreatDoorG20
import Derived.Test.YthliapbflkfdiacGreatDoorG1
import Derived.Test.YthliapbflkfdiacGreatDoorG7
import Derived.Test.YthliapbflkfdiacGreatDoorG14
import Derived.Lib.SliceRun
namespace Go.Proofs.YthliapbflkfdiacGreatDoor
open Go.RowKit
set_option linter.unusedVariables false
set_option linter.unusedSimpArgs false
theorem Qq0 {g:Tm→Nat→Option (Tm×Nat)}:∀(T:Ts) (l:Nat),Qin g T l=Qel g T.tms l
 | .nil,l=>rfl
 | .cons k n s a r,l=>by
  simp only [Qin,Ts.tms,Qel]
  cases g ⟨k,n,s,a⟩ l with
  |none=>rfl
  |some p=>
   obtain ⟨t,l'⟩:=p
   dsimp only
   rw [Qq0 r]
   all_goals (cases Qel g r.tms l'<;>rfl)
theorem Qji {g g':Tm→Nat→Option (Tm×Nat)}:∀(l:List Tm),(∀x∈l,∀m,g x m=g' x m)→∀m,Qel g l m=Qel g' l m
 |[],_,m=>rfl
 |x::r,h,m=>by
  simp only [Qel]
  rw [h x (List.mem_cons_self ..) m]
  cases g' x m with
  |none=>rfl
  |some p=>
   obtain ⟨t,l'⟩:=p
   dsimp only
   rw [Qji r (fun y hy=>h y (List.mem_cons_of_mem _ hy))]
theorem Qqd {x:Tm}:∀{T:Ts},x∈T.tms→T.Mem x
 | .nil,h=>by cases h
 | .cons k n s a r,h=>by
  rcases List.mem_cons.1 h with rfl|h
  ·exact .inl rfl
  ·exact .inr (Qqd h)
theorem Quk {t:Tm} (h:tgd t) (hk:t.k=0):t.s=⟨#[]⟩∧t.ar= .nil:=by
 have:=h.1
 simp only [Ts.good,Bool.and_eq_true] at this
 have hn:=this.1.1
 unfold Qa6 at hn
 rw [if_pos hk] at hn
 simp only [Bool.and_eq_true,decide_eq_true_eq] at hn
 exact ⟨QiR.1 (hn.1.2.trans (Qaq []).symm),Ts.nil_of_length hn.2⟩
theorem Qt0 {B:Bnd} (hB:∀x∈B,tgd x.2):∀(f:Nat) (t:Tm) (l:Nat),tgd t→QjF B f t l=Qgw QkF B f t l
 |0,t,l,_=>rfl
 |f+1,t,l,ht=>by
  have hl:=Qjk hB ht
  simp only [QjF,Qgw]
  split
  ·rfl
  ·rw [show QkF.view B t=tvw (Qh B t) from rfl]
   unfold tvw
   by_cases hk:(Qh B t).k=0
   ·rw [if_pos hk]
    obtain ⟨h1,h2⟩:=Quk hl hk
    rw [h2,h1,hk];rfl
   ·rw [if_neg hk,Qq0]
    have:=Qji (g:=QjF B f) (g':=Qgw QkF B f) (Qh B t).ar.tms (fun x hx m=>Qt0 hB f x m (Qb8 _ hl x (Qqd hx))) (l-1)
    rw [this];rfl
theorem QvF {v:Nat} (hv:v<1000):tgd ⟨0,(v:Nat),⟨#[]⟩,.nil⟩:=by
 refine ⟨?_,by simp [Ts.nodes]⟩
 simp only [Ts.good,Bool.and_eq_true,and_true]
 unfold Qa6
 rw [if_pos rfl]
 simp only [Bool.and_eq_true,decide_eq_true_eq]
 exact ⟨⟨⟨by omega,by omega⟩,Qaq []⟩,rfl⟩
section
variable {P:List Cl} {q:Nat}
end
structure HC where
 k:Int
 n:Int
 s:ByteArray
deriving DecidableEq
abbrev eS:ByteArray:=⟨#[]⟩
structure HH where
 cs:List HC
 tr:List Int
def Q4 (all:Nat) (c:HC) (follow:Nat):Bool:=
 if c.k=0 then decide (0≤c.n)&&(decide (c.n<all)&&decide (c.s=eS))
 else if c.k=1 then decide (c.n=0)&& !decide (c.s=eS)
 else if c.k=2 then decide (c.s=eS)
 else if c.k=3 then decide (1≤c.n)&&(decide (c.n≤4)&&(decide (c.n≤follow)&& !decide (c.s=eS)))
 else false
def QL (all:Nat):List HC→Bool
 |[]=>true
 |c::r=>Q4 all c r.length&&QL all r
def Q3 (L:List HC):Bool:=decide (L.length≤65536)&&QL L.length L
def hat (L:List HC) (a:Int):Option HC:=if 0≤a then L[a.toNat]? else none
def Qj (L:List HC) (a:Int):Bool:=decide (0≤a)&&decide (a<L.length)
def Qax (L:List HC) (a:Int):Bool:=match hat L a with|some c=>decide (c.k=0)|none=>false
def QbT (L:List HC) (T:List Int):Bool:=decide (T.length≤65536)&&T.all (Qax L)
def QE (h:HH):Bool:=Q3 h.cs&&QbT h.cs h.tr
def QX (base:Nat) (c:HC):HC:=if c.k=0 then ⟨c.k,c.n+base,c.s⟩ else c
def Q2 (h:HH) (B:List HC):HH×Nat×Int:=
 if (QE h&&Q3 B)=false then (h,0,1)
 else if 65536<h.cs.length+B.length then (h,0,3)
 else (⟨h.cs++B.map (QX h.cs.length),h.tr⟩,h.cs.length,0)
def QaR (L:List HC):Nat→Int→Int
 |0,_=> -1
 |f+1,a=>match hat L a with
  |none=> -1
  |some c=>if c.k=0∧c.n≠a then QaR L f c.n else a
def Qq (L:List HC) (a:Int):Int:=QaR L L.length a
def Qej (L:List HC) (i:Nat) (x:Int):List HC:=L.modify i fun c=>⟨c.k,x,c.s⟩
def Qbn (L:List HC):List Int→List HC
 |[]=>L
 |a::r=>Qbn (Qej L a.toNat a) r
def QcG (h:HH) (n:Int):HH×Int:=
 if QE h=false then (h,1)
 else if n<0∨(h.tr.length:Int)<n then (h,2)
 else (⟨Qbn h.cs (h.tr.drop n.toNat),h.tr.take n.toNat⟩,0)
def Ql0 (h:HH) (n:Int):HH×Int:=
 if QE h=false then (h,1)
 else if n<0∨(h.cs.length:Int)<n then (h,2)
 else if QE ⟨h.cs.take n.toNat,h.tr⟩=false then (h,1)
 else (⟨h.cs.take n.toNat,h.tr⟩,0)
structure HU where
 cs:List HC
 tr:List Int
 w:Nat
 lg:Bool
def HU.step (u:HU):HU:=⟨u.cs,u.tr,u.w+1,u.lg||decide (400<u.w+1)⟩
def HU.look (u:HU) (a:Int):Int×HU:=
 if u.lg=true then (-1,u) else (Qq u.cs a,⟨u.cs,u.tr,u.w,decide (Qq u.cs a<0)⟩)
def HU.bind (u:HU) (a x:Int):HU:=⟨Qej u.cs a.toNat x,u.tr++[a],u.w,u.lg⟩
def Qa7 (L:List HC) (a:Int):Int:=match hat L a with|some c=>c.k|none=> -1
def QG (c:HC):Int:=if c.k=3 then c.n else 0
def Qaz (L:List HC) (a:Int):Nat:=match hat L a with|some c=>(QG c).toNat|none=>0
def Qkz (g:Int→HU→Bool×HU):Nat→Int→HU→Bool×HU
 |0,_,u=>(false,u)
 |m+1,x,u=>if (g x u).1=true then g x u else Qkz g m (x+1) (g x u).2
def Qct (a:Int):Nat→Int→HU→Bool×HU
 |0,b,u=>(false,(u.step.look b).2)
 |f+1,b,u=>
  if (u.step.look b).2.lg=true then (false,(u.step.look b).2)
  else if a=(u.step.look b).1 then (true,(u.step.look b).2)
  else Qkz (Qct a f) (Qaz u.cs (u.step.look b).1) ((u.step.look b).1+1) (u.step.look b).2
def Qnn (a b:Int) (u:HU):Bool×HU:=
 if (Qct a 401 b u).1=true∨(Qct a 401 b u).2.lg=true then (false,(Qct a 401 b u).2) else (true,(Qct a 401 b u).2.bind a b)
def Qio (g:Int→Int→HU→Bool×HU):Nat→Int→Int→HU→Bool×HU
 |0,_,_,u=>(true,u)
 |m+1,x,y,u=>if (g x y u).1=true then Qio g m (x+1) (y+1) (g x y u).2 else g x y u
def Qdh (g:Int→Int→HU→Bool×HU) (a b:Int) (u:HU):Bool×HU:=
 if hat u.cs a=hat u.cs b then Qio g (Qaz u.cs a) (a+1) (b+1) u else (false,u)
def Qcv : Nat → Int → Int → HU → Bool × HU
 |0,a,b,u=>(false,((u.step.look a).2.look b).2)
 |f+1,a,b,u=>
  if ((u.step.look a).2.look b).2.lg=true then (false,((u.step.look a).2.look b).2)
  else if Qa7 u.cs (u.step.look a).1=0 then
   if Qa7 u.cs ((u.step.look a).2.look b).1=0 then
    if (u.step.look a).1=((u.step.look a).2.look b).1 then (true,((u.step.look a).2.look b).2)
    else (true,((u.step.look a).2.look b).2.bind (max (u.step.look a).1 ((u.step.look a).2.look b).1) (min (u.step.look a).1 ((u.step.look a).2.look b).1))
   else Qnn (u.step.look a).1 ((u.step.look a).2.look b).1 ((u.step.look a).2.look b).2
  else if Qa7 u.cs ((u.step.look a).2.look b).1=0 then Qnn ((u.step.look a).2.look b).1 (u.step.look a).1 ((u.step.look a).2.look b).2
  else Qdh (Qcv f) (u.step.look a).1 ((u.step.look a).2.look b).1 ((u.step.look a).2.look b).2
def QU (h:HH) (a b:Int):HH×Bool×Int:=
 if QE h=false then (h,false,1)
 else if (Qj h.cs a&&Qj h.cs b)=false then (h,false,4)
 else if (Qcv 401 a b ⟨h.cs,h.tr,0,false⟩).2.lg=true∨(Qcv 401 a b ⟨h.cs,h.tr,0,false⟩).1=true∧65536<(Qcv 401 a b ⟨h.cs,h.tr,0,false⟩).2.tr.length then (h,false,3)
 else if (Qcv 401 a b ⟨h.cs,h.tr,0,false⟩).1=false then (h,false,0)
 else (⟨(Qcv 401 a b ⟨h.cs,h.tr,0,false⟩).2.cs,(Qcv 401 a b ⟨h.cs,h.tr,0,false⟩).2.tr⟩,true,0)
def hcs (c:HC):List Value:=[.int .i64 c.k,.int .i64 c.n,.string c.s]
def Q5:List HC→List Value
 |[]=>[]
 |c::r=> .int .i64 c.k:: .int .i64 c.n:: .string c.s::Q5 r
def Qm (l:List Int):List Value:=l.map (Value.int .i64)
def QS (l:List Bool):List Value:=l.map Value.bool
theorem Q9:∀L:List HC,(Q5 L).length=L.length*3
 |[]=>rfl
 |c::r=>by simp only [Q5,List.length_cons,Q9 r];omega
theorem QbG:∀L R:List HC,Q5 (L++R)=Q5 L++Q5 R
 |[],R=>rfl
 |c::r,R=>by simp only [Q5,List.cons_append,QbG r R]
theorem QgU:∀L:List HC,(Q5 L).all (·.oneCell')=true
 |[]=>rfl
 |c::r=>by simp only [Q5,List.all_cons,QgU r];rfl
theorem QhU (l:List Int):(Qm l).length=l.length*1:=by simp [Qm]
theorem QjD (l:List Bool):(QS l).length=l.length*1:=by simp [QS]
theorem QlE (l:List Int):(Qm l).all (·.oneCell')=true:=by simp [Qm,Value.oneCell']
theorem Qoh:∀(L:List HC) (i:Nat) (x:HC),L[i]?=some x→(Q5 L)[i*3]?=some (.int .i64 x.k)∧(Q5 L)[i*3+1]?=some (.int .i64 x.n)∧(Q5 L)[i*3+2]?=some (.string x.s)
 |[],i,x,h=>by simp at h
 |c::r,0,x,h=>by
  obtain rfl:c=x:=by simpa using h
  exact ⟨rfl,rfl,rfl⟩
 |c::r,i+1,x,h=>by
  have h':r[i]?=some x:=by simpa using h
  obtain ⟨h0,h1,h2⟩:=Qoh r i x h'
  rw [show (i+1)*3=i*3+3 by omega]
  exact ⟨by simpa [Q5] using h0,by simpa [Q5] using h1,by simpa [Q5] using h2⟩
def Qz (sz:Nat) (xs:List Value) (A:Option Addr) (len cap:Nat) (w:World):Prop:=
 xs.length=len*sz∧len≤cap∧(0<len→∃b o,A=some ⟨b,o,none⟩∧∀j v,xs[j]?=some v→w.cell? ⟨b,o+j,none⟩=some v)
section
variable {sz len cap:Nat} {xs:List Value} {A:Option Addr} {w w':World}
theorem QrG {a:Addr} {v:Value} (hc:w.cell? a=some v):a.block<w.heap.size:=by
 rcases Nat.lt_or_ge a.block w.heap.size with hl|hg
 ·exact hl
 ·simp [World.cell?,Array.getElem?_eq_none hg] at hc
theorem QpB {b o:Nat} {v:Value} (hc:w.cell? ⟨b,o,none⟩=some v) (h:w'.heap[b]?=w.heap[b]?):w'.cell? ⟨b,o,none⟩=some v:=by
 unfold World.cell? at hc⊢
 rw [h];exact hc
theorem Qz.ext (h:Qz sz xs A len cap w) (hx:Ext [] w w'):Qz sz xs A len cap w':=
 ⟨h.1,h.2.1,fun hl=>by
  obtain ⟨b,o,e,hc⟩:=h.2.2 hl
  exact ⟨b,o,e,fun j v hj=>QpB (hc j v hj) (hx.block b (QrG (hc j v hj)) Yd)⟩⟩
theorem Qz.nil_ (A:Option Addr) (c:Nat) (w:World):Qz sz [] A 0 c w:=⟨by simp,Nat.zero_le _,fun h=>absurd h (Nat.lt_irrefl _)⟩
theorem Qz.some_ (h:Qz sz xs A len cap w) (hl:0<len):∃b o,A=some ⟨b,o,none⟩:=by
 obtain ⟨b,o,e,_⟩:=h.2.2 hl
 exact ⟨b,o,e⟩
theorem Qz.get {b o : Nat} (h : Qz sz xs (some ⟨b, o, none⟩) len cap w) {j : Nat} {v : Value} (hj : xs[j]? = some v) : w.cell? ⟨b, o + j, none⟩ = some v := by
 by_cases hl:0<len
 ·obtain ⟨b',o',e,hc⟩:=h.2.2 hl
  simp only [Option.some.injEq,Addr.mk.injEq] at e
  rw [e.1,e.2.1];exact hc j v hj
 ·have:xs=[]:=List.eq_nil_of_length_eq_zero (by
                            rw [h.1];have:len=0:=by omega
                            rw [this];simp)
  subst this;simp at hj
theorem Qz.own {b el:Nat} {sp:List Value} (ho:w.heap[b]?=some (.cells (xs++sp).toArray el)) (hx:xs.length=len*sz) (hc:len≤cap):Qz sz xs (some ⟨b,0,none⟩) len cap w:=
 ⟨hx,hc,fun _=>⟨b,0,rfl,fun j v hj=>by
  rw [Qt ho,Nat.zero_add,List.getElem?_append_left]
  ·exact hj
  ·rcases Nat.lt_or_ge j xs.length with h|h
   ·exact h
   ·rw [List.getElem?_eq_none h] at hj;cases hj⟩⟩
theorem Qz.take (h:Qz sz xs A len cap w) {m c':Nat} (hm:m≤len) (hc:m≤c'):Qz sz (xs.take (m*sz)) A m c' w:=by
 refine ⟨by rw [List.length_take,h.1];exact Nat.min_eq_left (Nat.mul_le_mul_right _ hm),hc,fun hl=> ?_⟩
 obtain ⟨b,o,e,hg⟩:=h.2.2 Ya
 refine ⟨b,o,e,fun j v hj=>hg j v ?_⟩
 rw [List.getElem?_take] at hj
 split at hj
 ·exact hj
 ·cases hj
end
section
variable {L:List HC} {cap:Nat} {A:Option Addr} {b o:Nat} {w w':World}
theorem Qz.cell (h:Qz 3 (Q5 L) (some ⟨b,o,none⟩) L.length cap w) {i:Nat} {x:HC} (hi:L[i]?=some x):
  w.cell? ⟨b,o+i*3,none⟩=some (.int .i64 x.k)∧w.cell? ⟨b,o+i*3+1,none⟩=some (.int .i64 x.n)∧w.cell? ⟨b,o+i*3+2,none⟩=some (.string x.s):=by
 obtain ⟨h0,h1,h2⟩:=Qoh L i x hi
 refine ⟨h.get h0,?_,?_⟩
 ·rw [Nat.add_assoc];exact h.get h1
 ·rw [Nat.add_assoc];exact h.get h2
end
theorem Qz.int {l:List Int} {cap b o:Nat} {w:World} (h:Qz 1 (Qm l) (some ⟨b,o,none⟩) l.length cap w) {i:Nat} {x:Int} (hi:l[i]?=some x):w.cell? ⟨b,o+i*1,none⟩=some (.int .i64 x):=by
 rw [Nat.mul_one];exact h.get (by simp [Qm,hi])
theorem Qz.bool {l:List Bool} {cap b o:Nat} {w:World} (h:Qz 1 (QS l) (some ⟨b,o,none⟩) l.length cap w) {i:Nat} {x:Bool} (hi:l[i]?=some x):w.cell? ⟨b,o+i*1,none⟩=some (.bool x):=by
 rw [Nat.mul_one];exact h.get (by simp [QS,hi])
theorem St.flat {M:List Nat} {w0 w:World} {H:List (Nat×Obj)} {F:List (World→Prop)} {sz len cap:Nat} {xs:List Value} {A:Option Addr} (h:St [] w0 H F w) (hf:Qz sz xs A len cap w0):St [] w0 H (Qz sz xs A len cap::F) w:=h.base fun w' hx=>hf.ext hx
abbrev Qkf (A:Option Addr) (n c:Nat) (B:Option Addr) (m d:Nat):Value:= .agg #[.slice A n c,.slice B m d]
def HFl (h:HH) (A:Option Addr) (c:Nat) (B:Option Addr) (d:Nat) (w:World):Prop:=Qz 3 (Q5 h.cs) A h.cs.length c w∧Qz 1 (Qm h.tr) B h.tr.length d w
abbrev hv (h:HH) (A:Option Addr) (c:Nat) (B:Option Addr) (d:Nat):Value:=Qkf A h.cs.length c B h.tr.length d
theorem HFl.ext {h:HH} {A B:Option Addr} {c d:Nat} {w w':World} (H:HFl h A c B d w) (hx:Ext [] w w'):HFl h A c B d w':=⟨H.1.ext hx,H.2.ext hx⟩
inductive Rw (el sz:Nat):Value→Nat→List Value→List (Nat×Obj)→Prop
 |zero_ {A:Option Addr}:Rw el sz (.slice A 0 0) 0 [] []
 |own_ {b len cap:Nat} {xs sp:List Value} (hx:xs.length=len*sz) (hc:(xs++sp).length=cap*sz) (hle:len≤cap) (hcp:0<cap):Rw el sz (.slice (some ⟨b,0,none⟩) len cap) len xs [(b,.cells (xs++sp).toArray el)]
theorem Rw.len_ {el sz len:Nat} {v:Value} {xs:List Value} {O:List (Nat×Obj)} (h:Rw el sz v len xs O):xs.length=len*sz:=by
 cases h with
 |zero_=>simp
 |own_ hx _ _ _=>exact hx
theorem Rw.form {el sz len:Nat} {v:Value} {xs:List Value} {O:List (Nat×Obj)} (h:Rw el sz v len xs O):∃A c,v= .slice A len c∧len≤c:=by
 cases h with
 |zero_=>exact ⟨_,_,rfl,Nat.le_refl _⟩
 |own_ _ _ hle _=>exact ⟨_,_,rfl,hle⟩
theorem Rw.some_ {el sz len cap l2:Nat} {A:Option Addr} {xs:List Value} {O:List (Nat×Obj)} (h:Rw el sz (.slice A l2 cap) len xs O) (hl:0<len):∃g sp,A=some ⟨g,0,none⟩∧O=[(g,.cells (xs++sp).toArray el)]∧(xs++sp).length=cap*sz∧len≤cap∧l2=len:=by
 cases h with
 |zero_=>omega
 |own_ hx hc hle hcp=>exact ⟨_,_,rfl,rfl,hc,hle,rfl⟩
theorem Rw.flat {el sz len cap:Nat} {A:Option Addr} {xs:List Value} {O H:List (Nat×Obj)} {M:List Nat} {w0 w:World} {F:List (World→Prop)} (h:Rw el sz (.slice A len cap) len xs O) (hS:St M w0 (O++H) F w):Qz sz xs A len cap w:=by
 cases h with
 |zero_=>exact Qz.nil_ _ _ _
 |own_ hx hc hle hcp=>exact Qz.own (hS.own (_,_) (.head _)) hx hle
theorem Qz.src {P:Program} {sz len cap:Nat} {xs:List Value} {A:Option Addr} {w:World} {t el:TypeId} (h:Qz sz xs A len cap w) (hT:QA P t=some el) (h1:xs.all (·.oneCell')=true):Src P sz t (.slice A len cap) len xs w:=by
 by_cases hl:0<len
 ·obtain ⟨b,o,rfl,hs⟩:=h.2.2 hl
  exact Src.ofSlice w (Qar hT) ⟨b,o,none⟩ _ _ _ h.1 (fun j u hj=>by rw [Qab];exact hs j u hj) (fun u hu=>List.all_eq_true.1 h1 u hu)
 ·have hl0:len=0:=by omega
  subst hl0
  obtain rfl:xs=[]:=List.eq_nil_of_length_eq_zero (by rw [h.1];simp)
  cases A with
  |none=>exact Src.ofNil w (Qar hT) _
  |some a=>exact Src.ofSlice w (Qar hT) a _ _ _ Yd (fun j u hj=>by simp at hj) (fun u hu=>by cases hu)
section
variable {P:Program} {n:Nat} {e:Env} {w:World} {Q:Exit→Act→World→Prop} {ops:Array Oper} {rest:List Oper} {ty:TypeId} {pos:String} {after:Array Edge} {d:Nat}
variable {M:List Nat} {w0:World} {H H':List (Nat×Obj)} {F:List (World→Prop)} {b:Nat} {x y:Operand} {v:Value} {t tx:TypeId} {dst:Option Nat}
theorem QjS {A:Option Addr} {l c el:Nat} {t2:TypeId} (hx:ev n e x= .slice A l c) (hy:ev n e y= .slice none 0 0) (hT:QA P t=some el):
  (execOp (ev n e) ⟨dst,.binOp .eql t x y t2,ty,pos,after,none⟩).run P w= .ok (.value (.bool A.isNone)) w:=by
 have h:=Lib.run_eql_slice_nil w t el A l c 0 0 (Qar hT)
 simp only [execOp,hx,hy,bind,pure]
 rw [Sem.run_bind',Sem.run_bind']
 rw [show (eqGuard .eql t x y (.slice A l c) (.slice none 0 0)).run P w= .ok () w from by cases A<;>simp [eqGuard,Sem.run,pure]]
 simp only [Result.andThen_ok]
 rw [h];rfl
theorem Qer {A:Option Addr} {len cap el sz:Nat} {i:Int} {j:Int} {z:Operand} (hx:ev n e x= .slice A len cap) (hy:ev n e y= .int .i64 i) (hz:ev n e z= .int .i64 j) (hT:QA P t=some el) (hs:QaE P el=some sz) (hi:i=(len:Nat)) (hj:j=(len:Nat)) (hl:len≤cap):
  (execOp (ev n e) ⟨dst,.slice t x none (some y) (some z),ty,pos,after,none⟩).run P w= .ok (.value (.slice A len len)) w:=by
 subst hi hj
 have h2:=run_underlying (Qar hT) w
 have h3:=Qad (w:=w) hs
 simp only [execOp,Instr.sliceAt,Instr.slice,hx,hy,hz,Option.map_some,Option.map_none,bind,pure,Sem.bind]
 rw [Sem.run_bind',Sem.run_bind',h2]
 simp only [Result.andThen_ok]
 rw [Sem.run_bind',h2]
 simp only [Result.andThen_ok,Instr.sliceBounds,Option.isSome_some,if_true,bind,pure,Sem.bind]
 rw [Sem.run_bind',Sem.run_bind',QbL rfl Ya Ya]
 simp only [Result.andThen_ok]
 rw [Sem.run_bind',QbL rfl Ya Ya]
 simp only [Result.andThen_ok]
 rw [show∀(l:Nat),Sem.run P (Sem.pure (0,l,l)) w= .ok (0,l,l) w from fun _=>rfl]
 simp only [Result.andThen_ok]
 rw [Sem.run_bind',h3]
 simp [Sem.run,Addr.add]
theorem QiB {el sz bts k:Nat} {A:Option Addr} {ki:IntKind} (hS:St M w0 H F w) (hx:ev n e x= .slice A 0 0) (hy:ev n e y= .int .i64 (k:Nat)) (hT:QA P t=some el) (hTx:P.underlying tx=some (.int ki)) (hi:QsK P el=some (sz,bts)) (hsz:0<sz) (hk:0<k)
  (hfit:2*k*bts≤281474976710656) (hbig:k≤4611686018427387904) (hd:Nat.blt d n=true)
  (h:∀(b cap:Nat) (zs:List Value) w',k≤cap→zs.length=cap*sz→St M w0 ((b,.cells zs.toArray el)::H) F w'→Lst P Q ops rest n ((d,.slice (some ⟨b,0,none⟩) k cap)::e) w'):
  Lst P Q ops (⟨some d,.call ⟨.builtin .append, #[x,y], #[t,tx]⟩,ty,pos,after,none⟩::rest) n e w:=by
 obtain ⟨i,z,h2,h3,h4,rfl,rfl⟩:=Qa5 hi
 have hn:=Go.Room.nextslicecap_le' (show 0<0+k by omega)
 have hcapn:0+k≤grownCap w (0+k) 0 el:=by unfold grownCap Question.cut;exact Nat.le_add_right _ _
 have h48:¬(281474976710656<Builtin.nextslicecap k 0*i.bytes):=by
  have:=Nat.le_trans (Nat.mul_le_mul_right i.bytes hn) (by rw [Nat.zero_add];exact hfit)
  rw [Nat.zero_add] at this;omega
 have h49:¬((281474976710656:Int)<(k:Int)*(i.bytes:Int)):=by
  have:k*i.bytes≤2*k*i.bytes:=Nat.mul_le_mul_right _ Ya
  have h5:((k*i.bytes:Nat):Int)≤281474976710656:=by omega
  rw [Int.natCast_mul] at h5;omega
 have hw:IntKind.i64.wrap (k:Int)=k:=Qex Ya Ya
 have h63:¬(9223372036854775807<(k:Int)):=by omega
 have hk0:¬k=0:=by omega
 have hr:∃zs:List Value,zs.length=grownCap w (0+k) 0 el*i.size∧(Builtin.append_ #[t,tx] ty #[.slice A 0 0,.int .i64 (k:Nat)]).run P w= .ok (.slice (some ⟨w.heap.size,0,none⟩) k (grownCap w (0+k) 0 el)) (w.drew.alloc (.cells zs.toArray el)):=by
  have hf:∀w,(Builtin.firstCells i.size 0 (.slice A 0 0)).run P w= .ok #[] w:=fun w=>by cases A<;>simp [Builtin.firstCells,Sem.run,pure,loadCells,loadCellsFrom]
  have hz0:¬((k:Int)<0):=by omega
  have hz1:¬(k≤0):=by omega
  rw [Nat.zero_add] at hcapn⊢
  have hai:∀w,(asInt (.int .i64 (k:Nat))).run P w= .ok (k:Int) w:=fun w=>rfl
  have hs1:¬i.size=0:=by omega
  refine ⟨(Builtin.zeroCells z.cells k++Builtin.zeroCells z.cells (grownCap w k 0 el-k)).toList,?_,?_⟩
  ·simp only [Array.length_toList,Array.size_append,Builtin.zeroCells,Array.size_map,Array.size_range,h4]
   rw [←Nat.add_mul];congr 1;omega
  ·simp [Builtin.append_,run_underlying (Qar hT),run_underlying hTx,sizeOf,typeInfo,zeroValue,h2,h3,hw,hai,hz0,h49,hz1,h63,h48,Question.forced,hf,newRow,grownCap,hk0,hs1]
   rw [if_neg (by intro h0;rcases Nat.mul_eq_zero.1 h0 with h|h<;>omega)]
   congr 3
   apply Array.ext'
   simp
 obtain ⟨zs,hzs,hr⟩:=hr
 refine Qa (v:= .slice (some ⟨w.heap.size,0,none⟩) k (grownCap w (0+k) 0 el)) (w':=w.drew.alloc (.cells zs.toArray el)) ?_ hd (h _ _ zs _ Ya hzs (hS.drew.alloc _))
 simp only [execOp,resolve,List.map_toArray,List.map_cons,List.map_nil,hx,hy,bind,pure,Sem.bind,invoke,builtin]
 rw [Sem.run_bind',hr]
 rfl
theorem Qcz {el len k:Nat} {q:Value} {ys xs:List Value} {O:List (Nat×Obj)} {i:TypeInfo} {z:Value} (hS:St M w0 H F w) (hx:ev n e x=v) (hy:ev n e y=q)
  (hT:QA P t=some el) (hTx:QA P tx=some el) (hi:P.info? el=some i) (hz:i.zero=some z) (hzs:z.cells.size=i.size) (hys:ys.length=k*i.size) (hsrc:Src P i.size tx q k ys w) (hrow:Rw el i.size v len xs O) (hP:H.Perm (O++H')) (hfit:2*(len+k)*i.bytes≤281474976710656) (hbig:len+k≤4611686018427387904) (hd:Nat.blt d n=true)
  (h:∀v' O' w',Rw el i.size v' (len+k) (xs++ys) O'→St M w0 (O'++H') F w'→Lst P Q ops rest n ((d,v')::e) w'):
  Lst P Q ops (⟨some d,.call ⟨.builtin .append, #[x,y], #[t,tx]⟩,ty,pos,after,none⟩::rest) n e w:=by
 have hS:=hS.perm hP
 have hlen:=hrow.len_
 have hop:∀r w2,(Builtin.append_ #[t,tx] ty #[v,q]).run P w= .ok r w2→(execOp (ev n e) ⟨some d,.call ⟨.builtin .append, #[x,y], #[t,tx]⟩,ty,pos,after,none⟩).run P w= .ok (.value r) w2:=by
  intro r w2 hr
  simp only [execOp,resolve,List.map_toArray,List.map_cons,List.map_nil,hx,hy,bind,pure,Sem.bind,invoke,builtin]
  rw [Sem.run_bind',hr]
  rfl
 have grow:∀(A:Option Addr) (cap:Nat),v= .slice A len cap→cap<len+k→(Builtin.firstCells i.size len (.slice A len cap)).run P w.drew= .ok xs.toArray w.drew→Lst P Q ops (⟨some d,.call ⟨.builtin .append, #[x,y], #[t,tx]⟩,ty,pos,after,none⟩::rest) n e w:=by
  intro A cap hv hcap hold
  have hn:=Go.Room.nextslicecap_le' hcap
  have hr:=run_append_grow_src (P:=P) w t tx ty el i z (Qar hT) hi hz A len cap xs hold (q) k ys hsrc hcap Ya (Nat.le_trans (Nat.mul_le_mul_right _ hn) hfit)
  rw [←hv] at hr
  refine ZbS ?_
  have hcapn:len+k≤grownCap w (len+k) cap el:=by unfold grownCap Question.cut;exact Nat.le_add_right _ _
  generalize grownCap w (len+k) cap el=nc at hcapn
  have hzc:(Builtin.zeroCells z.cells (nc-(len+k)))=(Builtin.zeroCells z.cells (nc-(len+k))).toList.toArray:=by simp
  have hzl:(Builtin.zeroCells z.cells (nc-(len+k))).toList.length=(nc-(len+k))*i.size:=by simp [Builtin.zeroCells,hzs]
  generalize (Builtin.zeroCells z.cells (nc-(len+k))).toList=zl at hzc hzl
  rw [hzc]
  have hS2:=(hS.drew.alloc (.cells ((xs++ys)++zl).toArray el))
  rw [show (xs++ys).toArray++zl.toArray=((xs++ys)++zl).toArray by simp]
  refine h _ [(w.heap.size,.cells ((xs++ys)++zl).toArray el)] _ (Rw.own_ ?_ ?_ hcapn Ya) ?_
  ·rw [List.length_append,hlen,hys,Nat.add_mul]
  ·rw [List.length_append,List.length_append,hlen,hys,hzl,←Nat.add_mul,←Nat.add_mul];congr 1;omega
  ·have h5:St M w0 ((w.heap.size,.cells ((xs++ys)++zl).toArray el)::(O++H')) F _:=hS2
   exact St.dropL (L:=O) h5.sink
 cases hrow with
 |zero_=>
  rename_i A0
  by_cases hk0:k=0
  ·subst hk0
   have hye:ys=[]:=List.eq_nil_of_length_eq_zero (by simpa using hys)
   subst hye
   have hr:(Builtin.append_ #[t,tx] ty #[.slice A0 0 0,q]).run P w= .ok (.slice A0 0 0) w:=by
    have hu:=run_underlying (Qar hT) w
    have hu2:=run_underlying (Qar hTx) w
    have hs1:=hsrc.len
    have hs2:=hsrc.cells
    have hs0:(Builtin.lenOf (.slice A0 0 0)).run P w= .ok 0 w:=rfl
    cases A0<;>simp [Builtin.append_,hu,hu2,sizeOf,typeInfo,hi,hs0,hs1,hs2,storeCells]
   refine Qa (hop _ _ hr) hd (h _ [] _ Rw.zero_ hS)
  ·exact grow A0 0 rfl Ya (by cases A0<;>simp [Builtin.firstCells,Sem.run,pure,loadCells,loadCellsFrom])
 |own_ hx2 hc2 hle hcp=>
  rename_i bl cap sp
  have hbl:w.heap[bl]?=some (.cells (xs++sp).toArray el):=hS.own (bl,_) Yd
  by_cases hroom:len+k≤cap
  ·have hcc:(xs++sp).length=cap*i.size:=hc2
   have hfitc:len*i.size+ys.length≤(xs++sp).length:=by rw [hcc,hys,←Nat.add_mul];exact Nat.mul_le_mul_right _ hroom
   have hr:=run_append_room_src (P:=P) w t tx ty el i (Qar hT) hi bl 0 len cap (q) k ys hsrc hroom
    (fun j hj=>by rw [Qt hbl,Nat.zero_add];simp only [Option.isSome_iff_exists];exact ⟨_,List.getElem?_eq_getElem Ya⟩) (fun j hj=>by simp [World.frozen?,hbl])
   obtain ⟨hs1,hs2⟩:=QbK ys (0+len*i.size) (xs++sp) w hbl Ya
   refine ZbS ?_
   have hu:Upd ([(bl,Obj.cells (xs++sp).toArray el)]++H') bl (.cells (xs++sp).toArray el) (.cells ((xs++sp).take (0+len*i.size)++ys++(xs++sp).drop (0+len*i.size+ys.length)).toArray el)
     ((bl,.cells ((xs++sp).take (0+len*i.size)++ys++(xs++sp).drop (0+len*i.size+ys.length)).toArray el)::H'):= .head
   have h3:=hS.turn hu hs2 hs1
   have e1:(xs++sp).take (0+len*i.size)=xs:=by rw [Nat.zero_add,←hx2];simp
   have e2:(xs++sp).drop (0+len*i.size+ys.length)=sp.drop ys.length:=by
    rw [Nat.zero_add,←hx2];simp [List.drop_append]
   rw [e1,e2] at h3
   refine h _ _ _ (Rw.own_ (b:=bl) (sp:=sp.drop ys.length) ?_ ?_ hroom hcp) h3
   ·rw [List.length_append,hx2,hys,Nat.add_mul]
   ·simp only [List.length_append,List.length_drop] at hcc hfitc⊢
    omega
  ·refine grow _ cap rfl Ya ?_
   have:=run_firstCells_some (P:=P) w.drew i.size len ⟨bl,0,none⟩ len cap xs hx2 (fun j u hj=> ?_)
   ·exact this
   ·have hjl:j<xs.length:=by
     rcases Nat.lt_or_ge j xs.length with hl|hl
     ·exact hl
     ·rw [List.getElem?_eq_none hl] at hj;cases hj
    rw [Qab,Qt (w:=w.drew) hbl,Nat.zero_add,List.getElem?_append_left hjl];exact hj
theorem QdI {el sz:Nat} (hS:St M w0 H F w) (hT:QA P t=some el) (hs:QaE P el=some sz) (hd:Nat.blt d n=true)
  (hk:∀b w',St M w0 ((b,.cells [].toArray el)::H) F w'→Lst P Q ops rest n ((d,.slice (some ⟨b,0,none⟩) 0 0)::e) w'):
  Lst P Q ops (⟨some d,.buildSlice t 0 #[],ty,pos,after,none⟩::rest) n e w:=by
 refine Qa (v:= .slice (some ⟨w.heap.size,0,none⟩) 0 0) (w':=w.alloc (.cells [].toArray el)) ?_ hd (hk _ _ (hS.alloc _))
 have h1:=run_underlying (Qar hT) w
 have h2:=Qad (w:=w) hs
 simp only [execOp,Instr.buildSlice,bind,pure,Array.map_empty]
 rw [Sem.run_bind',Sem.run_bind',h1]
 simp only [Result.andThen_ok]
 rw [Sem.run_bind',h2]
 have hr0:∀g:Nat→Value,Array.map g (Array.range 0)= #[]:=fun g=>by simp
 simp only [Result.andThen_ok,Nat.zero_mul,if_neg (show¬(0:Nat)>2^24 by omega),if_true,hr0]
 rfl
theorem Qc7 {el:TypeId} {A:Option Addr} {l c:Nat} {ts:Array TypeId} (hx:ev n e x= .slice A l c) (ht:ts[0]?=some t) (hT:QA P t=some el):
  (execOp (ev n e) ⟨dst,.call ⟨.builtin .cap, #[x],ts⟩,ty,pos,after,none⟩).run P w= .ok (.value (.int .i64 c)) w:=by
 have h1:=run_underlying (Qar hT) w
 simp only [execOp,resolve,List.map_toArray,List.map_cons,List.map_nil,hx,bind,pure,Sem.bind,invoke,builtin,Builtin.cap_,ht,List.getElem?_toArray,List.getElem?_cons_zero]
 first
  |rfl
  |(rw [Sem.run_bind',Sem.run_bind',h1];rfl)
end
theorem QcW {P:Program} {n:Nat} {e:Env} {w:World} {M:List Nat} {w0:World} {H:List (Nat×Obj)} {F:List (World→Prop)} {b:Nat} {t:TypeId} {f:FuncId} {R:Ending→World→Prop} {k:List Item} {fn:Func} {a u sz:Nat} {o:Nat} {cs vs:List Value} {ct:TypeId} {v2:Value} (hS:St M w0 H F w) (hf:P.funcs[f]?=some fn) (hr:fn.results= #[.cell a t,.tmp u]) (hv:ev n e (.tmp a)= .pointer (some ⟨b,o,none⟩))
  (h2:ev n e (.tmp u)=v2) (hA:QeU P t=some true) (hs:QaE P t=some sz) (hb:At H b (.cells cs.toArray ct)) (hc:Cut cs o sz vs) (hR:R (.returned (.tuple #[.agg vs.toArray,v2])) w):Qau P f R (.code .ret::k) (act n e) w:=by
 unfold Qau
 intro fr cs' hb' hk
 refine ⟨.returned (.tuple #[.agg vs.toArray,v2]),w,{ fr.at (act n e) (.code .ret::k) with mode:= .returning },hR,Steps.one step_ret,hb',rfl,rfl,hk,fn,?_,?_⟩
 ·show P.funcs[fr.fn]?=some fn
  rw [hb'];exact hf
 ·show (results fn (arr n e)).run P w=_
  have h1:=Qcm (w:=w) hA
  have h4:=Qad (w:=w) hs
  have h5:=run_loadCells_list (P:=P) (w:=w) ⟨b,o,none⟩ vs (fun j v hj=>by
   rw [Qab,Qt (hS.at_ hb)]
   have hjk:j<sz:=by
    rcases Nat.lt_or_ge j sz with h|h
    ·exact h
    ·rw [List.getElem?_eq_none (by rw [hc.length];exact h)] at hj;cases hj
   rw [hc.get j hjk];exact hj)
  rw [hc.length] at h5
  have hv':(arr n e).getD a undef= .pointer (some ⟨b,o,none⟩):=by rw [QaA];exact hv
  have hu':(arr n e).getD u undef=v2:=by rw [QaA];exact h2
  simp only [Array.getD_eq_getD_getElem?] at hv' hu'
  simp only [results,hr]
  simp [hv',hu',asAddr,loadVar,h1,h4,h5]
theorem Qpp {P:Program} {n:Nat} {e:Env} {w:World} {M:List Nat} {w0:World} {H:List (Nat×Obj)} {F:List (World→Prop)} {b:Nat} {t:TypeId} {f:FuncId} {R:Ending→World→Prop} {k:List Item} {fn:Func} {a u x y z sz:Nat} {o:Nat} {cs vs:List Value} {ct:TypeId} {v2 v3 v4 v5:Value} (hS:St M w0 H F w) (hf:P.funcs[f]?=some fn) (hr:fn.results= #[.cell a t,.tmp u,.tmp x,.tmp y,.tmp z]) (hv:ev n e (.tmp a)= .pointer (some ⟨b,o,none⟩))
  (h2:ev n e (.tmp u)=v2) (h3:ev n e (.tmp x)=v3) (hy4:ev n e (.tmp y)=v4) (hz5:ev n e (.tmp z)=v5) (hA:QeU P t=some true) (hs:QaE P t=some sz) (hb:At H b (.cells cs.toArray ct)) (hc:Cut cs o sz vs) (hR:R (.returned (.tuple #[.agg vs.toArray,v2,v3,v4,v5])) w):Qau P f R (.code .ret::k) (act n e) w:=by
 unfold Qau
 intro fr cs' hb' hk
 refine ⟨.returned (.tuple #[.agg vs.toArray,v2,v3,v4,v5]),w,{ fr.at (act n e) (.code .ret::k) with mode:= .returning },hR,Steps.one step_ret,hb',rfl,rfl,hk,fn,?_,?_⟩
 ·show P.funcs[fr.fn]?=some fn
  rw [hb'];exact hf
 ·show (results fn (arr n e)).run P w=_
  have h1:=Qcm (w:=w) hA
  have h4:=Qad (w:=w) hs
  have h5:=run_loadCells_list (P:=P) (w:=w) ⟨b,o,none⟩ vs (fun j v hj=>by
   rw [Qab,Qt (hS.at_ hb)]
   have hjk:j<sz:=by
    rcases Nat.lt_or_ge j sz with h|h
    ·exact h
    ·rw [List.getElem?_eq_none (by rw [hc.length];exact h)] at hj;cases hj
   rw [hc.get j hjk];exact hj)
  rw [hc.length] at h5
  have hv':(arr n e).getD a undef= .pointer (some ⟨b,o,none⟩):=by rw [QaA];exact hv
  have hu':(arr n e).getD u undef=v2:=by rw [QaA];exact h2
  have hx':(arr n e).getD x undef=v3:=by rw [QaA];exact h3
  have hy':(arr n e).getD y undef=v4:=by rw [QaA];exact hy4
  have hz':(arr n e).getD z undef=v5:=by rw [QaA];exact hz5
  simp only [Array.getD_eq_getD_getElem?] at hv' hu' hx' hy' hz'
  simp only [results,hr]
  simp [hv',hu',hx',hy',hz',asAddr,loadVar,h1,h4,h5]
theorem St.freezeR {M:List Nat} {w0 w:World} {H O:List (Nat×Obj)} {F:List (World→Prop)} {el sz len cap:Nat} {A:Option Addr} {xs:List Value} (hr:Rw el sz (.slice A len cap) len xs O) (hS:St M w0 (O++H) F w):St M w0 H (Qz sz xs A len cap::F) w:=by
 cases hr with
 |zero_=>exact hS.learn fun w' _=>Qz.nil_ _ _ _
 |own_ hx hc hle hcp=>
  rename_i b sp
  have hS':St M w0 ((b,Obj.cells (xs++sp).toArray el)::H) F w:=hS
  have ho:=hS'.own (b,_) (.head _)
  refine hS'.drop.learn fun w' hw=>Qz.own (sp:=sp) (el:=el) ?_ hx hle
  rw [hw.block b (Qcn ho) fun hm=> ?_]
  ·exact ho
  ·obtain ⟨p,hp,e⟩:=List.mem_map.1 hm
   exact (List.pairwise_cons.1 hS'.apart).1 p hp e.symm
section
variable {M:List Nat} {w0:World} {H:List (Nat×Obj)} {F:List (World→Prop)}
end
end Go.Proofs.YthliapbflkfdiacGreatDoor
