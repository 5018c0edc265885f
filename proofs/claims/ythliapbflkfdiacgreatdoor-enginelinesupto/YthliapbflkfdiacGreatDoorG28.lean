/- Solves, RefS15, PSim5, PSim6, Alike, SameR, SEv, SolvesL, LSAll, HSet, HPure, HChain, HOne: texts that follow one another, laid into one file. -/
import Derived.Test.YthliapbflkfdiacGreatDoorZ0
import Derived.Test.YthliapbflkfdiacGreatDoorG14
import Derived.Test.YthliapbflkfdiacGreatDoorG27
import Derived.KernelRfl
import Derived.Test.YthliapbflkfdiacGreatDoorG21
import Derived.Test.YthliapbflkfdiacGreatDoorG1
import Derived.Test.YthliapbflkfdiacGreatDoorRows
import Derived.Deep.LoopGhost
import Derived.StillTailTactics
namespace Go.Proofs.YthliapbflkfdiacGreatDoor
open Go.RowKit
set_option linter.unusedVariables false
set_option linter.unusedSimpArgs false
set_option maxRecDepth 100000
set_option maxHeartbeats 1000000
theorem QkE.segC {w:World} {b:Nat}:∀{L:List LC} {o:Nat},QkE w b L o→(∀x∈L,QvD x w)→Qnp w (fun _=>True) (L.map LC.cl) b o
 |[],_,_,_=>trivial
 |c::r,o,⟨h0,h1,h2,h3,h4,h5,h6⟩,hr=>⟨trivial,h0,h1,h2,⟨_,h3,(hr c (.head _)).1.sl⟩,⟨_,h4,(hr c (.head _)).2.sl⟩,h5,h6.segC fun x hx=>hr x (.tail _ hx)⟩
theorem Qsh.slC {L:List LC} {A:Option Addr} {c:Nat} {w:World} (h:Qsh L A c w):SlC w (fun _=>True) (.slice A L.length c) (L.map LC.cl):=by
 refine ⟨A,c,by simp,by simpa using h.1,fun hl=> ?_⟩
 obtain ⟨b,o,e,hs⟩:=h.2.1 (by simpa using hl)
 exact ⟨b,o,e,hs.segC h.2.2⟩
section
variable {M:List Nat} {w0:World} {H:List (Nat×Obj)} {F:List (World→Prop)}
end
section
variable {M:List Nat} {w0:World} {H:List (Nat×Obj)} {F:List (World→Prop)}
end
section
variable {P:List Cl} {q:Nat}
end
end Go.Proofs.YthliapbflkfdiacGreatDoor
namespace Go.Proofs.YthliapbflkfdiacGreatDoor.R
open Go.RowKit
set_option maxRecDepth 100000
end Go.Proofs.YthliapbflkfdiacGreatDoor.R
namespace Go.Proofs.YthliapbflkfdiacGreatDoor
open Go.RowKit
set_option linter.unusedVariables false
set_option linter.unusedSimpArgs false
set_option maxRecDepth 100000
set_option maxHeartbeats 1000000
theorem QhI {l:List Value} {v:Value}:∀{i:Nat},i<l.length→Put l i v (l.set i v):=by
 induction l with
 |nil=>intro i h;simp at h
 |cons u l ih=>
  intro i h
  cases i with
  |zero=>exact .z
  |succ i=>exact .s (ih (by simpa using h))
theorem Qhk (c:HC) (r:List HC) (i:Nat) (x:Int):Qej (c::r) (i+1) x=c::Qej r i x:=by simp [Qej]
theorem Qhj (c:HC) (r:List HC) (x:Int):Qej (c::r) 0 x=⟨c.k,x,c.s⟩::r:=by simp [Qej]
theorem QnP (i:Nat) (x:Int):Qej [] i x=[]:=by simp [Qej]
theorem QbE (L:List HC) (i:Nat) (x:Int):(Qej L i x).length=L.length:=by simp [Qej]
theorem Qog:∀(L:List HC) (i:Nat) (x:Int),(Q5 L).set (i*3+1) (.int .i64 x)=Q5 (Qej L i x)
 |[],i,x=>by simp [QnP,Q5]
 |c::r,0,x=>by rw [Qhj];rfl
 |c::r,i+1,x=>by
  rw [Qhk,show (i+1)*3+1=(i*3+1)+3 by omega]
  show _::_::_::(Q5 r).set (i*3+1) _=_
  rw [Qog r i x];rfl
theorem Qkg (L:List HC) (sp:List Value) (i:Nat) (x:Int) (hi:i<L.length):Put (Q5 L++sp) (i*3+1) (.int .i64 x) (Q5 (Qej L i x)++sp):=by
 have hl:=Q9 L
 have:=QhI (l:=Q5 L++sp) (v:= .int .i64 x) (i:=i*3+1) Yh
 rwa [List.set_append_left _ _ Ya,Qog] at this
theorem QsE (P:List HC) (x:HC) (R:List HC) (v:Int):Qej (P++x::R) P.length v=P++⟨x.k,v,x.s⟩::R:=by
 induction P with
 |nil=>exact Qhj _ _ _
 |cons p P ih=>rw [List.cons_append,List.length_cons,Qhk,ih];rfl
theorem QgK (L:List HC) (i j:Nat) (x:Int):(Qej L i x)[j]?=if i=j then (L[j]?).map (fun c=>⟨c.k,x,c.s⟩) else L[j]?:=by
 simp only [Qej,List.getElem?_modify]
 by_cases h:i=j
 ·simp [h]
 ·simp [h]
theorem Qbf {L:List HC} {a:Int} {c:HC}:hat L a=some c↔0≤a∧a<L.length∧L[a.toNat]?=some c:=by
 unfold hat
 constructor
 ·intro h
  split at h
  ·rename_i h0
   refine ⟨h0,?_,h⟩
   rcases Nat.lt_or_ge a.toNat L.length with hl|hl
   ·omega
   ·rw [List.getElem?_eq_none hl] at h;cases h
  ·cases h
 ·rintro ⟨h0,h1,h2⟩;rw [if_pos h0];exact h2
theorem QtP {L:List HC} {a:Int} (h0:0≤a) (h1:a<L.length):∃c,hat L a=some c:=⟨L[a.toNat]'Ya,Qbf.2 ⟨h0,h1,List.getElem?_eq_getElem _⟩⟩
theorem QlL {n:Nat}:∀{L:List HC} {i:Nat} {c:HC},QL n L=true→L[i]?=some c→Q4 n c (L.length-i-1)=true
 |[],i,c,_,h=>by simp at h
 |x::r,0,c,hg,h=>by
  obtain rfl:x=c:=by simpa using h
  simp only [QL,Bool.and_eq_true] at hg
  simpa using hg.1
 |x::r,i+1,c,hg,h=>by
  simp only [QL,Bool.and_eq_true] at hg
  have:=QlL (i:=i) (c:=c) hg.2 (by simpa using h)
  rw [List.length_cons,show r.length+1-(i+1)-1=r.length-i-1 by omega];exact this
theorem QM {n f:Nat} {c:HC} (h:Q4 n c f=true):(c.k=0∧0≤c.n∧c.n<n∧c.s=eS)∨(c.k=1∧c.n=0∧c.s≠eS)∨(c.k=2∧c.s=eS)∨(c.k=3∧1≤c.n∧c.n≤4∧c.n≤f∧c.s≠eS):=by
 unfold Q4 at h
 split at h
 ·simp only [Bool.and_eq_true,decide_eq_true_eq] at h;exact .inl ⟨‹_›,h.1,h.2.1,h.2.2⟩
 ·split at h
  ·simp only [Bool.and_eq_true,decide_eq_true_eq,Bool.not_eq_true',decide_eq_false_iff_not] at h;exact .inr (.inl ⟨‹_›,h.1,h.2⟩)
  ·split at h
   ·simp only [decide_eq_true_eq] at h;exact .inr (.inr (.inl ⟨‹_›,h⟩))
   ·split at h
    ·simp only [Bool.and_eq_true,decide_eq_true_eq,Bool.not_eq_true',decide_eq_false_iff_not] at h;exact .inr (.inr (.inr ⟨‹_›,h.1,h.2.1,h.2.2.1,h.2.2.2⟩))
    ·cases h
theorem Qam {n:Nat} {L:List HC} {a:Int} {c:HC} (hg:QL n L=true) (h:hat L a=some c):Q4 n c (L.length-a.toNat-1)=true:=QlL hg (Qbf.1 h).2.2
theorem QhZ {n:Nat} {L:List HC} {a:Int} (hg:QL n L=true):Qaz L a≤4∧(Qaz L a=0∨(0≤a∧a+Qaz L a<L.length)):=by
 unfold Qaz
 cases h:hat L a with
 |none=>exact ⟨by simp,.inl rfl⟩
 |some c=>
  obtain ⟨h0,h1,_⟩:=Qbf.1 h
  have hc:=QM (Qam hg h)
  simp only [QG]
  split
  ·rcases hc with hc|hc|hc|hc
   ·omega
   ·omega
   ·omega
   ·refine ⟨by omega,.inr ⟨h0,?_⟩⟩
    omega
  ·exact ⟨by simp,.inl rfl⟩
theorem QgW {n:Nat} {L:List HC} {a:Int} {c:HC} (hg:QL n L=true) (h:hat L a=some c) (hk:c.k=0):0≤c.n∧c.n<n:=by
 rcases QM (Qam hg h) with hc|hc|hc|hc<;>omega
theorem Qe7 {n:Nat} {x:Int} (h0:0≤x) (h1:x<n):∀{L:List HC} {i:Nat},QL n L=true→(∀c,L[i]?=some c→c.k=0)→QL n (Qej L i x)=true
 |[],i,hg,_=>by rw [QnP];rfl
 |y::r,0,hg,hk=>by
  rw [Qhj]
  simp only [QL,Bool.and_eq_true] at hg⊢
  refine ⟨?_,hg.2⟩
  have hk0:=hk y Yd
  have:=hg.1
  unfold Q4 at this⊢
  simp only [hk0,if_true] at this⊢
  simp only [Bool.and_eq_true,decide_eq_true_eq] at this⊢
  exact ⟨h0,h1,this.2.2⟩
 |y::r,i+1,hg,hk=>by
  rw [Qhk]
  simp only [QL,Bool.and_eq_true] at hg⊢
  rw [QbE]
  exact ⟨hg.1,Qe7 h0 h1 hg.2 fun c hc=>hk c (by simpa using hc)⟩
theorem QcV {L:List HC}:∀(f:Nat) (a:Int),QaR L f a= -1∨∃c,hat L (QaR L f a)=some c∧(c.k=0→c.n=QaR L f a)
 |0,a=> .inl rfl
 |f+1,a=>by
  cases h:hat L a with
  |none=>left;simp only [QaR,h]
  |some c=>
   by_cases hb:c.k=0∧c.n≠a
   ·simp only [QaR,h,if_pos hb];exact QcV f c.n
   ·right
    simp only [QaR,h,if_neg hb]
    exact ⟨c,rfl,fun hk=>Classical.byContradiction fun hn=>hb ⟨hk,hn⟩⟩
theorem QcU {L:List HC} {a:Int} (h:¬Qq L a<0):∃c,hat L (Qq L a)=some c∧(c.k=0→c.n=Qq L a):=by
 rcases QcV (L:=L) L.length a with h1|h1
 ·exact absurd (show Qq L a<0 by unfold Qq;rw [h1];decide) h
 ·exact h1
structure GU (n:Nat) (u:HU):Prop where
 len:u.cs.length=n
 good:QL n u.cs=true
 wk:u.lg=false→u.w≤400
 trl:u.tr.length≤65536+u.w
theorem GU.step {n:Nat} {u:HU} (h:GU n u):GU n u.step:=by
 refine ⟨h.len,h.good,fun hl=> ?_,?_⟩
 ·simp only [HU.step,Bool.or_eq_false_iff,decide_eq_false_iff_not] at hl⊢;omega
 ·have:=h.trl;simp only [HU.step];omega
theorem GU.look {n:Nat} {u:HU} (h:GU n u) (a:Int):GU n (u.look a).2:=by
 unfold HU.look
 split
 ·exact h
 ·rename_i hl;exact ⟨h.len,h.good,fun _=>h.wk (by simpa using hl),h.trl⟩
theorem Qdj (u:HU) (a:Int):(u.look a).2.w=u.w∧(u.look a).2.cs=u.cs∧(u.look a).2.tr=u.tr:=by
 unfold HU.look
 split<;>exact ⟨rfl,rfl,rfl⟩
theorem QcH {u:HU} {a:Int} (h:(u.look a).2.lg=false):u.lg=false∧(u.look a).1=Qq u.cs a∧¬Qq u.cs a<0:=by
 unfold HU.look at h⊢
 split at h
 ·rename_i hl;rw [hl] at h;cases h
 ·rename_i hl
  rw [if_neg hl]
  exact ⟨by simpa using hl,rfl,by simpa using h⟩
theorem GU.bind {n:Nat} {u:HU} (h:GU n u) {a x:Int} {c:HC} (ha:hat u.cs a=some c) (hk:c.k=0) (h0:0≤x) (h1:x<n) (ht:u.tr.length<65536+u.w):GU n (u.bind a x):=by
 refine ⟨by simp only [HU.bind];rw [QbE];exact h.len,?_,h.wk,by simp only [HU.bind,List.length_append,List.length_cons,List.length_nil];omega⟩
 refine Qe7 h0 h1 h.good fun c' hc'=> ?_
 rw [(Qbf.1 ha).2.2] at hc'
 obtain rfl:=Option.some.inj hc'
 exact hk
structure OU (n f:Nat) (u v:HU):Prop where
 cs:v.cs=u.cs
 tr:v.tr=u.tr
 lt:u.w<v.w
 le:v.w≤max (u.w+1) (401+4*f)
 wk:v.lg=false→v.w≤400
 lg:u.lg=true→v.lg=true
theorem Qt2 {n f:Nat} {g:Int→HU→Bool×HU} {cs:List HC} (hg:∀x u,u.cs=cs→(u.lg=false→u.w≤400)→OU n f u (g x u).2):
  ∀(m:Nat) (x:Int) (u:HU),u.cs=cs→(u.lg=false→u.w≤400)→(Qkz g m x u).2.cs=u.cs∧(Qkz g m x u).2.tr=u.tr∧u.w≤(Qkz g m x u).2.w∧(Qkz g m x u).2.w≤max (u.w+m) (401+4*f+m)∧((Qkz g m x u).2.lg=false→(Qkz g m x u).2.w≤400)∧(u.lg=true→(Qkz g m x u).2.lg=true)
 |0,x,u,hcs,hu=>⟨rfl,rfl,Nat.le_refl _,by simp only [Qkz];omega,hu,fun h=>h⟩
 |m+1,x,u,hcs,hu=>by
  have h1:=hg x u hcs hu
  simp only [Qkz]
  split
  ·exact ⟨h1.cs,h1.tr,Nat.le_of_lt h1.lt,by have:=h1.le;omega,h1.wk,h1.lg⟩
  ·obtain ⟨a1,a2,a3,a4,a5,a6⟩:=Qt2 hg m (x+1) (g x u).2 (h1.cs.trans hcs) h1.wk
   refine ⟨a1.trans h1.cs,a2.trans h1.tr,Nat.le_trans (Nat.le_of_lt h1.lt) a3,?_,a5,fun h=>a6 (h1.lg h)⟩
   have:=h1.le
   omega
theorem Qll {n:Nat} (a:Int):∀(f:Nat) (b:Int) (u:HU),QL n u.cs=true→(u.lg=false→u.w≤400)→OU n f u (Qct a f b u).2
 |f,b,u,hgd,hu=>by
  have hs:OU n f u (u.step.look b).2:=by
   have hw:=Qdj u.step b
   refine ⟨hw.2.1,hw.2.2,?_,?_,fun h=> ?_,fun h=> ?_⟩
   ·rw [hw.1];exact Nat.lt_succ_self _
   ·rw [hw.1];show u.w+1≤_;omega
   ·rw [hw.1]
    have:=(QcH h).1
    simp only [HU.step,Bool.or_eq_false_iff,decide_eq_false_iff_not] at this
    show u.w+1≤400
    omega
   ·cases hq:(u.step.look b).2.lg with
    |true=>rfl
    |false=>
     have:=(QcH hq).1
     simp only [HU.step,Bool.or_eq_false_iff] at this
     rw [h] at this;cases this.1
  cases f with
  |zero=>exact hs
  |succ f=>
   simp only [Qct]
   split
   ·exact hs
   ·split
    ·exact hs
    ·rename_i hl _
     have hl':(u.step.look b).2.lg=false:=by simpa using hl
     have hcs0:(u.step.look b).2.cs=u.cs:=(Qdj u.step b).2.1
     have hA:=(QhZ (a:=(u.step.look b).1) hgd).1
     obtain ⟨a1,a2,a3,a4,a5,a6⟩:=Qt2 (n:=n) (f:=f) (g:=Qct a f) (cs:=u.cs) (fun x v hv hw=>Qll a f x v (by rw [hv];exact hgd) hw) (Qaz u.cs (u.step.look b).1) ((u.step.look b).1+1) (u.step.look b).2 hcs0 hs.wk
     refine ⟨a1.trans hs.cs,a2.trans hs.tr,Nat.lt_of_lt_of_le hs.lt a3,?_,a5,fun h=>a6 (hs.lg h)⟩
     have hwl:=hs.wk hl'
     omega
structure UU (n:Nat) (u:HU) (r:Bool×HU):Prop where
 gu:GU n r.2
 lt:u.w<r.2.w
 le:r.2.w≤3000
 ok:r.1=true→r.2.lg=false
 ext:u.tr.length+r.2.w≤r.2.tr.length+r.2.w∧r.2.tr.length≤u.tr.length+(r.2.w-u.w)
theorem QtW {n:Nat} {u:HU} (h:GU n u) (hl:u.lg=false) {a b:Int} {c:HC} (ha:hat u.cs a=some c) (hk:c.k=0) (h0:0≤b) (h1:b<n):UU n u (Qnn a b u):=by
 have ho:=Qll (n:=n) a 401 b u h.good h.wk
 have hw:=h.wk hl
 have hle:=ho.le
 have hlt:=ho.lt
 have ht:=h.trl
 have hgu:GU n (Qct a 401 b u).2:=⟨by rw [ho.cs];exact h.len,by rw [ho.cs];exact h.good,ho.wk,by rw [ho.tr];omega⟩
 unfold Qnn
 split
 ·exact ⟨hgu,hlt,(by show (Qct a 401 b u).2.w≤3000;omega),fun h=>(by cases h),(by dsimp only;rw [ho.tr];constructor<;>omega)⟩
 ·rename_i hn
  have hlg:(Qct a 401 b u).2.lg=false:=by
   cases hq:(Qct a 401 b u).2.lg with
   |false=>rfl
   |true=>exact absurd (.inr hq) hn
  refine ⟨hgu.bind (by rw [ho.cs];exact ha) hk h0 h1 (by rw [ho.tr];omega),hlt,by show (Qct a 401 b u).2.w≤3000;omega,fun _=>hlg,?_⟩
  show u.tr.length+(Qct a 401 b u).2.w≤((Qct a 401 b u).2.tr++[a]).length+(Qct a 401 b u).2.w∧((Qct a 401 b u).2.tr++[a]).length≤u.tr.length+((Qct a 401 b u).2.w-u.w)
  rw [ho.tr]
  simp only [List.length_append,List.length_cons,List.length_nil]
  omega
theorem Qt3 {n:Nat} {g:Int→Int→HU→Bool×HU} (hg:∀x y u,GU n u→u.lg=false→UU n u (g x y u)):
  ∀(m:Nat) (x y:Int) (u:HU),GU n u→u.lg=false→GU n (Qio g m x y u).2∧u.w≤(Qio g m x y u).2.w∧(Qio g m x y u).2.w≤3000∧((Qio g m x y u).1=true→(Qio g m x y u).2.lg=false)∧u.tr.length≤(Qio g m x y u).2.tr.length∧(Qio g m x y u).2.tr.length≤u.tr.length+((Qio g m x y u).2.w-u.w)
 |0,x,y,u,h,hl=>⟨h,Nat.le_refl _,by have:=h.wk hl;simp only [Qio];omega,fun _=>hl,Nat.le_refl _,by simp only [Qio];omega⟩
 |m+1,x,y,u,h,hl=>by
  have h1:=hg x y u h hl
  have hx:=h1.ext
  simp only [Qio]
  split
  ·rename_i hok
   obtain ⟨a1,a2,a3,a4,a5,a6⟩:=Qt3 hg m (x+1) (y+1) (g x y u).2 h1.gu (h1.ok hok)
   have:=h1.lt
   exact ⟨a1,by omega,a3,a4,by omega,by omega⟩
  ·exact ⟨h1.gu,Nat.le_of_lt h1.lt,h1.le,h1.ok,by omega,by omega⟩
theorem QkP {n : Nat} : ∀ (f : Nat) (a b : Int) (u : HU), GU n u → u.lg = false → UU n u (Qcv f a b u)
 | f, a, b, u, h, hl => by
  have hw0:=h.wk hl
  have hwa:=Qdj u.step a
  have hwb:=Qdj (u.step.look a).2 b
  have hg2:GU n ((u.step.look a).2.look b).2:=(h.step.look a).look b
  have hw2:((u.step.look a).2.look b).2.w=u.w+1:=by rw [hwb.1,hwa.1];rfl
  have hcs2:((u.step.look a).2.look b).2.cs=u.cs:=by rw [hwb.2.1,hwa.2.1];rfl
  have htr2:((u.step.look a).2.look b).2.tr=u.tr:=by rw [hwb.2.2,hwa.2.2];rfl
  have hfail:UU n u (false,((u.step.look a).2.look b).2):=⟨hg2,(by show u.w<((u.step.look a).2.look b).2.w;rw [hw2];omega),(by show ((u.step.look a).2.look b).2.w≤3000;rw [hw2];omega),fun h=>(by cases h),(by dsimp only;rw [htr2,hw2];constructor<;>omega)⟩
  cases f with
  |zero=>exact hfail
  |succ f=>
   simp only [Qcv]
   split
   ·exact hfail
   rename_i hl2
   have hl2':((u.step.look a).2.look b).2.lg=false:=by simpa using hl2
   obtain ⟨hla,hb1,hb2⟩:=QcH hl2'
   obtain ⟨_,ha1,ha2⟩:=QcH hla
   rw [hwa.2.1] at hb1 hb2
   obtain ⟨x,hx,hxe⟩:=QcU ha2
   obtain ⟨y,hy,hye⟩:=QcU hb2
   rw [←ha1] at hx hxe
   rw [←hb1] at hy hye
   replace hx:hat u.cs (u.step.look a).1=some x:=hx
   replace hy:hat u.cs ((u.step.look a).2.look b).1=some y:=hy
   obtain ⟨x0,x1,_⟩:=Qbf.1 hx
   obtain ⟨y0,y1,_⟩:=Qbf.1 hy
   rw [h.len] at x1 y1
   have hkx:Qa7 u.cs (u.step.look a).1=x.k:=by unfold Qa7;rw [hx]
   have hky:Qa7 u.cs ((u.step.look a).2.look b).1=y.k:=by unfold Qa7;rw [hy]
   rw [hkx,hky]
   have hstep:∀{r:Bool×HU},UU n ((u.step.look a).2.look b).2 r→UU n u r:=fun {r} hr=>by
    have h1:=hr.lt
    have h2:=hr.ext
    rw [hw2] at h1 h2
    rw [htr2] at h2
    exact ⟨hr.gu,by omega,hr.le,hr.ok,by omega,by omega⟩
   split
   ·rename_i hk0
    split
    ·rename_i hk1
     split
     ·exact ⟨hg2,by show u.w<((u.step.look a).2.look b).2.w;rw [hw2];omega,by show ((u.step.look a).2.look b).2.w≤3000;rw [hw2];omega,fun _=>hl2',by dsimp only;rw [htr2,hw2];constructor<;>omega⟩
     ·have ht:=h.trl
      have hbd:GU n (((u.step.look a).2.look b).2.bind (max (u.step.look a).1 ((u.step.look a).2.look b).1) (min (u.step.look a).1 ((u.step.look a).2.look b).1)):=by
       rcases Int.le_total (u.step.look a).1 ((u.step.look a).2.look b).1 with hle|hle
       ·rw [Int.max_eq_right hle,Int.min_eq_left hle]
        exact hg2.bind (by rw [hcs2];exact hy) hk1 x0 x1 (by rw [htr2,hw2];omega)
       ·rw [Int.max_eq_left hle,Int.min_eq_right hle]
        exact hg2.bind (by rw [hcs2];exact hx) hk0 y0 y1 (by rw [htr2,hw2];omega)
      refine ⟨hbd,by show u.w<((u.step.look a).2.look b).2.w;rw [hw2];omega,by show ((u.step.look a).2.look b).2.w≤3000;rw [hw2];omega,fun _=>hl2',?_⟩
      simp only [HU.bind,List.length_append,List.length_cons,List.length_nil]
      rw [htr2,hw2]
      constructor<;>omega
    ·exact hstep (QtW hg2 hl2' (by rw [hcs2];exact hx) hk0 y0 y1)
   ·split
    ·rename_i hk1
     exact hstep (QtW hg2 hl2' (by rw [hcs2];exact hy) hk1 x0 x1)
    ·unfold Qdh
     split
     ·obtain ⟨a1,a2,a3,a4,a5,a6⟩:=Qt3 (fun x y v hv hlv=>QkP f x y v hv hlv) (Qaz ((u.step.look a).2.look b).2.cs (u.step.look a).1) ((u.step.look a).1+1) (((u.step.look a).2.look b).1+1) _ hg2 hl2'
      rw [hw2] at a2 a6
      rw [htr2] at a5 a6
      exact ⟨a1,by omega,a3,a4,by omega,by omega⟩
     ·exact hfail
inductive Qcs (L:List HC):Nat→Int→Int→Prop
 |here {a:Int} {c:HC}:hat L a=some c→¬(c.k=0∧c.n≠a)→Qcs L 0 a a
 |there {n:Nat} {a x:Int} {c:HC}:hat L a=some c→c.k=0→c.n≠a→Qcs L n c.n x→Qcs L (n+1) a x
def End (L:List HC) (a x:Int):Prop:=∃n,Qcs L n a x
theorem Qcs.det {L:List HC} {n m:Nat} {a x y:Int} (h:Qcs L n a x):Qcs L m a y→n=m∧x=y:=by
 induction h generalizing m with
 |here h0 h1=>
  intro g
  cases g with
  |here g0 g1=>exact ⟨rfl,rfl⟩
  |there g0 g1 g2 _=>rw [h0] at g0;cases g0;exact absurd ⟨g1,g2⟩ h1
 |there h0 h1 h2 _ ih=>
  intro g
  cases g with
  |here g0 g1=>rw [h0] at g0;cases g0;exact absurd ⟨h1,h2⟩ g1
  |there g0 g1 g2 g3=>
   rw [h0] at g0;cases g0
   obtain ⟨e1,e2⟩:=ih g3
   exact ⟨by omega,e2⟩
theorem End.det {L:List HC} {a x y:Int} (h:End L a x) (g:End L a y):x=y:=by
 obtain ⟨_,h⟩:=h
 obtain ⟨_,g⟩:=g
 exact (h.det g).2
theorem Qcs.last {L:List HC} {n:Nat} {a x:Int} (h:Qcs L n a x):∃c,hat L x=some c∧¬(c.k=0∧c.n≠x):=by
 induction h with
 |here h0 h1=>exact ⟨_,h0,h1⟩
 |there _ _ _ _ ih=>exact ih
theorem End.last {L:List HC} {a x:Int} (h:End L a x):∃c,hat L x=some c∧¬(c.k=0∧c.n≠x):=by
 obtain ⟨_,h⟩:=h;exact h.last
theorem End.self {L:List HC} {a x:Int} (h:End L a x):End L x x:=by
 obtain ⟨c,h0,h1⟩:=h.last
 exact ⟨0,.here h0 h1⟩
theorem End.first {L:List HC} {a x:Int} (h:End L a x):∃c,hat L a=some c:=by
 obtain ⟨_,h⟩:=h
 cases h with
 |here h0 _=>exact ⟨_,h0⟩
 |there h0 _ _ _=>exact ⟨_,h0⟩
theorem QhM:∀(n:Nat) (l:List Nat),l.Nodup→(∀y∈l,y<n)→l.length≤n
 |0,l,_,h=>by
  cases l with
  |nil=>simp
  |cons y l=>exact absurd (h y Yd) Ya
 |n+1,l,hn,h=>by
  by_cases hm:n∈l
  ·have h1:=QhM n (l.erase n) (hn.erase n) fun y hy=>by
    have h2:=(hn.mem_erase_iff).1 hy
    have h3:=h y h2.2
    have h4:=h2.1
    omega
   rw [List.length_erase_of_mem hm] at h1
   omega
  ·have:=QhM n l hn fun y hy=>by
    have h3:=h y hy
    have h4:y≠n:=fun e=>hm (e ▸ hy)
    omega
   omega
theorem Qcs.list {L:List HC} {n:Nat} {a x:Int} (h:Qcs L n a x):∃l:List Nat,l.length=n+1∧l.Nodup∧(∀y∈l,y<L.length)∧∀y∈l,∃j,j≤n∧Qcs L j (y:Int) x:=by
 induction h with
 | @here a c h0 h1=>
  obtain ⟨g0,g1,_⟩:=Qbf.1 h0
  refine ⟨[a.toNat],rfl,by simp,fun y hy=> ?_,fun y hy=>⟨0,Nat.le_refl _,?_⟩⟩
  ·simp at hy;omega
  ·simp at hy
   rw [show ((y:Nat):Int)=a by omega]
   exact .here h0 h1
 | @there n a x c h0 h1 h2 h3 ih=>
  obtain ⟨g0,g1,_⟩:=Qbf.1 h0
  obtain ⟨l,l1,l2,l3,l4⟩:=ih
  have ha:((a.toNat:Nat):Int)=a:=by omega
  refine ⟨a.toNat::l,by simp [l1],List.nodup_cons.2 ⟨fun hm=> ?_,l2⟩,fun y hy=> ?_,fun y hy=> ?_⟩
  ·obtain ⟨j,hj,he⟩:=l4 _ hm
   rw [ha] at he
   have:=(he.det (.there h0 h1 h2 h3)).1
   omega
  ·rcases List.mem_cons.1 hy with rfl|hy
   ·omega
   ·exact l3 y hy
  ·rcases List.mem_cons.1 hy with rfl|hy
   ·rw [ha];exact ⟨n+1,Nat.le_refl _,.there h0 h1 h2 h3⟩
   ·obtain ⟨j,hj,he⟩:=l4 y hy
    exact ⟨j,by omega,he⟩
theorem Qcs.lt {L:List HC} {n:Nat} {a x:Int} (h:Qcs L n a x):n<L.length:=by
 obtain ⟨l,l1,l2,l3,_⟩:=h.list
 have:=QhM L.length l l2 l3
 omega
theorem Qrp {L:List HC} {n:Nat} {a x:Int} (h:Qcs L n a x):∀f,n<f→QaR L f a=x:=by
 induction h with
 |here h0 h1=>
  intro f hf
  obtain ⟨f,rfl⟩:∃g,f=g+1:=⟨f-1,by omega⟩
  simp only [QaR,h0,if_neg h1]
 |there h0 h1 h2 _ ih=>
  intro f hf
  obtain ⟨f,rfl⟩:∃g,f=g+1:=⟨f-1,by omega⟩
  simp only [QaR,h0,if_pos (And.intro h1 h2)]
  exact ih f Ya
theorem Qft {L:List HC}:∀(f:Nat) (a:Int),¬QaR L f a<0→∃n,Qcs L n a (QaR L f a)
 |0,a,h=>absurd (show QaR L 0 a<0 by simp [QaR]) h
 |f+1,a,h=>by
  cases hc:hat L a with
  |none=>simp only [QaR,hc] at h;exact absurd Yg h
  |some c=>
   by_cases hb:c.k=0∧c.n≠a
   ·simp only [QaR,hc,if_pos hb] at h⊢
    obtain ⟨n,hn⟩:=Qft f c.n h
    exact ⟨n+1,.there hc hb.1 hb.2 hn⟩
   ·simp only [QaR,hc,if_neg hb]
    exact ⟨0,.here hc hb⟩
theorem End.look {L:List HC} {a x:Int} (h:End L a x):Qq L a=x:=by
 obtain ⟨n,h⟩:=h
 exact Qrp h _ h.lt
theorem Qkm {L:List HC} {a:Int} (h:¬Qq L a<0):End L a (Qq L a):=Qft _ _ h
theorem End.nonneg {L:List HC} {a x:Int} (h:End L a x):0≤x:=by
 obtain ⟨c,h0,_⟩:=h.last;exact (Qbf.1 h0).1
theorem Qf3 {L:List HC} {a:Int} (h:¬∃x,End L a x):Qq L a= -1:=by
 rcases QcV (L:=L) L.length a with h1|⟨c,h1,_⟩
 ·exact h1
 ·refine absurd ⟨Qq L a,Qkm ?_⟩ h
  have:=(Qbf.1 h1).1
  unfold Qq;omega
theorem Qcb {L:List HC} {r:Int} {c:HC} (hr:hat L r=some c) (y a:Int):hat (Qej L r.toNat y) a=if a=r then some ⟨c.k,y,c.s⟩ else hat L a:=by
 obtain ⟨r0,r1,r2⟩:=Qbf.1 hr
 unfold hat
 by_cases ha:0≤a
 ·rw [if_pos ha,if_pos ha,QgK]
  by_cases he:a=r
  ·rw [if_pos he,if_pos (by rw [he]),he,r2];rfl
  ·rw [if_neg he,if_neg Ya]
 ·rw [if_neg ha,if_neg ha,if_neg Ya]
structure Up (L L':List HC):Prop where
 ends:∀a x,End L a x→∃y,End L' a y∧End L' x y
 cell:∀a c,hat L a=some c→c.k≠0→hat L' a=some c
theorem Qti {L:List HC} {r y:Int} {c:HC} (hr:hat L r=some c) (hk:c.k=0) (hn:c.n=r) (hy:End L y y) (hne:y≠r):
  (∀a x,End L a x→x≠r→End (Qej L r.toNat y) a x)∧(∀a,End L a r→End (Qej L r.toNat y) a y):=by
 have hyy:End (Qej L r.toNat y) y y:=by
  obtain ⟨d,d0,d1⟩:=hy.last
  exact ⟨0,.here (by rw [Qcb hr,if_neg hne];exact d0) d1⟩
 have key:∀n a x,Qcs L n a x→End (Qej L r.toNat y) a (if x=r then y else x):=by
  intro n a x h
  induction h with
  | @here a d h0 h1=>
   by_cases ha:a=r
   ·rw [if_pos ha]
    obtain ⟨m,hm⟩:=hyy
    exact ⟨m+1,.there (c:=⟨c.k,y,c.s⟩) (by rw [Qcb hr,if_pos ha]) hk (by rw [ha];exact hne) hm⟩
   ·rw [if_neg ha]
    exact ⟨0,.here (by rw [Qcb hr,if_neg ha];exact h0) h1⟩
  | @there n a x d h0 h1 h2 _ ih=>
   have ha:a≠r:=fun e=>by
    rw [e,hr] at h0;cases h0
    rw [e] at h2;exact h2 hn
   obtain ⟨m,hm⟩:=ih
   exact ⟨m+1,.there (by rw [Qcb hr,if_neg ha];exact h0) h1 h2 hm⟩
 refine ⟨fun a x ⟨n,h⟩ hx=> ?_,fun a ⟨n,h⟩=> ?_⟩
 ·have:=key n a x h;rwa [if_neg hx] at this
 ·have:=key n a r h;rwa [if_pos rfl] at this
def Bis (L:List HC) (R:Int→Int→Prop):Prop:=∀a b,R a b→a=b∨∃x y,End L a x∧End L b y∧(x=y∨∃c,hat L x=some c∧hat L y=some c∧c.k≠0∧∀i:Int,0≤i→i<QG c→R (x+1+i) (y+1+i))
def Sm (L:List HC) (a b:Int):Prop:=∃R,Bis L R∧R a b
theorem Qs2 {u:HU} {a b:Int} (h:((u.step.look a).2.look b).2.lg=false):
  u.step.lg=false∧(u.step.look a).1=Qq u.cs a∧((u.step.look a).2.look b).1=Qq u.cs b∧End u.cs a (Qq u.cs a)∧End u.cs b (Qq u.cs b)∧((u.step.look a).2.look b).2.cs=u.cs∧((u.step.look a).2.look b).2.tr=u.tr∧((u.step.look a).2.look b).2.w=u.w+1:=by
 have hwa:=Qdj u.step a
 have hwb:=Qdj (u.step.look a).2 b
 obtain ⟨hla,hb1,hb2⟩:=QcH h
 obtain ⟨hls,ha1,ha2⟩:=QcH hla
 rw [hwa.2.1] at hb1 hb2
 exact ⟨hls,ha1,hb1,Qkm ha2,Qkm hb2,by rw [hwb.2.1,hwa.2.1];rfl,by rw [hwb.2.2,hwa.2.2];rfl,by rw [hwb.1,hwa.1];rfl⟩
structure One (a b:Int) (u:HU) (v:HU):Prop where
 up:Up u.cs v.cs
 sm:∀L,Up v.cs L→Sm L a b
end Go.Proofs.YthliapbflkfdiacGreatDoor
