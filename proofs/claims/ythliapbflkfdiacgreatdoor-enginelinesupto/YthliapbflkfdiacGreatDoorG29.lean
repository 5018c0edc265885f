/- HRun, HUndo, HTerm, HMark, XSys, CModel, XModel, CPure, CPure2: texts that follow one another, laid into one file. -/
import Derived.Test.YthliapbflkfdiacGreatDoorZ0
import Derived.Test.YthliapbflkfdiacGreatDoorG28
import Derived.Test.YthliapbflkfdiacGreatDoorG7
import Derived.Test.YthliapbflkfdiacGreatDoorG20
import Derived.Test.YthliapbflkfdiacGreatDoorG4
import Derived.Test.YthliapbflkfdiacGreatDoorG10
namespace Go.Proofs.YthliapbflkfdiacGreatDoor
open Go.RowKit
set_option linter.unusedVariables false
set_option linter.unusedSimpArgs false
def ups (x:Int):Nat→List Int
 |0=>[]
 |m+1=>x::ups (x+1) m
theorem Qmx (x:Int) (m:Nat):(ups x m).length=m:=by
 induction m generalizing x with
 |zero=>rfl
 |succ m ih=>simp [ups,ih]
def Bd (N:List Int) (L L':List HC):Prop:=(∀r∈N,0≤r)∧∀i:Nat,((i:Int)∈N→∃c n,L[i]?=some c∧c.k=0∧c.n=(i:Int)∧L'[i]?=some ⟨c.k,n,c.s⟩)∧((i:Int)∉N→L'[i]?=L[i]?)
theorem Bd.refl (L:List HC):Bd [] L L:=⟨fun r h=>by simp at h,fun i=>⟨fun h=>by simp at h,fun _=>rfl⟩⟩
theorem Bd.trans {N N':List Int} {L L' L'':List HC} (h:Bd N L L') (g:Bd N' L' L''):Bd (N++N') L L'':=by
 refine ⟨fun r hr=>(List.mem_append.1 hr).elim (h.1 r) (g.1 r),fun i=>⟨fun hi=> ?_,fun hi=> ?_⟩⟩
 ·by_cases h1:(i:Int)∈N
  ·obtain ⟨c,n,c1,c2,c3,c4⟩:=(h.2 i).1 h1
   by_cases h2:(i:Int)∈N'
   ·obtain ⟨d,m,d1,d2,d3,d4⟩:=(g.2 i).1 h2
    rw [c4] at d1;cases d1
    exact ⟨c,m,c1,c2,c3,d4⟩
   ·rw [←(g.2 i).2 h2] at c4
    exact ⟨c,n,c1,c2,c3,c4⟩
  ·have h2:(i:Int)∈N':=by rcases List.mem_append.1 hi with h|h;exact absurd h h1;exact h
   obtain ⟨d,m,d1,d2,d3,d4⟩:=(g.2 i).1 h2
   rw [(h.2 i).2 h1] at d1
   exact ⟨d,m,d1,d2,d3,d4⟩
 ·rw [(g.2 i).2 (fun h'=>hi (List.mem_append_right _ h')),(h.2 i).2 (fun h'=>hi (List.mem_append_left _ h'))]
theorem Bd.one {L:List HC} {r y:Int} {c:HC} (hr:hat L r=some c) (hk:c.k=0) (hn:c.n=r):Bd [r] L (Qej L r.toNat y):=by
 obtain ⟨r0,r1,r2⟩:=Qbf.1 hr
 refine ⟨fun s hs=>by simp at hs;omega,fun i=>⟨fun hi=> ?_,fun hi=> ?_⟩⟩
 ·simp at hi
  have e:r.toNat=i:=by omega
  rw [e] at r2⊢
  exact ⟨c,y,r2,hk,by omega,by rw [QgK,if_pos rfl,r2];rfl⟩
 ·simp at hi
  rw [QgK,if_neg Ya]
theorem Qhb:∀(N:List Int) (L:List HC),(∀r∈N,0≤r)→∀i:Nat,(Qbn L N)[i]?=if (i:Int)∈N then (L[i]?).map (fun c=>⟨c.k,i,c.s⟩) else L[i]?
 |[],L,_,i=>by simp [Qbn]
 | r :: N, L, h, i => by
  have r0:=h r Yd
  unfold Qbn
  rw [Qhb N _ (fun s hs=>h s (.tail _ hs)) i,QgK]
  by_cases e:r.toNat=i
  ·have e2:(i:Int)=r:=by omega
   have hm:(i:Int)∈r::N:=by rw [e2];exact .head _
   rw [if_pos e,if_pos hm]
   by_cases h2:(i:Int)∈N
   ·rw [if_pos h2,Option.map_map];rfl
   ·rw [if_neg h2,e2]
  ·rw [if_neg e]
   have:(i:Int)∈r::N↔(i:Int)∈N:=by
    simp only [List.mem_cons]
    constructor
    ·rintro (h|h)
     ·omega
     ·exact h
    ·exact .inr
   simp only [this]
theorem Bd.undo {N:List Int} {L L':List HC} (h:Bd N L L'):Qbn L' N=L:=by
 refine List.ext_getElem? fun i=> ?_
 rw [Qhb N L' h.1 i]
 by_cases hi:(i:Int)∈N
 ·rw [if_pos hi]
  obtain ⟨c,n,c1,c2,c3,c4⟩:=(h.2 i).1 hi
  rw [c4,c1,Option.map_some,←c3]
 ·rw [if_neg hi];exact (h.2 i).2 hi
def Trl (u v:HU):Prop:=∃N,v.tr=u.tr++N∧Bd N u.cs v.cs
theorem Trl.same {u v:HU} (h1:v.cs=u.cs) (h2:v.tr=u.tr):Trl u v:=⟨[],by simp [h2],by rw [h1];exact Bd.refl _⟩
theorem Trl.trans {u v w:HU} (h:Trl u v) (g:Trl v w):Trl u w:=by
 obtain ⟨N,h1,h2⟩:=h
 obtain ⟨N',g1,g2⟩:=g
 exact ⟨N++N',by rw [g1,h1,List.append_assoc],h2.trans g2⟩
theorem Trl.bind {u v:HU} {r y:Int} {c:HC} (hr:hat u.cs r=some c) (hk:c.k=0) (hn:c.n=r) (h1:v.cs=Qej u.cs r.toNat y) (h2:v.tr=u.tr++[r]):Trl u v:=⟨[r],h2,by rw [h1];exact Bd.one hr hk hn⟩
theorem Qr3 {n:Nat} {g:Int→Int→HU→Bool×HU} (hu:∀x y u,GU n u→u.lg=false→UU n u (g x y u)) (hg:∀x y u,GU n u→u.lg=false→Trl u (g x y u).2):
  ∀(m:Nat) (x y:Int) (u:HU),GU n u→u.lg=false→Trl u (Qio g m x y u).2
 |0,x,y,u,h,hl=>Trl.same rfl rfl
 |m+1,x,y,u,h,hl=>by
  have h1:=hu x y u h hl
  simp only [Qio]
  split
  ·rename_i hok
   exact (hg x y u h hl).trans (Qr3 hu hg m (x+1) (y+1) _ h1.gu (h1.ok hok))
  ·exact hg x y u h hl
theorem QrT {n:Nat} {u:HU} (h:GU n u) {p q:Int} {x:HC} (hx:hat u.cs p=some x) (hxk:x.k=0) (hxe:x.n=p):Trl u (Qnn p q u).2:=by
 have ho:=Qll (n:=n) p 401 q u h.good h.wk
 unfold Qnn
 split
 ·exact Trl.same ho.cs ho.tr
 ·exact Trl.bind hx hxk hxe (by simp only [HU.bind];rw [ho.cs]) (by simp only [HU.bind];rw [ho.tr])
theorem Qp0 {n:Nat}:∀(f:Nat) (a b:Int) (u:HU),GU n u→u.lg=false→Trl u (Qcv f a b u).2
 | f, a, b, u, h, hl => by
  have hg2:GU n ((u.step.look a).2.look b).2:=(h.step.look a).look b
  have hwa:=Qdj u.step a
  have hwb:=Qdj (u.step.look a).2 b
  have hcs2:((u.step.look a).2.look b).2.cs=u.cs:=by rw [hwb.2.1,hwa.2.1];rfl
  have htr2:((u.step.look a).2.look b).2.tr=u.tr:=by rw [hwb.2.2,hwa.2.2];rfl
  have hfail:Trl u ((u.step.look a).2.look b).2:=Trl.same hcs2 htr2
  cases f with
  |zero=>exact hfail
  |succ f=>
  simp only [Qcv]
  by_cases hl2:((u.step.look a).2.look b).2.lg=true
  ·rw [if_pos hl2];exact hfail
  have hl3:((u.step.look a).2.look b).2.lg=false:=by simpa using hl2
  rw [if_neg hl2]
  obtain ⟨_,ha,hb,ea,eb,hcs,htr,_⟩:=Qs2 hl3
  rw [ha,hb]
  obtain ⟨x,hx,hxe⟩:=ea.last
  obtain ⟨y,hy,hye⟩:=eb.last
  generalize Qq u.cs a=p at*
  generalize Qq u.cs b=q at*
  generalize ((u.step.look a).2.look b).2=v at*
  rw [show Qa7 u.cs p=x.k by unfold Qa7;rw [hx],show Qa7 u.cs q=y.k by unfold Qa7;rw [hy]]
  by_cases hxk:x.k=0
  ·have hxn:x.n=p:=Classical.byContradiction fun e=>hxe ⟨hxk,e⟩
   rw [if_pos hxk]
   by_cases hyk:y.k=0
   ·have hyn:y.n=q:=Classical.byContradiction fun e=>hye ⟨hyk,e⟩
    rw [if_pos hyk]
    by_cases hpq:p=q
    ·rw [if_pos hpq];exact hfail
    ·rw [if_neg hpq]
     rcases Int.le_total p q with hle|hle
     ·rw [Int.max_eq_right hle,Int.min_eq_left hle]
      exact Trl.bind hy hyk hyn (by simp only [HU.bind];rw [hcs]) (by simp only [HU.bind];rw [htr])
     ·rw [Int.max_eq_left hle,Int.min_eq_right hle]
      exact Trl.bind hx hxk hxn (by simp only [HU.bind];rw [hcs]) (by simp only [HU.bind];rw [htr])
   ·rw [if_neg hyk]
    exact hfail.trans (QrT hg2 (by rw [hcs];exact hx) hxk hxn)
  ·rw [if_neg hxk]
   by_cases hyk:y.k=0
   ·have hyn:y.n=q:=Classical.byContradiction fun e=>hye ⟨hyk,e⟩
    rw [if_pos hyk]
    exact hfail.trans (QrT hg2 (by rw [hcs];exact hy) hyk hyn)
   ·rw [if_neg hyk]
    unfold Qdh
    split
    ·exact hfail.trans (Qr3 (n:=n) (fun x y u=>QkP f x y u) (fun x y u h hl=>Qp0 f x y u h hl) _ _ _ v hg2 hl3)
    ·exact hfail
theorem Qtc {h:HH} (hg:QE h=true):GU h.cs.length ⟨h.cs,h.tr,0,false⟩:=by
 unfold QE Q3 QbT at hg
 simp only [Bool.and_eq_true,decide_eq_true_eq] at hg
 exact ⟨rfl,hg.1.2,fun _=>by show (0:Nat)≤400;omega,by show h.tr.length≤65536+0;omega⟩
def Qdm (g:Int→Nat→Option (Tm×Nat)):Nat→Int→Nat→Option (Ts×Nat)
 |0,_,l=>some (.nil,l)
 |m+1,a,l=>(g a l).bind fun p=>(Qdm g m (a+1) p.2).map fun q=>(.cons p.1.k p.1.n p.1.s p.1.ar q.1,q.2)
def Qgf (L:List HC):Nat→Int→Nat→Option (Tm×Nat)
 |0,_,_=>none
 |f+1,a,l=>if l=0 then none else match hat L (Qq L a) with
  |none=>none
  |some c=>if c.k=0 then some (⟨0,Qq L a,eS,.nil⟩,l-1)
   else if c.k=1 then some (⟨1,0,c.s,.nil⟩,l-1)
   else if c.k=2 then some (⟨2,c.n,eS,.nil⟩,l-1)
   else (Qdm (Qgf L f) (QG c).toNat (Qq L a+1) (l-1)).map fun p=>(⟨3,0,c.s,p.1⟩,p.2)
def Qen:Tm:=⟨0,0,eS,.nil⟩
def QjZ (most:Int):Nat:=(min most 65536).toNat
def Qbk (h:HH) (a most:Int):Tm×Nat×Int:=
 if QE h=false then (Qen,0,1)
 else if Qj h.cs a=false then (Qen,0,4)
 else match Qgf h.cs (QjZ most) a (QjZ most) with
  |none=>(Qen,0,3)
  |some (t,l)=>(t,QjZ most-l,0)
theorem QjN {L:List HC} {f:Nat} {a:Int} {l:Nat} {c:HC} (hl:l≠0) (hc:hat L (Qq L a)=some c):Qgf L (f+1) a l=if c.k=0 then some (⟨0,Qq L a,eS,.nil⟩,l-1)
   else if c.k=1 then some (⟨1,0,c.s,.nil⟩,l-1)
   else if c.k=2 then some (⟨2,c.n,eS,.nil⟩,l-1)
   else (Qdm (Qgf L f) (QG c).toNat (Qq L a+1) (l-1)).map fun p=>(⟨3,0,c.s,p.1⟩,p.2):=by
 simp only [Qgf];rw [if_neg hl,hc]
theorem Qqe {L:List HC} {f:Nat} {a:Int} {l:Nat} (hc:Qq L a<0):Qgf L f a l=none:=by
 cases f with
 |zero=>rfl
 |succ f=>
  simp only [Qgf]
  split
  ·rfl
  ·rw [show hat L (Qq L a)=none by unfold hat;rw [if_neg Ya]]
theorem QhR {g:Int→Nat→Option (Tm×Nat)} (hg:∀a l p,g a l=some p→p.1.ar.nodes+1+p.2=l):∀(m:Nat) (a:Int) (l:Nat) (p:Ts×Nat),Qdm g m a l=some p→p.1.nodes+p.2=l∧p.1.length=m
 |0,a,l,p,h=>by simp only [Qdm,Option.some.injEq] at h;subst h;simp [Ts.nodes,Ts.length]
 |m+1,a,l,p,h=>by
  simp only [Qdm] at h
  cases h1:g a l with
  |none=>rw [h1] at h;simp at h
  |some q=>
   rw [h1,Option.bind_some] at h
   cases h2:Qdm g m (a+1) q.2 with
   |none=>rw [h2] at h;simp at h
   |some r=>
    rw [h2,Option.map_some,Option.some.injEq] at h
    subst h
    have e1:=hg a l q h1
    obtain ⟨e2,e3⟩:=QhR hg m (a+1) q.2 r h2
    simp only [Ts.nodes,Ts.length]
    omega
theorem Qd2 {L:List HC}:∀(f:Nat) (a:Int) (l:Nat) (p:Tm×Nat),Qgf L f a l=some p→p.1.ar.nodes+1+p.2=l
 |0,a,l,p,h=>by cases h
 |f+1,a,l,p,h=>by
  by_cases hl:l=0
  ·simp only [Qgf] at h;rw [if_pos hl] at h;cases h
  cases hc:hat L (Qq L a) with
  |none=>simp only [Qgf] at h;rw [if_neg hl,hc] at h;cases h
  |some c=>
   rw [QjN hl hc] at h
   split at h
   ·cases h;simp only [Ts.nodes];omega
   split at h
   ·cases h;simp only [Ts.nodes];omega
   split at h
   ·cases h;simp only [Ts.nodes];omega
   cases h2:Qdm (Qgf L f) (QG c).toNat (Qq L a+1) (l-1) with
   |none=>rw [h2] at h;cases h
   |some r=>
    rw [h2,Option.map_some,Option.some.injEq] at h
    subst h
    have:=(QhR (fun a l p=>Qd2 f a l p) _ _ _ _ h2).1
    show r.1.nodes+1+r.2=l
    omega
inductive Rc (L:List HC) (R:List Int):Int→Prop
 |root {a:Int}:a∈R→Qj L a=true→Rc L R a
 |ref {a:Int} {c:HC}:Rc L R a→hat L a=some c→c.k=0→Rc L R c.n
 |arg {a:Int} {c:HC} {i:Int}:Rc L R a→hat L a=some c→0≤i→i<QG c→Rc L R (a+1+i)
theorem Ql {L:List HC} {a:Int}:Qj L a=true↔0≤a∧a<L.length:=by unfold Qj;simp
theorem Qok {n:Nat}:∀{L:List HC},(∀i c,L[i]?=some c→Q4 n c (L.length-i-1)=true)→QL n L=true
 |[],_=>rfl
 |x::r,h=>by
  simp only [QL,Bool.and_eq_true]
  refine ⟨by have:=h 0 x rfl;simpa using this,Qok fun i c hc=> ?_⟩
  have:=h (i+1) c (by simpa using hc)
  rw [List.length_cons,show r.length+1-(i+1)-1=r.length-i-1 by omega] at this
  exact this
theorem Qee {n f:Nat} {c:HC} (h:Q4 n c f=true):0≤QG c∧QG c≤f∧QG c≤4:=by
 have:=QM h
 unfold QG
 split<;>omega
theorem Rc.addr {L:List HC} {R:List Int} (hg:QL L.length L=true) {a:Int} (h:Rc L R a):Qj L a=true:=by
 induction h with
 |root _ h=>exact h
 |ref h hc hk ih=>
  have:=QgW hg hc hk
  rw [Ql];exact this
 |arg h hc i0 i1 ih=>
  have h1:=Qbf.1 hc
  have h2:=Qee (Qam hg hc)
  rw [Ql]
  omega
def Qmk (L:List HC) (R:List Int) (M:List Bool):Prop:=M.length=L.length∧∀i:Nat,i<L.length→(M[i]?=some true↔Rc L R (i:Int))
noncomputable def QI (L:List HC) (R:List Int):List Bool:=(List.range L.length).map fun i=> @decide (Rc L R ((i:Nat):Int)) (Classical.propDecidable _)
theorem QhP (L:List HC) (R:List Int):Qmk L R (QI L R):=by
 refine ⟨by simp [QI],fun i hi=> ?_⟩
 unfold QI
 rw [List.getElem?_map,List.getElem?_range hi]
 simp
theorem Qmk.eq {L:List HC} {R:List Int} {M:List Bool} (h:Qmk L R M):M=QI L R:=by
 have g:=QhP L R
 refine List.ext_getElem? fun i=> ?_
 by_cases hi:i<L.length
 ·have h1:=h.2 i hi
  have h2:=g.2 i hi
  have e1:M[i]?=some (M[i]'(by rw [h.1];exact hi)):=List.getElem?_eq_getElem _
  have e2:(QI L R)[i]?=some ((QI L R)[i]'(by rw [g.1];exact hi)):=List.getElem?_eq_getElem _
  rw [e1] at h1
  rw [e2] at h2
  rw [e1,e2]
  congr 1
  have h3:=h1.trans h2.symm
  simp only [Option.some.injEq] at h3
  cases hx:M[i]'(by rw [h.1];exact hi)<;>cases hy:(QI L R)[i]'(by rw [g.1];exact hi)<;>simp_all
 ·rw [List.getElem?_eq_none (by rw [h.1];omega),List.getElem?_eq_none (by rw [g.1];omega)]
def rk (M:List Bool) (n:Nat):Nat:=(M.take n).count true
abbrev rkI (M:List Bool) (a:Int):Int:=((rk M a.toNat:Nat):Int)
theorem QmK (M:List Bool):rk M 0=0:=by simp [rk]
theorem QhD {M:List Bool} {n:Nat} {b:Bool} (h:M[n]?=some b):rk M (n+1)=rk M n+(if b=true then 1 else 0):=by
 unfold rk
 rw [List.take_add_one,h,List.count_append]
 cases b<;>simp
theorem Qqu {M:List Bool} {n:Nat} (h:M.length≤n):rk M n=rk M M.length:=by unfold rk;rw [List.take_of_length_le h,List.take_of_length_le (Nat.le_refl _)]
theorem Qur (M:List Bool) (n:Nat):rk M n≤rk M (n+1):=by
 by_cases h:n<M.length
 ·rw [QhD (List.getElem?_eq_getElem h)];omega
 ·rw [Qqu (n:=n) Ya,Qqu (n:=n+1) Ya];exact Nat.le_refl _
theorem Qqs (M:List Bool) {n m:Nat} (h:n≤m):rk M n≤rk M m:=by
 induction h with
 |refl=>exact Nat.le_refl _
 |step _ ih=>exact Nat.le_trans ih (Qur M _)
theorem Qus {M:List Bool} {n m:Nat} (hn:M[n]?=some true) (h:n<m):rk M n<rk M m:=by
 have h1:=QhD hn
 have h2:=Qqs M (show n+1≤m from h)
 simp at h1
 omega
theorem QtF {M:List Bool} {n m:Nat} (hn:M[n]?=some true) (hm:M[m]?=some true) (h:rk M n=rk M m):n=m:=by
 rcases Nat.lt_trichotomy n m with h1|h1|h1
 ·have:=Qus hn h1;omega
 ·exact h1
 ·have:=Qus hm h1;omega
def kept {α:Type}:List α→List Bool→List α
 |x::r,b::m=>if b=true then x::kept r m else kept r m
 |_,_=>[]
theorem Qka {α:Type}:∀{L:List α} {M:List Bool} {i:Nat} {x:α},M[i]?=some true→L[i]?=some x→(kept L M)[rk M i]?=some x
 |[],M,i,x,_,h=>by simp at h
 |y::r,[],i,x,h,_=>by simp at h
 |y::r,b::m,0,x,h,g=>by
  simp at h g
  subst h g
  simp [kept,rk]
 |y::r,b::m,i+1,x,h,g=>by
  have ih:=Qka (L:=r) (M:=m) (i:=i) (x:=x) (by simpa using h) (by simpa using g)
  have e:rk (b::m) (i+1)=rk m i+(if b=true then 1 else 0):=by unfold rk;rw [List.take_succ_cons];cases b<;>simp
  rw [e]
  cases b
  ·simpa [kept] using ih
  ·simpa [kept] using ih
theorem Qod {α:Type}:∀{L:List α} {M:List Bool},M.length=L.length→(kept L M).length=rk M M.length
 |[],[],_=>rfl
 |[],_::_,h=>by simp at h
 |_::_,[],h=>by simp at h
 |y::r,b::m,h=>by
  have ih:=Qod (L:=r) (M:=m) (by simpa using h)
  have e:rk (b::m) (m.length+1)=rk m m.length+(if b=true then 1 else 0):=by unfold rk;rw [List.take_succ_cons];cases b<;>simp
  rw [List.length_cons,e]
  cases b
  ·simpa [kept] using ih
  ·simpa [kept] using ih
theorem Qj9 {α:Type}:∀{L:List α} {M:List Bool} {j:Nat} {x:α},(kept L M)[j]?=some x→∃i,M[i]?=some true∧L[i]?=some x∧rk M i=j
 |[],M,j,x,h=>by simp [kept] at h
 |_::_,[],j,x,h=>by simp [kept] at h
 |y::r,b::m,j,x,h=>by
  have e:∀i,rk (b::m) (i+1)=rk m i+(if b=true then 1 else 0):=fun i=>by unfold rk;rw [List.take_succ_cons];cases b<;>simp
  cases b
  ·obtain ⟨i,h1,h2,h3⟩:=Qj9 (L:=r) (M:=m) (j:=j) (x:=x) (by simpa [kept] using h)
   exact ⟨i+1,by simpa using h1,by simpa using h2,by rw [e];simpa using h3⟩
  ·cases j with
   |zero=>exact ⟨0,rfl,by simpa [kept] using h,QmK _⟩
   |succ j=>
    obtain ⟨i,h1,h2,h3⟩:=Qj9 (L:=r) (M:=m) (j:=j) (x:=x) (by simpa [kept] using h)
    exact ⟨i+1,by simpa using h1,by simpa using h2,by rw [e];simp;omega⟩
def QbZ (M:List Bool) (c:HC):HC:=if c.k=0 then ⟨c.k,rkI M c.n,c.s⟩ else c
def Qr (M:List Bool) (a:Int):Bool:=decide (M[a.toNat]?=some true)
def Qa9 (M:List Bool) (L:List HC):List HC:=(kept L M).map (QbZ M)
def Qbx (M:List Bool) (T:List Int):List Int:=(kept T (T.map (Qr M))).map (rkI M)
noncomputable def Qbu (h:HH) (R T K:List Int):HH×List Int×List Int×List Int×Int:=
 if QE h=false then (h,[],[],[],1)
 else if R.all (Qj h.cs)=false then (h,[],[],[],4)
 else (⟨Qa9 (QI h.cs R) h.cs,Qbx (QI h.cs R) h.tr⟩,R.map (rkI (QI h.cs R)),T.map (rkI (QI h.cs R)),K.map (rkI (h.tr.map (Qr (QI h.cs R)))),0)
structure Cx (h:HH) (R:List Int) (M:List Bool):Prop where
 good:QE h=true
 mks:Qmk h.cs R M
section
variable {h:HH} {R:List Int} {M:List Bool}
theorem Cx.gl (C:Cx h R M):QL h.cs.length h.cs=true:=by
 have:=C.good
 unfold QE Q3 at this
 simp only [Bool.and_eq_true] at this
 exact this.1.2
theorem Cx.rc (C:Cx h R M) {a:Int} (ha:Rc h.cs R a):0≤a∧a<h.cs.length∧M[a.toNat]?=some true:=by
 have h1:=Ql.1 (ha.addr C.gl)
 refine ⟨h1.1,h1.2,(C.mks.2 a.toNat Ya).2 ?_⟩
 rw [show ((a.toNat:Nat):Int)=a by omega];exact ha
theorem Cx.mark (C:Cx h R M) {i:Nat} (hi:M[i]?=some true):i<h.cs.length∧Rc h.cs R (i:Int):=by
 have hl:i<h.cs.length:=by
  rw [←C.mks.1]
  rcases Nat.lt_or_ge i M.length with g|g
  ·exact g
  ·rw [List.getElem?_eq_none g] at hi;cases hi
 exact ⟨hl,(C.mks.2 i hl).1 hi⟩
theorem Cx.len (C:Cx h R M):(Qa9 M h.cs).length=rk M M.length:=by unfold Qa9;rw [List.length_map,Qod C.mks.1]
theorem Cx.cell (C:Cx h R M) {a:Int} {c:HC} (ha:Rc h.cs R a) (hc:hat h.cs a=some c):hat (Qa9 M h.cs) (rkI M a)=some (QbZ M c):=by
 obtain ⟨a0,a1,am⟩:=C.rc ha
 unfold hat
 rw [if_pos (by simp only [rkI];omega),show (rkI M a).toNat=rk M a.toNat from rfl]
 unfold Qa9
 rw [List.getElem?_map,Qka am (Qbf.1 hc).2.2]
 rfl
theorem Cx.lt (C:Cx h R M) {a:Int} (ha:Rc h.cs R a):rk M a.toNat<(Qa9 M h.cs).length:=by
 obtain ⟨a0,a1,am⟩:=C.rc ha
 rw [C.len]
 exact Qus am (by rw [C.mks.1];omega)
theorem Cx.back (C:Cx h R M) {j:Nat} {d:HC} (hj:(Qa9 M h.cs)[j]?=some d):∃(i:Nat) (c:HC),Rc h.cs R (i:Int)∧hat h.cs (i:Int)=some c∧d=QbZ M c∧rk M i=j:=by
 unfold Qa9 at hj
 rw [List.getElem?_map] at hj
 cases hk:(kept h.cs M)[j]? with
 |none=>rw [hk] at hj;cases hj
 |some c=>
  rw [hk,Option.map_some,Option.some.injEq] at hj
  obtain ⟨i,h1,h2,h3⟩:=Qj9 hk
  obtain ⟨hi,hr⟩:=C.mark h1
  exact ⟨i,c,hr,by unfold hat;rw [if_pos Ya];exact h2,hj.symm,h3⟩
theorem Cx.args (C:Cx h R M) {a:Int} {c:HC} (ha:Rc h.cs R a) (hc:hat h.cs a=some c):∀i:Nat,(i:Int)<QG c+1→rk M (a.toNat+i)=rk M a.toNat+i
 |0,_=>rfl
 |i+1,hi=>by
  have ih:=C.args ha hc i Ya
  have am:M[a.toNat+i]?=some true:=by
   cases i with
   |zero=>exact (C.rc ha).2.2
   |succ i=>
    have h1:=C.rc (Rc.arg (i:=(i:Int)) ha hc Ya Ya)
    rw [show (a+1+(i:Int)).toNat=a.toNat+(i+1) by have:=(C.rc ha).1;omega] at h1
    exact h1.2.2
  rw [show a.toNat+(i+1)=(a.toNat+i)+1 by omega,QhD am,ih]
  simp
  omega
theorem Cx.arg (C:Cx h R M) {a:Int} {c:HC} (ha:Rc h.cs R a) (hc:hat h.cs a=some c) {i:Int} (i0:0≤i) (i1:i<QG c):rkI M (a+1+i)=rkI M a+1+i:=by
 have:=C.args ha hc (i.toNat+1) Ya
 have a0:=(C.rc ha).1
 show ((rk M (a+1+i).toNat:Nat):Int)=((rk M a.toNat:Nat):Int)+1+i
 rw [show (a+1+i).toNat=a.toNat+(i.toNat+1) by omega,this]
 omega
theorem Qo3 (M:List Bool) (c:HC):QG (QbZ M c)=QG c:=by
 unfold QbZ QG
 by_cases h:c.k=0
 ·rw [if_pos h];simp [h]
 ·rw [if_neg h]
theorem QfT (M:List Bool) (c:HC):(QbZ M c).k=c.k:=by
 unfold QbZ;split<;>rfl
theorem Qqv (M:List Bool) (c:HC):(QbZ M c).s=c.s:=by
 unfold QbZ;split<;>rfl
theorem Qqb {h:HH} (hg:QE h=true) {a:Int} (ha:a∈h.tr):∃c,hat h.cs a=some c∧c.k=0:=by
 unfold QE QbT at hg
 simp only [Bool.and_eq_true,List.all_eq_true] at hg
 have:=hg.2.2 a ha
 unfold Qax at this
 split at this
 ·rename_i c hc;exact ⟨c,hc,by simpa using this⟩
 ·cases this
theorem Qap {M:List Bool} {a:Int}:Qr M a=true↔M[a.toNat]?=some true:=by unfold Qr;simp
theorem Qs8 {α:Type} {f:α→Bool} {T:List α} {x:α}:x∈kept T (T.map f)↔x∈T∧f x=true:=by
 induction T with
 |nil=>simp [kept]
 |cons y T ih=>
  simp only [List.map_cons,kept]
  cases hf:f y
  ·simp only [Bool.false_eq_true,if_false,ih,List.mem_cons]
   constructor
   ·rintro ⟨h1,h2⟩;exact ⟨.inr h1,h2⟩
   ·rintro ⟨rfl|h1,h2⟩
    ·rw [hf] at h2;cases h2
    ·exact ⟨h1,h2⟩
  ·simp only [if_true,List.mem_cons,ih]
   constructor
   ·rintro (rfl|⟨h1,h2⟩)
    ·exact ⟨.inl rfl,hf⟩
    ·exact ⟨.inr h1,h2⟩
   ·rintro ⟨rfl|h1,h2⟩
    ·exact .inl rfl
    ·exact .inr ⟨h1,h2⟩
theorem Cx.kept_good (C:Cx h R M):QE ⟨Qa9 M h.cs,Qbx M h.tr⟩=true:=by
 have hg:=C.good
 have hgl:=C.gl
 have hlen:(Qa9 M h.cs).length≤h.cs.length:=by
  rw [C.len];unfold rk;rw [←C.mks.1]
  exact Nat.le_trans List.count_le_length Yd
 have hs:h.cs.length≤65536∧h.tr.length≤65536:=by
  unfold QE Q3 QbT at hg
  simp only [Bool.and_eq_true,decide_eq_true_eq] at hg
  exact ⟨hg.1.1,hg.2.1⟩
 have hkl:∀{α:Type} (T:List α) (m:List Bool),(kept T m).length≤T.length:=by
  intro α T
  induction T with
  |nil=>intro m;simp [kept]
  |cons y T ih=>
   intro m
   cases m with
   |nil=>simp [kept]
   |cons b m=>
    simp only [kept]
    have:=ih m
    split<;>simp<;>omega
 unfold QE Q3 QbT
 simp only [Bool.and_eq_true,decide_eq_true_eq,List.all_eq_true]
 refine ⟨⟨by omega,Qok fun j d hd=> ?_⟩,?_,fun x hx=> ?_⟩
 ·obtain ⟨i,c,hr,hc,rfl,hj⟩:=C.back hd
  have hgc:=Qam hgl hc
  have hq:=QM hgc
  have hlt:=C.lt hr
  rw [show ((i:Nat):Int).toNat=i by omega] at hlt
  unfold Q4
  rw [QfT,Qqv]
  rcases hq with ⟨k,n0,n1,s0⟩|⟨k,n0,s0⟩|⟨k,s0⟩|⟨k,n0,n1,n2,s0⟩
  ·have hrn:=C.lt (Rc.ref hr hc k)
   rw [if_pos k]
   unfold QbZ
   rw [if_pos k]
   simp only [Bool.and_eq_true,decide_eq_true_eq]
   exact ⟨by simp only [rkI];omega,by simp only [rkI];omega,s0⟩
  ·rw [if_neg Ya,if_pos k]
   unfold QbZ
   rw [if_neg Ya]
   simp [n0,s0]
  ·rw [if_neg Ya,if_neg Ya,if_pos k]
   simp [s0]
  ·have hA:QG c=c.n:=by unfold QG;rw [if_pos k]
   have h1:=C.lt (Rc.arg (i:=c.n-1) hr hc Ya Ya)
   have h2:=C.args hr hc c.n.toNat Ya
   rw [show ((i:Int)+1+(c.n-1)).toNat=((i:Nat):Int).toNat+c.n.toNat by omega,h2] at h1
   rw [if_neg Ya,if_neg Ya,if_neg Ya,if_pos k]
   unfold QbZ
   rw [if_neg Ya]
   simp only [Bool.and_eq_true,decide_eq_true_eq,Bool.not_eq_true',decide_eq_false_iff_not]
   rw [show ((i:Nat):Int).toNat=i by omega] at h1
   exact ⟨n0,n1,by omega,s0⟩
 ·unfold Qbx;rw [List.length_map];have:=hkl h.tr (h.tr.map (Qr M));omega
 ·unfold Qbx at hx
  obtain ⟨a,ha,rfl⟩:=List.mem_map.1 hx
  obtain ⟨h1,h2⟩:=Qs8.1 ha
  obtain ⟨c,c1,c2⟩:=Qqb hg h1
  have hm:=C.mark (Qap.1 h2)
  rw [show ((a.toNat:Nat):Int)=a by have:=(Qbf.1 c1).1;omega] at hm
  unfold Qax
  rw [C.cell hm.2 c1]
  dsimp only
  rw [QfT,c2];rfl
end
def ctl (c:HC):Int:=if c.k=3 then 0 else c.n
def QY (h:HH) (a:Int):Vw Int:=match hat h.cs (Qq h.cs a) with
 |none=> .var (-1)
 |some c=>if c.k=0 then .var (Qq h.cs a) else .node c.k (ctl c) c.s (ups (Qq h.cs a+1) (QG c).toNat)
section
variable {σ:HH}
structure HOk (h:HH):Prop where
 gl:QL h.cs.length h.cs=true
 ends:∀a,Qj h.cs a=true→∃x,End h.cs a x
 tr:∀a∈h.tr,Qax h.cs a=true
def Qkd (h:HH) (r y:Int):HH:=⟨Qej h.cs r.toNat y,h.tr++[r]⟩
def QeX:Sy where
 X:=Int
 S:=HH
 ok:=HOk
 dom:=fun h a=>Qj h.cs a=true
 view:=QY
 bind:=fun h v t=>Qkd h v (Qq h.cs t)
 join:=fun h a b=>Qkd h (max (Qq h.cs a) (Qq h.cs b)) (min (Qq h.cs a) (Qq h.cs b))
theorem QgS (h:HH) (r y:Int):(Qkd h r y).cs.length=h.cs.length:=QbE _ _ _
theorem Qik {h:HH} {r y a:Int}:Qj (Qkd h r y).cs a=Qj h.cs a:=by unfold Qj;rw [QgS]
theorem Qak {h:HH} {a x:Int} {c:HC} (he:End h.cs a x) (hc:hat h.cs x=some c):QY h a=if c.k=0 then .var x else .node c.k (ctl c) c.s (ups (x+1) (QG c).toNat):=by
 unfold QY;rw [he.look,hc]
theorem HOk.view (h:HOk σ) {a:Int} (ha:Qj σ.cs a=true):∃x c,End σ.cs a x∧hat σ.cs x=some c∧(c.k=0→c.n=x)∧QY σ a=if c.k=0 then .var x else .node c.k (ctl c) c.s (ups (x+1) (QG c).toNat):=by
 obtain ⟨x,hx⟩:=h.ends a ha
 obtain ⟨c,c1,c2⟩:=hx.last
 refine ⟨x,c,hx,c1,fun hk=> ?_,Qak hx c1⟩
 by_cases e:c.n=x
 ·exact e
 ·exact absurd ⟨hk,e⟩ c2
theorem HOk.var (h:HOk σ) {a v:Int} (ha:Qj σ.cs a=true) (hv:QY σ a= .var v):End σ.cs a v∧∃c,hat σ.cs v=some c∧c.k=0∧c.n=v:=by
 obtain ⟨x,c,h1,h2,h3,h4⟩:=h.view ha
 rw [h4] at hv
 split at hv
 ·rename_i hk;cases hv;exact ⟨h1,c,h2,hk,h3 hk⟩
 ·cases hv
theorem HOk.node (h:HOk σ) {a k n:Int} {s:ByteArray} {ar:List Int} (ha:Qj σ.cs a=true) (hv:QY σ a= .node k n s ar):∃x c,End σ.cs a x∧hat σ.cs x=some c∧c.k≠0∧k=c.k∧n=ctl c∧s=c.s∧ar=ups (x+1) (QG c).toNat:=by
 obtain ⟨x,c,h1,h2,h3,h4⟩:=h.view ha
 rw [h4] at hv
 split at hv
 ·cases hv
 ·rename_i hk;cases hv;exact ⟨x,c,h1,h2,hk,rfl,rfl,rfl,rfl⟩
theorem Qeg {L:List HC} {a:Int}:Qj L a=true↔∃c,hat L a=some c:=by
 rw [Ql]
 constructor
 ·rintro ⟨h0,h1⟩;exact QtP h0 h1
 ·rintro ⟨c,hc⟩;exact ⟨(Qbf.1 hc).1,(Qbf.1 hc).2.1⟩
theorem Qm6 {L:List HC} {r y a:Int} {c:HC} (hr:hat L r=some c) (hk:c.k=0) (h:Qax L a=true):Qax (Qej L r.toNat y) a=true:=by
 unfold Qax at h⊢
 rw [Qcb hr]
 by_cases e:a=r
 ·rw [if_pos e];simpa using hk
 ·rw [if_neg e];exact h
theorem HOk.set (h:HOk σ) {r y:Int} {c:HC} (hr:hat σ.cs r=some c) (hk:c.k=0) (hn:c.n=r) (hy:End σ.cs y y) (hne:y≠r):
  HOk (Qkd σ r y)∧∀a,Qj σ.cs a=true→QY (Qkd σ r y) a=(QY σ a).sub r (QY σ y):=by
 obtain ⟨e1,e2⟩:=Qti hr hk hn hy hne
 obtain ⟨d,hd,_⟩:=hy.last
 have hyl:=Qbf.1 hd
 refine ⟨⟨?_,fun a ha=> ?_,fun a ha=> ?_⟩,fun a ha=> ?_⟩
 ·rw [QgS]
  refine Qe7 hyl.1 hyl.2.1 h.gl fun c' hc'=> ?_
  rw [(Qbf.1 hr).2.2] at hc';cases hc';exact hk
 ·rw [Qik] at ha
  obtain ⟨x,hx⟩:=h.ends a ha
  by_cases hxr:x=r
  ·subst hxr;exact ⟨y,e2 a hx⟩
  ·exact ⟨x,e1 a x hx hxr⟩
 ·rcases List.mem_append.1 ha with ha|ha
  ·exact Qm6 hr hk (h.tr a ha)
  ·rw [List.mem_singleton.1 ha]
   unfold Qax
   rw [show hat (Qkd σ r y).cs r=some ⟨c.k,y,c.s⟩ by show hat (Qej σ.cs r.toNat y) r=_;rw [Qcb hr,if_pos rfl]]
   simpa using hk
 ·obtain ⟨x,c',h1,h2,h3,h4⟩:=h.view ha
  by_cases hxr:x=r
  ·subst hxr
   rw [h2] at hr;cases hr
   rw [h4,if_pos hk]
   simp only [Vw.sub,if_true]
   rw [Qak (e2 a h1) (c:=d) (by show hat (Qej σ.cs _ y) y=_;rw [Qcb h2,if_neg hne];exact hd),Qak hy hd]
  ·rw [h4,Qak (e1 a x h1 hxr) (c:=c') (by show hat (Qej σ.cs _ y) x=_;rw [Qcb hr,if_neg hxr];exact h2)]
   split
   ·simp only [Vw.sub];rw [if_neg hxr]
   ·rfl
theorem Qkh {x t v k n:Int} {s:ByteArray} {ar:List Int} (hσ:HOk σ) (hx:Qj σ.cs x=true) (ht:Qj σ.cs t=true) (hv:QY σ x= .var v) (htv:QY σ t= .node k n s ar):HOk (Qkd σ v (Qq σ.cs t))∧∀y,Qj σ.cs y=true→QY (Qkd σ v (Qq σ.cs t)) y=(QY σ y).sub v (QY σ t):=by
 obtain ⟨_,c,c1,c2,c3⟩:=hσ.var hx hv
 obtain ⟨z,d,d1,d2,d3,_⟩:=hσ.node ht htv
 have:=hσ.set c1 c2 c3 d1.self fun e=>by subst e;rw [c1] at d2;cases d2;exact d3 c2
 rw [d1.look]
 refine ⟨this.1,fun y hy=> ?_⟩
 rw [this.2 y hy,Qak d1 d2,Qak d1.self d2]
theorem Qke {a b u v:Int} (hσ:HOk σ) (ha:Qj σ.cs a=true) (hb:Qj σ.cs b=true) (hu:QY σ a= .var u) (hv:QY σ b= .var v) (hne:u≠v):
  HOk (Qkd σ (max (Qq σ.cs a) (Qq σ.cs b)) (min (Qq σ.cs a) (Qq σ.cs b)))∧
  ((∀y,Qj σ.cs y=true→QY (Qkd σ (max (Qq σ.cs a) (Qq σ.cs b)) (min (Qq σ.cs a) (Qq σ.cs b))) y=(QY σ y).sub u (.var v))∨(∀y,Qj σ.cs y=true→QY (Qkd σ (max (Qq σ.cs a) (Qq σ.cs b)) (min (Qq σ.cs a) (Qq σ.cs b))) y=(QY σ y).sub v (.var u))):=by
 obtain ⟨u1,c,c1,c2,c3⟩:=hσ.var ha hu
 obtain ⟨v1,d,d1,d2,d3⟩:=hσ.var hb hv
 have hvu:QY σ u= .var u:=by rw [Qak u1.self c1,if_pos c2]
 have hvv:QY σ v= .var v:=by rw [Qak v1.self d1,if_pos d2]
 rw [u1.look,v1.look]
 rcases Int.lt_or_lt_of_ne hne with hl|hl
 ·rw [show max u v=v by omega,show min u v=u by omega]
  have:=hσ.set d1 d2 d3 u1.self hne
  exact ⟨this.1,.inr fun y hy=>by rw [this.2 y hy,hvu]⟩
 ·rw [show max u v=u by omega,show min u v=v by omega]
  have:=hσ.set c1 c2 c3 v1.self (Ne.symm hne)
  exact ⟨this.1,.inl fun y hy=>by rw [this.2 y hy,hvv]⟩
end
theorem QsB:QeX.Law where
 bind_ok:=fun hσ hx ht hv htv=>(Qkh hσ hx ht hv htv).1
 bind_dom:=fun hy=>Qik.trans hy
 bind_view:=fun hσ hx ht hv htv hy=>(Qkh hσ hx ht hv htv).2 _ hy
 join_ok:=fun hσ ha hb hu hv hne=>(Qke hσ ha hb hu hv hne).1
 join_dom:=fun hy=>Qik.trans hy
 join_view:=fun hσ ha hb hu hv hne=>(Qke hσ ha hb hu hv hne).2
theorem QgZ {L:List HC} (hg:QL L.length L=true) {x:Int} {c:HC} (hc:hat L x=some c):(∀i:Int,0≤i→i<QG c→Qj L (x+1+i)=true)∧0≤QG c:=by
 have h1:=Qbf.1 hc
 have h2:=Qee (Qam hg hc)
 exact ⟨fun i i0 i1=>by rw [Ql];omega,h2.1⟩
def toU (h:HH) (w:Nat):HU:=⟨h.cs,h.tr,w,decide (400<w)⟩
theorem QgG (h:HH) (w:Nat):(toU h w).step=toU h (w+1):=by
 unfold toU HU.step
 simp only [HU.mk.injEq,true_and]
 by_cases h1:400<w
 ·simp [h1,show 400<w+1 by omega]
 ·simp [h1]
theorem Qd1 {h:HH} (ho:HOk h) {a:Int} (ha:Qj h.cs a=true) (w:Nat):(toU h w).look a=(if 400<w then -1 else Qq h.cs a,toU h w):=by
 obtain ⟨x,hx⟩:=ho.ends a ha
 have h0:=hx.nonneg
 unfold HU.look toU
 by_cases hw:400<w
 ·simp [hw]
 ·simp only [decide_eq_true_eq,hw,if_false,hx.look]
  simp [show¬x<0 by omega]
section
variable {A:Sy}
theorem QqL {σ:A.S} {v:Int} {f:Nat} {x:A.X} {w:Nat} (h:400<w+1):QgA A σ v (f+1) x w=(false,w+1):=by simp only [QgA];rw [if_pos h]
theorem QsT {σ:A.S} {v u:Int} {f:Nat} {x:A.X} {w:Nat} (h:¬400<w+1) (e:A.view σ x= .var u):QgA A σ v (f+1) x w=(decide (u=v),w+1):=by simp only [QgA];rw [if_neg h,e]
theorem QqM {σ:A.S} {v k n:Int} {s:ByteArray} {ar:List A.X} {f:Nat} {x:A.X} {w:Nat} (h:¬400<w+1) (e:A.view σ x= .node k n s ar):QgA A σ v (f+1) x w=QpQ (QgA A σ v f) ar (w+1):=by simp only [QgA];rw [if_neg h,e]
theorem QqK {σ:A.S} {v:Int} (f:Nat) {x y:A.X} (w:Nat) (e:A.view σ x=A.view σ y):QgA A σ v f x w=QgA A σ v f y w:=by
 cases f with
 |zero=>rfl
 |succ f=>simp only [QgA];rw [e]
theorem Qp6 {σ:A.S} {f:Nat} {a b:A.X} {w:Nat} (h:400<w+1):QfL A (f+1) a b σ w=⟨false,σ,w+1⟩:=by simp only [QfL];rw [if_pos h]
theorem Qp5 {σ:A.S} {f:Nat} {a b:A.X} {w:Nat} {u:Int} (h:¬400<w+1) (e1:A.view σ a= .var u) (e2:A.view σ b= .var u):QfL A (f+1) a b σ w=⟨true,σ,w+1⟩:=by simp only [QfL];rw [if_neg h,e1,e2];dsimp only;rw [if_pos rfl]
theorem Qp7 {σ:A.S} {f:Nat} {a b:A.X} {w:Nat} {u v:Int} (h:¬400<w+1) (e1:A.view σ a= .var u) (e2:A.view σ b= .var v) (hne:u≠v):QfL A (f+1) a b σ w=⟨true,A.join σ a b,w+1⟩:=by simp only [QfL];rw [if_neg h,e1,e2];dsimp only;rw [if_neg hne]
theorem Que {σ:A.S} {f:Nat} {a b:A.X} {w:Nat} {u k n:Int} {s:ByteArray} {ar:List A.X} (h:¬400<w+1) (e1:A.view σ a= .var u) (e2:A.view σ b= .node k n s ar):QfL A (f+1) a b σ w=QpP A u b σ (w+1):=by simp only [QfL];rw [if_neg h,e1,e2]
theorem Quf {σ:A.S} {f:Nat} {a b:A.X} {w:Nat} {v k n:Int} {s:ByteArray} {ar:List A.X} (h:¬400<w+1) (e1:A.view σ a= .node k n s ar) (e2:A.view σ b= .var v):QfL A (f+1) a b σ w=QpP A v a σ (w+1):=by simp only [QfL];rw [if_neg h,e1,e2]
theorem Quh {σ:A.S} {f:Nat} {a b:A.X} {w:Nat} {k n k' n':Int} {s s':ByteArray} {ar ar':List A.X} (h:¬400<w+1) (e1:A.view σ a= .node k n s ar) (e2:A.view σ b= .node k' n' s' ar') (he:k=k'∧n=n'∧s=s'∧ar.length=ar'.length):QfL A (f+1) a b σ w=Qmh (QfL A f) ar ar' σ (w+1):=by simp only [QfL];rw [if_neg h,e1,e2];dsimp only;rw [if_pos he]
theorem Qug {σ:A.S} {f:Nat} {a b:A.X} {w:Nat} {k n k' n':Int} {s s':ByteArray} {ar ar':List A.X} (h:¬400<w+1) (e1:A.view σ a= .node k n s ar) (e2:A.view σ b= .node k' n' s' ar') (he:¬(k=k'∧n=n'∧s=s'∧ar.length=ar'.length)):QfL A (f+1) a b σ w=⟨false,σ,w+1⟩:=by simp only [QfL];rw [if_neg h,e1,e2];dsimp only;rw [if_neg he]
theorem Qmf {σ:A.S} {f:Nat} {x:A.X}:Qgw A σ (f+1) x 0=none:=by simp [Qgw]
theorem Qg0 {σ:A.S} {f:Nat} {x:A.X} {l:Nat} {u:Int} (h:l≠0) (e:A.view σ x= .var u):Qgw A σ (f+1) x l=some (⟨0,u,⟨#[]⟩,.nil⟩,l-1):=by simp only [Qgw];rw [if_neg h,e]
theorem Qfz {σ:A.S} {f:Nat} {x:A.X} {l:Nat} {k n:Int} {s:ByteArray} {ar:List A.X} (h:l≠0) (e:A.view σ x= .node k n s ar):Qgw A σ (f+1) x l=(Qel (Qgw A σ f) ar (l-1)).map fun p=>(⟨k,n,s,p.1⟩,p.2):=by
 simp only [Qgw];rw [if_neg h,e]
 dsimp only
 cases Qel (Qgw A σ f) ar (l-1)<;>rfl
end
def Qfe (σ:HH) (v:Int) (f:Nat) (x:Int) (w:Nat):Bool×Nat:=QgA QeX σ v f x w
def Qmb (v t:Int) (σ:HH) (w:Nat):Ug HH:=QpP QeX v t σ w
def Qdv (f:Nat) (a b:Int) (σ:HH) (w:Nat):Ug HH:=QfL QeX f a b σ w
def Qii (σ:HH) (f:Nat) (x:Int) (l:Nat):Option (Tm×Nat):=Qgw QeX σ f x l
theorem Qox (v t:Int) (σ:HH) (w:Nat):Qmb v t σ w=if (Qfe σ v 401 t w).1=true∨400<(Qfe σ v 401 t w).2 then ⟨false,σ,(Qfe σ v 401 t w).2⟩ else ⟨true,Qkd σ v (Qq σ.cs t),(Qfe σ v 401 t w).2⟩:=rfl
theorem Qr1 {h:HH} {g:Int→HU→Bool×HU} {g':Int→Nat→Bool×Nat} (hg:∀x w,Qj h.cs x=true→g x (toU h w)=((g' x w).1,toU h (g' x w).2)):∀(m:Nat) (x:Int) (w:Nat),(∀i:Int,0≤i→i<m→Qj h.cs (x+i)=true)→Qkz g m x (toU h w)=((QpQ g' (ups x m) w).1,toU h (QpQ g' (ups x m) w).2)
 |0,x,w,_=>rfl
 |m+1,x,w,hd=>by
  have h0:=hd 0 Ya Ya
  rw [show x+0=x by omega] at h0
  simp only [Qkz,ups,QpQ]
  rw [hg x w h0]
  dsimp only
  by_cases hc:(g' x w).1=true
  ·rw [if_pos hc,if_pos hc,hc]
  ·rw [if_neg hc,if_neg hc]
   exact Qr1 hg m (x+1) _ fun i i0 i1=>by rw [show x+1+i=x+(i+1) by omega];exact hd _ Ya Ya
theorem QqJ {h:HH} (ho:HOk h) {v:Int} {c:HC} (hv:hat h.cs v=some c) (hk:c.k=0):∀(f:Nat) (b:Int) (w:Nat),Qj h.cs b=true→Qct v f b (toU h w)=((Qfe h v f b w).1,toU h (Qfe h v f b w).2)
 |0,b,w,hb=>by
  simp only [Qct]
  rw [QgG,Qd1 ho hb];rfl
 | f + 1, b, w, hb => by
  obtain ⟨x,d,h1,h2,h3,h4⟩:=ho.view hb
  simp only [Qct]
  rw [QgG,Qd1 ho hb]
  dsimp only
  by_cases hw:400<w+1
  ·rw [if_pos (show (toU h (w+1)).lg=true by simp [toU,hw]),show Qfe h v (f+1) b w=(false,w+1) from QqL (A:=QeX) hw]
  ·rw [if_neg (show¬(toU h (w+1)).lg=true by simp [toU];omega),if_neg hw,h1.look]
   have ha:Qaz (toU h w).cs x=(QG d).toNat:=by show Qaz h.cs x=_;unfold Qaz;rw [h2]
   by_cases hdk:d.k=0
   ·rw [show Qfe h v (f+1) b w=(decide (x=v),w+1) from QsT (A:=QeX) hw (h4.trans (if_pos hdk))]
    by_cases e:v=x
    ·rw [if_pos e];simp [e]
    ·rw [if_neg e,ha,show (QG d).toNat=0 by unfold QG;rw [if_neg Ya];rfl]
     simp only [Qkz]
     rw [decide_eq_false (fun e2:x=v=>e e2.symm)]
   ·have e:v≠x:=fun e=>by subst e;rw [hv] at h2;cases h2;exact hdk hk
    rw [show Qfe h v (f+1) b w=QpQ (Qfe h v f) (ups (x+1) (QG d).toNat) (w+1) from QqM (A:=QeX) hw (h4.trans (if_neg hdk)),if_neg e,ha]
    obtain ⟨g1,g2⟩:=QgZ ho.gl h2
    exact Qr1 (fun x w hx=>QqJ ho hv hk f x w hx) _ _ _ fun i i0 i1=>g1 i i0 Ya
theorem QqI {h:HH} (ho:HOk h) {v b:Int} (hb:Qj h.cs b=true) (f w:Nat):Qfe h v f (Qq h.cs b) w=Qfe h v f b w:=by
 obtain ⟨x,d,h1,h2,h3,h4⟩:=ho.view hb
 refine QqK (A:=QeX) f w ?_
 show QY h (Qq h.cs b)=QY h b
 rw [h1.look]
 exact (Qak h1.self h2).trans h4.symm
theorem QrV {h:HH} (ho:HOk h) {v t:Int} {c:HC} (hv:hat h.cs v=some c) (hk:c.k=0) (ht:Qj h.cs t=true) (w:Nat):
  Qnn v (Qq h.cs t) (toU h w)=((Qmb v t h w).ok,toU (Qmb v t h w).s (Qmb v t h w).w):=by
 obtain ⟨y,hy⟩:=ho.ends t ht
 have hya:Qj h.cs (Qq h.cs t)=true:=by rw [hy.look];obtain ⟨d,hd,_⟩:=hy.last;exact Qeg.2 ⟨d,hd⟩
 rw [Qox]
 unfold Qnn
 rw [QqJ ho hv hk 401 _ w hya,QqI ho ht]
 dsimp only
 by_cases hc:(Qfe h v 401 t w).1=true∨400<(Qfe h v 401 t w).2
 ·rw [if_pos hc,if_pos (by simpa [toU] using hc)]
 ·rw [if_neg hc,if_neg (by simpa [toU] using hc)]
  rfl
theorem Qr5 {g:Int→Int→HU→Bool×HU} {g':Int→Int→HH→Nat→Ug HH} (n:Nat) (hg:∀x y σ w,HOk σ→σ.cs.length=n→Qj σ.cs x=true→Qj σ.cs y=true→g x y (toU σ w)=((g' x y σ w).ok,toU (g' x y σ w).s (g' x y σ w).w)∧HOk (g' x y σ w).s∧(g' x y σ w).s.cs.length=n):
  ∀(m:Nat) (x y:Int) (σ:HH) (w:Nat),HOk σ→σ.cs.length=n→(∀i:Int,0≤i→i<m→0≤x+i∧x+i<n∧0≤y+i∧y+i<n)→Qio g m x y (toU σ w)=((Qmh g' (ups x m) (ups y m) σ w).ok,toU (Qmh g' (ups x m) (ups y m) σ w).s (Qmh g' (ups x m) (ups y m) σ w).w)∧HOk (Qmh g' (ups x m) (ups y m) σ w).s∧(Qmh g' (ups x m) (ups y m) σ w).s.cs.length=n
 |0,x,y,σ,w,ho,hn,_=>⟨rfl,ho,hn⟩
 |m+1,x,y,σ,w,ho,hn,hd=>by
  obtain ⟨d0,d1,d2,d3⟩:=hd 0 Ya Ya
  obtain ⟨e1,e2,e3⟩:=hg x y σ w ho hn (by rw [Ql];omega) (by rw [Ql];omega)
  simp only [Qio,ups,Qmh]
  rw [e1]
  dsimp only
  split
  ·exact Qr5 n hg m (x+1) (y+1) _ _ e2 e3 fun i i0 i1=>by
    have:=hd (i+1) Ya Ya
    omega
  ·exact ⟨rfl,e2,e3⟩
theorem QrX {h:HH} (ho:HOk h) {v t a:Int} (ha:Qj h.cs a=true) (hv:QY h a= .var v) (ht:Qj h.cs t=true) {k n:Int} {s:ByteArray} {ar:List Int} (htv:QY h t= .node k n s ar) (w:Nat):HOk (Qmb v t h w).s∧(Qmb v t h w).s.cs.length=h.cs.length:=by
 rw [Qox]
 split
 ·exact ⟨ho,rfl⟩
 ·exact ⟨(Qkh ho ha ht hv htv).1,QgS _ _ _⟩
theorem Qp2:∀(f:Nat) (a b:Int) (σ:HH) (w:Nat),HOk σ→Qj σ.cs a=true→Qj σ.cs b=true→
  Qcv f a b (toU σ w)=((Qdv f a b σ w).ok,toU (Qdv f a b σ w).s (Qdv f a b σ w).w)∧HOk (Qdv f a b σ w).s∧(Qdv f a b σ w).s.cs.length=σ.cs.length
 |0,a,b,σ,w,ho,ha,hb=>by
  refine ⟨?_,ho,rfl⟩
  simp only [Qcv]
  rw [QgG,Qd1 ho ha,Qd1 ho hb];rfl
 | f + 1, a, b, σ, w, ho, ha, hb => by
  obtain ⟨x,c,h1,h2,h3,h4⟩:=ho.view ha
  obtain ⟨y,d,g1,g2,g3,g4⟩:=ho.view hb
  have hun:Qcv (f+1) a b (toU σ w)=if 400<w+1 then (false,toU σ (w+1)) else if c.k=0 then if d.k=0 then if x=y then (true,toU σ (w+1)) else (true,(toU σ (w+1)).bind (max x y) (min x y)) else Qnn x y (toU σ (w+1)) else if d.k=0 then Qnn y x (toU σ (w+1)) else Qdh (Qcv f) x y (toU σ (w+1)):=by
   have kx:Qa7 (toU σ w).cs x=c.k:=by show Qa7 σ.cs x=_;unfold Qa7;rw [h2]
   have ky:Qa7 (toU σ w).cs y=d.k:=by show Qa7 σ.cs y=_;unfold Qa7;rw [g2]
   simp only [Qcv]
   rw [QgG,Qd1 ho ha]
   dsimp only
   rw [Qd1 ho hb]
   dsimp only
   by_cases hw:400<w+1
   ·rw [if_pos (show (toU σ (w+1)).lg=true by simp [toU,hw]),if_pos hw]
   ·rw [if_neg (show¬(toU σ (w+1)).lg=true by simp [toU];omega),if_neg hw,if_neg hw,if_neg hw,h1.look,g1.look,kx,ky]
  rw [hun]
  by_cases hw:400<w+1
  ·rw [if_pos hw,show Qdv (f+1) a b σ w=⟨false,σ,w+1⟩ from Qp6 (A:=QeX) hw]
   exact ⟨rfl,ho,rfl⟩
  rw [if_neg hw]
  by_cases hc:c.k=0
  ·have va:QY σ a= .var x:=h4.trans (if_pos hc)
   rw [if_pos hc]
   by_cases hd:d.k=0
   ·have vb:QY σ b= .var y:=g4.trans (if_pos hd)
    rw [if_pos hd]
    by_cases e:x=y
    ·subst e
     rw [if_pos rfl,show Qdv (f+1) a b σ w=⟨true,σ,w+1⟩ from Qp5 (A:=QeX) hw va vb]
     exact ⟨rfl,ho,rfl⟩
    ·rw [if_neg e,show Qdv (f+1) a b σ w=⟨true,Qkd σ (max (Qq σ.cs a) (Qq σ.cs b)) (min (Qq σ.cs a) (Qq σ.cs b)),w+1⟩ from Qp7 (A:=QeX) hw va vb e]
     have:=(Qke ho ha hb va vb e).1
     rw [h1.look,g1.look] at this⊢
     exact ⟨rfl,this,QgS _ _ _⟩
   ·have vb:=g4.trans (if_neg hd)
    rw [if_neg hd,show Qdv (f+1) a b σ w=Qmb x b σ (w+1) from Que (A:=QeX) hw va vb]
    refine ⟨?_,QrX ho ha va hb vb _⟩
    have:=QrV (c:=c) ho h2 hc hb (w+1)
    rw [g1.look] at this;exact this
  ·have va:=h4.trans (if_neg hc)
   rw [if_neg hc]
   by_cases hd:d.k=0
   ·have vb:QY σ b= .var y:=g4.trans (if_pos hd)
    rw [if_pos hd,show Qdv (f+1) a b σ w=Qmb y a σ (w+1) from Quf (A:=QeX) hw va vb]
    refine ⟨?_,QrX ho hb vb ha va _⟩
    have:=QrV (c:=d) ho g2 hd ha (w+1)
    rw [h1.look] at this;exact this
   ·have vb:=g4.trans (if_neg hd)
    rw [if_neg hd]
    obtain ⟨a1,a2⟩:=QgZ ho.gl h2
    obtain ⟨b1,b2⟩:=QgZ ho.gl g2
    have hgc:=QM (Qam ho.gl h2)
    have hgd:=QM (Qam ho.gl g2)
    have hiff:(c.k=d.k∧ctl c=ctl d∧c.s=d.s∧(ups (x+1) (QG c).toNat).length=(ups (y+1) (QG d).toNat).length)↔c=d:=by
     rw [Qmx,Qmx]
     clear va vb h4 g4 h1 g1 h2 g2 h3 g3 a1 b1 hun
     obtain ⟨ck,cn,cs⟩:=c
     obtain ⟨dk,dn,ds⟩:=d
     simp only [HC.mk.injEq,ctl,QG] at*
     constructor
     ·rintro ⟨e1,e2,e3,e4⟩
      subst e1
      refine ⟨rfl,?_,e3⟩
      split at e4<;>simp_all<;>omega
     ·rintro ⟨rfl,rfl,rfl⟩
      exact ⟨rfl,rfl,rfl,rfl⟩
    unfold Qdh
    by_cases hcd:c=d
    ·have he:hat (toU σ (w+1)).cs x=hat (toU σ (w+1)).cs y:=by show hat σ.cs x=hat σ.cs y;rw [h2,g2,hcd]
     rw [if_pos he,show Qdv (f+1) a b σ w=Qmh (Qdv f) (ups (x+1) (QG c).toNat) (ups (y+1) (QG d).toNat) σ (w+1) from Quh (A:=QeX) hw va vb (hiff.2 hcd)]
     have hargs:Qaz (toU σ (w+1)).cs x=(QG c).toNat:=by show Qaz σ.cs x=_;unfold Qaz;rw [h2]
     rw [hargs,←hcd]
     rw [←hcd] at b1 b2
     exact Qr5 σ.cs.length (fun p q τ w' hτ hn hp hq=>by
      obtain ⟨i1,i2,i3⟩:=Qp2 f p q τ w' hτ hp hq
      exact ⟨i1,i2,i3.trans hn⟩) _ _ _ _ _ ho rfl fun i i0 i1=>by
       have p1:=Ql.1 (a1 i i0 Ya)
       have p2:=Ql.1 (b1 i i0 Ya)
       omega
    ·have he:¬hat (toU σ (w+1)).cs x=hat (toU σ (w+1)).cs y:=by
      show¬hat σ.cs x=hat σ.cs y
      rw [h2,g2];exact fun e=>hcd (Option.some.inj e)
     rw [if_neg he,show Qdv (f+1) a b σ w=⟨false,σ,w+1⟩ from Qug (A:=QeX) hw va vb fun h=>hcd (hiff.1 h)]
     exact ⟨rfl,ho,rfl⟩
theorem Qn5 {h:HH} {g g':Int→Nat→Option (Tm×Nat)} (hg:∀x l,Qj h.cs x=true→g x l=g' x l):∀(m:Nat) (x:Int) (l:Nat),(∀i:Int,0≤i→i<m→Qj h.cs (x+i)=true)→Qdm g m x l=Qel g' (ups x m) l
 |0,x,l,_=>rfl
 |m+1,x,l,hd=>by
  have h0:=hd 0 Ya Ya
  rw [show x+0=x by omega] at h0
  simp only [Qdm,ups,Qel]
  rw [hg x l h0]
  cases g' x l with
  |none=>rfl
  |some p=>
   obtain ⟨t,l'⟩:=p
   simp only [Option.bind_some]
   rw [Qn5 hg m (x+1) l' fun i i0 i1=>by rw [show x+1+i=x+(i+1) by omega];exact hd _ Ya Ya]
   cases Qel g' (ups (x+1) m) l'<;>rfl
theorem QtB {h:HH} (ho:HOk h):∀(f:Nat) (a:Int) (l:Nat),Qj h.cs a=true→Qgf h.cs f a l=Qii h f a l
 |0,a,l,_=>rfl
 |f+1,a,l,ha=>by
  by_cases hl:l=0
  ·subst hl
   rw [show Qii h (f+1) a 0=none from Qmf (A:=QeX)]
   simp [Qgf]
  obtain ⟨x,c,h1,h2,h3,h4⟩:=ho.view ha
  rw [QjN hl (by rw [h1.look];exact h2),h1.look]
  have hgc:=QM (Qam ho.gl h2)
  by_cases hk:c.k=0
  ·rw [if_pos hk]
   exact (Qg0 (A:=QeX) hl (h4.trans (if_pos hk))).symm
  have hv:=h4.trans (if_neg hk)
  rw [if_neg hk,show Qii h (f+1) a l=(Qel (Qii h f) (ups (x+1) (QG c).toNat) (l-1)).map fun p=>(⟨c.k,ctl c,c.s,p.1⟩,p.2) from Qfz (A:=QeX) hl hv]
  by_cases k1:c.k=1
  ·rw [if_pos k1]
   have e1:QG c=0:=by unfold QG;rw [if_neg Ya]
   have e2:ctl c=0:=by unfold ctl;rw [if_neg Ya];omega
   simp only [e1,e2,k1,Int.toNat_zero,ups,Qel,Option.map_some]
  by_cases k2:c.k=2
  ·rw [if_neg k1,if_pos k2]
   have e1:QG c=0:=by unfold QG;rw [if_neg Ya]
   have e2:ctl c=c.n:=by unfold ctl;rw [if_neg Ya]
   have e3:c.s=eS:=by
    rcases hgc with h|h|h|h
    ·omega
    ·omega
    ·exact h.2
    ·omega
   simp only [e1,e2,k2,e3,Int.toNat_zero,ups,Qel,Option.map_some]
  rw [if_neg k1,if_neg k2]
  have k3:c.k=3:=by omega
  have e2:ctl c=0:=by unfold ctl;rw [if_pos k3]
  obtain ⟨g1,g2⟩:=QgZ ho.gl h2
  rw [Qn5 (fun y l hy=>QtB ho f y l hy) _ _ _ fun i i0 i1=>g1 i i0 Ya,e2,k3]
def Qdg (k n:Int) (s:ByteArray):HC:=if k=0 then ⟨0,n,eS⟩ else if k=2 then ⟨2,n,eS⟩ else ⟨1,0,s⟩
def Qbz:Ts→Nat→List HC×List HC
 | .nil,_=>([],[])
 | .cons k n s ar r,p=>
  if k = 3 then
   (⟨0,(p:Nat),eS⟩::(Qbz r (p+(((Qbz ar (p+1+ar.length)).1++(Qbz ar (p+1+ar.length)).2).length+1))).1,
     (⟨3,(ar.length:Nat),s⟩::((Qbz ar (p+1+ar.length)).1++(Qbz ar (p+1+ar.length)).2))++(Qbz r (p+(((Qbz ar (p+1+ar.length)).1++(Qbz ar (p+1+ar.length)).2).length+1))).2)
  else (Qdg k n s::(Qbz r p).1,(Qbz r p).2)
def QlB (s:ByteArray) (ar:Ts) (p:Nat):List HC:=⟨3,(ar.length:Nat),s⟩::((Qbz ar (p+1+ar.length)).1++(Qbz ar (p+1+ar.length)).2)
def Qb5 (k n:Int) (s:ByteArray) (ar:Ts) (p:Nat):List HC:=if k=3 then QlB s ar p else [Qdg k n s]
def QaD:Ts→Nat→List HC×List Int
 | .nil,_=>([],[])
 | .cons k n s ar r,p=>(Qb5 k n s ar p++(QaD r (p+(Qb5 k n s ar p).length)).1,(p:Nat)::(QaD r (p+(Qb5 k n s ar p).length)).2)
def QcF:Nat→Nat→List HC
 |0,_=>[]
 |m+1,i=>⟨0,(i:Nat),eS⟩::QcF m (i+1)
def QbY (n:Nat):List HC:=QcF n 0
theorem Qdu:∀m i,(QcF m i).length=m
 |0,_=>rfl
 |m+1,i=>by simp [QcF,Qdu m (i+1)]
theorem Qac (n:Nat):(QbY n).length=n:=Qdu n 0
theorem QkL:∀m i j,j<m→(QcF m i)[j]?=some ⟨0,((i+j:Nat):Int),eS⟩
 |0,_,_,h=>by omega
 |m+1,i,0,h=>by simp [QcF]
 |m+1,i,j+1,h=>by
  have:=QkL m (i+1) j Ya
  rw [show i+(j+1)=i+1+j by omega]
  simpa [QcF] using this
theorem QpX {n j:Nat} (h:j<n):(QbY n)[j]?=some ⟨0,(j:Nat),eS⟩:=by
 have:=QkL n 0 j h
 rwa [Nat.zero_add] at this
theorem QiO:∀m i,QcF (m+1) i=QcF m i++[⟨0,((i+m:Nat):Int),eS⟩]
 |0,i=>by simp [QcF]
 |m+1,i=>by
  rw [QcF,QiO m (i+1),QcF]
  rw [show i+1+m=i+(m+1) by omega];rfl
theorem Qcq (n:Int) (s:ByteArray) (ar r:Ts) (p:Nat):Qbz (.cons 3 n s ar r) p=(⟨0,(p:Nat),eS⟩::(Qbz r (p+(QlB s ar p).length)).1,QlB s ar p++(Qbz r (p+(QlB s ar p).length)).2):=by
 rw [Qbz,if_pos rfl];rfl
theorem Qbq {k:Int} (n:Int) (s:ByteArray) (ar r:Ts) (p:Nat) (h:k≠3):Qbz (.cons k n s ar r) p=(Qdg k n s::(Qbz r p).1,(Qbz r p).2):=by
 rw [Qbz,if_neg h]
theorem Qca (T:Ts):∀p,(Qbz T p).1.length=T.length:=by
 induction T with
 |nil=>intro p;rfl
 |cons k n s ar r _ ih=>
  intro p
  by_cases h:k=3
  ·subst h;rw [Qcq];simp [Ts.length,ih]
  ·rw [Qbq _ _ _ _ _ h];simp [Ts.length,ih]
theorem Qec (s:ByteArray) (ar:Ts) (p:Nat):(QlB s ar p).length=1+ar.length+(Qbz ar (p+1+ar.length)).2.length:=by
 simp only [QlB,List.length_cons,List.length_append,Qca];omega
theorem Qob (D R:Ts):∀p,Qbz (D.app R) p=((Qbz D p).1++(Qbz R (p+(Qbz D p).2.length)).1,(Qbz D p).2++(Qbz R (p+(Qbz D p).2.length)).2):=by
 induction D with
 |nil=>intro p;simp [Ts.app,Qbz]
 |cons k n s ar r _ ih=>
  intro p
  by_cases h:k=3
  ·subst h
   rw [Ts.app,Qcq,Qcq,ih]
   simp only [List.length_append,List.cons_append,List.append_assoc,Nat.add_assoc]
  ·rw [Ts.app,Qbq _ _ _ _ _ h,Qbq _ _ _ _ _ h,ih]
   simp only [List.cons_append]
theorem Qrg (T:Ts):∀p,(Qbz T p).2.length+T.length≤2*T.nodes:=by
 induction T with
 |nil=>intro p;simp [Qbz,Ts.length,Ts.nodes]
 |cons k n s ar r iha ihr=>
  intro p
  by_cases h:k=3
  ·subst h
   rw [Qcq]
   have h1:=iha (p+1+ar.length)
   have h2:=ihr (p+(QlB s ar p).length)
   have h3:=Qec s ar p
   simp only [List.length_append,Ts.length,Ts.nodes];omega
  ·rw [Qbq _ _ _ _ _ h]
   have h2:=ihr p
   simp only [Ts.length,Ts.nodes];omega
theorem Qm2 (k n:Int) (s:ByteArray) (ar:Ts) (p:Nat):(Qb5 k n s ar p).length≤1+2*ar.nodes:=by
 unfold Qb5
 split
 ·have:=Qrg ar (p+1+ar.length)
  rw [Qec];omega
 ·simp
theorem Qoa (D R:Ts):∀p,QaD (D.app R) p=((QaD D p).1++(QaD R (p+(QaD D p).1.length)).1,(QaD D p).2++(QaD R (p+(QaD D p).1.length)).2):=by
 induction D with
 |nil=>intro p;simp [Ts.app,QaD]
 |cons k n s ar r _ ih=>
  intro p
  simp only [Ts.app,QaD,ih,List.length_append,List.cons_append,List.append_assoc,Nat.add_assoc]
theorem Qj8 (T:Ts):∀p,(QaD T p).1.length≤2*T.nodes:=by
 induction T with
 |nil=>intro p;simp [QaD]
 |cons k n s ar r iha ihr=>
  intro p
  have h1:=Qm2 k n s ar p
  have h2:=ihr (p+(Qb5 k n s ar p).length)
  simp only [QaD,List.length_append,Ts.nodes];omega
theorem Qj7 (T:Ts):∀p,(QaD T p).2.length=T.length:=by
 induction T with
 |nil=>intro p;rfl
 |cons k n s ar r iha ihr=>intro p;simp only [QaD,List.length_cons,ihr,Ts.length]
def Qu (c:Cl):List HC:=QbY c.vars.toNat++(Qb5 c.k c.n c.s c.hd c.vars.toNat++(QaD c.bd (c.vars.toNat+(Qb5 c.k c.n c.s c.hd c.vars.toNat).length)).1)
def Qat (c:Cl):List Int:=(QaD c.bd (c.vars.toNat+(Qb5 c.k c.n c.s c.hd c.vars.toNat).length)).2
def Qae (vars:Int) (T:Ts):List HC:=QbY vars.toNat++(QaD T vars.toNat).1
def Qbj (vars:Int) (T:Ts):List Int:=(QaD T vars.toNat).2
theorem Ts.goals_nodes (vars:Int):∀T:Ts,T.goals vars=true→T.nodes≤24*T.length
 | .nil,_=>by simp [Ts.nodes]
 | .cons k n s ar r,h=>by
  simp only [Ts.goals,Bool.and_eq_true,gB,decide_eq_true_eq] at h
  have:=Ts.goals_nodes vars r h.2
  simp only [Ts.nodes,Ts.length];omega
structure XL where
 g:Int
 o:Nat
 nx:Int
structure XC where
 at_:Nat
 cls:List Cl
 cells:Nat
 bound:Nat
structure XS where
 h:HH
 goals:Nat
 ln:List XL
 first:Int
 ch:List XC
 ev:List Ts
def lnk (L:List XL) (i:Nat):XL:=L.getD i ⟨0,0, -1⟩
def Qb6 (start:Nat) (o:Nat):List Int→Int→List XL→List XL×Int
 |[],nx,L=>(L,nx)
 |g::r,nx,L=>((Qb6 start o r nx L).1++[⟨start+g,o,(Qb6 start o r nx L).2⟩],((Qb6 start o r nx L).1.length:Nat))
def QdR (h:HH) (b:Cl) (g:Int):HH×Bool×Int:=QU (Q2 h (Qu b)).1 ((Q2 h (Qu b)).2.1+b.vars) g
def XS.took (s:XS) (a:Nat) (b:Cl) (more:List Cl) (cells bound:Nat):XS:=
 ⟨(QdR s.h b (lnk s.ln a).g).1,s.goals,(Qb6 (Q2 s.h (Qu b)).2.1 s.ch.length (Qat b) (lnk s.ln a).nx s.ln).1,(Qb6 (Q2 s.h (Qu b)).2.1 s.ch.length (Qat b) (lnk s.ln a).nx s.ln).2,
   match more with|[]=>s.ch|_::_=>⟨a,more,cells,bound⟩::s.ch,s.ev⟩
def QpE (k:XS→Int×XS) (a cells bound:Nat):List Cl→XS→Int×XS
 |[],s=>k s
 |b::more,s=>
  if (QdR s.h b (lnk s.ln a).g).2.2≠0 then (4,s)
  else if (QdR s.h b (lnk s.ln a).g).2.1=false then QpE k a cells bound more s
  else (0,s.took a b more cells bound)
def XS.back (s:XS) (c:XC) (cs:List XC):XS:=⟨(Ql0 (QcG s.h (c.bound:Nat)).1 (c.cells:Nat)).1,s.goals,s.ln,s.first,cs,s.ev⟩
def Qi3:List XC→XS→Int×XS
 |[],s=>(2,s)
 |c::cs,s=>QpE (Qi3 cs) c.at_ c.cells c.bound c.cls (s.back c cs)
def QdY (s:XS):Int×XS:=Qi3 s.ch s
def XS.setH (s:XS) (h:HH):XS:=⟨h,s.goals,s.ln,s.first,s.ch,s.ev⟩
def Qfr (a b:Int) (s:XS):Int×XS:=
 if (QU s.h a b).2.2≠0 then (4,s.setH (QU s.h a b).1)
 else if (QU s.h a b).2.1=false then QdY (s.setH (QU s.h a b).1)
 else (0,s.setH (QU s.h a b).1)
def QV (h:HH) (a:Int):HC:=(hat h.cs (Qq h.cs a)).getD ⟨0,0,eS⟩
def Qm1 (a:Int) (s:XS):Int×XS:=
 if (QV s.h a).k≠2∨(QV s.h (a+1)).k≠2 then (5,s) else if (QV s.h (a+1)).n≤(QV s.h a).n then QdY s else (0,s)
def QuZ (a:Int) (s:XS):Int×XS:=
 if (QV s.h a).k≠2∨(QV s.h (a+1)).k≠2 then (5,s)
 else if (QV s.h a).n+(QV s.h (a+1)).n< -1099511627776∨1099511627776<(QV s.h a).n+(QV s.h (a+1)).n then (5,s)
 else Qfr (a+2) (Q2 s.h [⟨2,(QV s.h a).n+(QV s.h (a+1)).n,eS⟩]).2.1 (s.setH (Q2 s.h [⟨2,(QV s.h a).n+(QV s.h (a+1)).n,eS⟩]).1)
def Qbm (h:HH) (g:Int):HC:=(hat h.cs g).getD ⟨0,0,eS⟩
def Qfx (l:XL) (s:XS):Int×XS:=
 if (Qbm s.h l.g).s.toList=[33] then (0,⟨s.h,s.goals,s.ln,s.first,s.ch.drop (s.ch.length-l.o),s.ev⟩)
 else if (Qbm s.h l.g).s.toList=[116,114,117,101] then (0,s)
 else if (Qbm s.h l.g).s.toList=[101,113] then Qfr (l.g+1) (l.g+1+1) s
 else if (Qbm s.h l.g).s.toList=[108,101,115,115] then Qm1 (l.g+1) s
 else if (Qbm s.h l.g).s.toList=[97,100,100] then QuZ (l.g+1) s
 else QdY s
def Qck (h:HH):Nat→Nat→Int→Option (Ts×Int)
 |0,_,l=>some (.nil,l)
 |m+1,v,l=>if (Qbk h (v:Nat) l).2.2≠0 then none else match Qck h m (v+1) (l-((Qbk h (v:Nat) l).2.1:Nat)) with
  |none=>none
  |some (T,l'')=>some (.cons (Qbk h (v:Nat) l).1.k (Qbk h (v:Nat) l).1.n (Qbk h (v:Nat) l).1.s (Qbk h (v:Nat) l).1.ar T,l'')
def XS.tell (s:XS) (T:Ts):XS:=⟨s.h,s.goals,s.ln,s.first,s.ch,s.ev++[T.tidy]⟩
def QcJ (vars:Nat) (s:XS):Int×XS:=match Qck s.h vars 0 200 with
 |none=>(4,s)
 |some (T,_)=>if s.ev.length+1=12 then (6,s.tell T) else QdY (s.tell T)
def QhV (c:Cl):HC:=if c.k=3 then ⟨3,(c.hd.length:Nat),c.s⟩ else Qdg c.k c.n c.s
def Qks (p:List Cl) (a:Nat) (s:XS):Int×XS:=match p.filter (fun c=>decide (QhV c=Qbm s.h (lnk s.ln a).g)) with
 |[]=>(5,s)
 |b::more=>QpE (Qi3 s.ch) a s.h.cs.length s.h.tr.length (b::more) s
def Qay (L:List XL):Nat→Int→List Bool×List Nat→List Bool×List Nat
 |0,_,p=>p
 |f+1,i,p=>if i= -1 then p else if p.1[i.toNat]?=some true then p else Qay L f (lnk L i.toNat).nx (p.1.set i.toNat true,p.2++[i.toNat])
def Qb2 (L:List XL):List XC→List Bool×List Nat→List Bool×List Nat
 |[],p=>p
 |c::r,p=>Qb2 L r (Qay L (L.length+1) (c.at_:Nat) p)
def QbR (s:XS):List Nat:=(Qb2 s.ln s.ch.reverse (Qay s.ln (s.ln.length+1) s.first (List.replicate s.ln.length false,[]))).2
def QpN (L:List XL) (i:Nat) (g:Int):List XL:=L.modify i fun l=>⟨g,l.o,l.nx⟩
def Qdl:List Nat→List Int→List XL→List XL
 |i::r,g::q,L=>Qdl r q (QpN L i g)
 |_,_,L=>L
def QsG:List XC→List Int→List Int→List XC
 |c::r,t::T,k::K=>⟨c.at_,c.cls,t.toNat,k.toNat⟩::QsG r T K
 |L,_,_=>L
def QQ (vars:Nat) (s:XS):List Int:=((List.range vars).map fun v=>((v:Nat):Int))++(QbR s).map fun i=>(lnk s.ln i).g
noncomputable def Qib (vars:Nat) (s:XS):XS:=
 let r:=Qbu s.h (QQ vars s) (s.ch.reverse.map fun c=>((c.cells:Nat):Int)) (s.ch.reverse.map fun c=>((c.bound:Nat):Int))
 ⟨r.1,s.goals,Qdl (QbR s) (r.2.1.drop vars) s.ln,s.first,(QsG s.ch.reverse r.2.2.1 r.2.2.2.1).reverse,s.ev⟩
noncomputable def QF (vars every:Nat) (s:XS):XS:=if 0<every∧s.goals%every=0 then Qib vars s else s
noncomputable def Qa1 (p:List Cl) (vars fuel every:Nat) (s:XS):Int×XS:=
 if s.first= -1 then QcJ vars s
 else if s.goals=fuel then (3,s)
 else
  let t:=QF vars every s
  let u:XS:=⟨t.h,t.goals+1,t.ln,(lnk t.ln t.first.toNat).nx,t.ch,t.ev⟩
  if QaJ (Qbm u.h (lnk u.ln t.first.toNat).g).s.toList (Qbm u.h (lnk u.ln t.first.toNat).g).n.toNat=true then Qfx (lnk u.ln t.first.toNat) u else Qks p t.first.toNat u
noncomputable def QsI (p:List Cl) (vars fuel every:Nat):Nat→XS→List Ev
 |0,_=>[]
 |n+1,s=>if (Qa1 p vars fuel every s).1=0 then QsI p vars fuel every n (Qa1 p vars fuel every s).2 else QlV (Qa1 p vars fuel every s).2.ev++[((Qa1 p vars fuel every s).1,.nil)]
def Qdy (q:Ts) (vars:Int):XS:=
 ⟨(Q2 ⟨[],[]⟩ (Qae vars q)).1,0,(Qb6 (Q2 ⟨[],[]⟩ (Qae vars q)).2.1 0 (Qbj vars q) (-1) []).1,(Qb6 (Q2 ⟨[],[]⟩ (Qae vars q)).2.1 0 (Qbj vars q) (-1) []).2,[],[]⟩
theorem Qpo {n f f':Nat} {c:HC} (hf:f≤f') (h:Q4 n c f=true):Q4 n c f'=true:=by
 rcases QM h with ⟨k,a,b,s⟩|⟨k,a,s⟩|⟨k,s⟩|⟨k,a,b,d,s⟩
 ·unfold Q4;rw [if_pos k];simp [a,b,s]
 ·unfold Q4;rw [if_neg Ya,if_pos k];simp [a,s]
 ·unfold Q4;rw [if_neg Ya,if_neg Ya,if_pos k];simp [s]
 ·unfold Q4;rw [if_neg Ya,if_neg Ya,if_neg Ya,if_pos k]
  simp only [Bool.and_eq_true,decide_eq_true_eq,Bool.not_eq_true',decide_eq_false_iff_not]
  exact ⟨a,b,by omega,s⟩
theorem Qbr {n:Nat} {Y:List HC} (hY:QL n Y=true):∀{X:List HC},QL n X=true→QL n (X++Y)=true
 |[],_=>hY
 |c::r,h=>by
  simp only [QL,Bool.and_eq_true,List.cons_append] at h⊢
  exact ⟨Qpo Yd h.1,Qbr hY h.2⟩
theorem Qln {s:ByteArray} (h:Qek s=true):s≠eS:=by
 intro e;subst e;exact absurd h Yg
theorem QnK {s:ByteArray} (h:s.toList=[]):s=eS:=by
 apply QiR.1;rw [h];kernel_rfl
theorem Qd6 {vars k n:Int} {s:ByteArray} {l:Nat} (h:Qa6 vars k n s l=true):(k=0∧0≤n∧n<vars∧s=eS∧l=0)∨(k=1∧n=0∧s≠eS∧l=0)∨(k=2∧s=eS∧l=0)∨(k=3∧n=0∧s≠eS∧1≤l∧l≤4):=by
 unfold Qa6 at h
 split at h
 ·simp only [Bool.and_eq_true,decide_eq_true_eq] at h
  exact .inl ⟨‹_›,h.1.1.1,h.1.1.2,QnK h.1.2,h.2⟩
 split at h
 ·simp only [Bool.and_eq_true,decide_eq_true_eq] at h
  exact .inr (.inl ⟨‹_›,h.1.1,Qln h.1.2,h.2⟩)
 split at h
 ·simp only [Bool.and_eq_true,decide_eq_true_eq] at h
  exact .inr (.inr (.inl ⟨‹_›,QnK h.1.2,h.2⟩))
 split at h
 ·simp only [Bool.and_eq_true,decide_eq_true_eq] at h
  exact .inr (.inr (.inr ⟨‹_›,h.1.1.1.1,Qln h.1.1.1.2,h.1.2,h.2⟩))
 ·cases h
theorem QbS {vars k n:Int} {s:ByteArray} {ar r:Ts} (h:(Ts.cons k n s ar r).good vars=true):Qa6 vars k n s ar.length=true∧ar.good vars=true∧r.good vars=true:=by
 simp only [Ts.good,Bool.and_eq_true] at h
 exact ⟨h.1.1,h.1.2,h.2⟩
theorem Ts.good_ap (v:Int) (D R:Ts):(D.app R).good v=(D.good v&&R.good v):=by
 induction D with
 |nil=>rfl
 |cons k n b ar r _ ih=>simp only [Ts.app,Ts.good,ih,Bool.and_assoc]
theorem Qh1 {n f:Nat} {i:Int} (h0:0≤i) (h:i<n):Q4 n ⟨0,i,eS⟩ f=true:=by unfold Q4;simp [h,h0]
theorem Qjr {n f:Nat} {s:ByteArray} (h:s≠eS):Q4 n ⟨1,0,s⟩ f=true:=by unfold Q4;simp [h]
theorem QlN {n f:Nat} {i:Int}:Q4 n ⟨2,i,eS⟩ f=true:=by unfold Q4;simp
theorem Qh2 {n f l:Nat} {s:ByteArray} (h:s≠eS) (h1:1≤l) (h2:l≤4) (h3:l≤f):Q4 n ⟨3,(l:Nat),s⟩ f=true:=by
 unfold Q4;simp [h];omega
theorem Qrh {vars:Int} {all:Nat} (hv:vars≤all) (T:Ts):∀p,T.good vars=true→p+(Qbz T p).2.length≤all→QL all (Qbz T p).1=true∧QL all (Qbz T p).2=true:=by
 induction T with
 |nil=>intro p _ _;exact ⟨rfl,rfl⟩
 |cons k n s ar r iha ihr=>
  intro p hg hp
  obtain ⟨hn,ha,hr⟩:=QbS hg
  rcases Qd6 hn with ⟨rfl,h0,h1,h2,h3⟩|⟨rfl,h0,h1,h2⟩|⟨rfl,h0,h1⟩|⟨rfl,h0,h1,h2,h3⟩
  ·rw [Qbq _ _ _ _ _ Yg] at hp⊢
   obtain ⟨i1,i2⟩:=ihr p hr hp
   refine ⟨?_,i2⟩
   simp only [QL,Bool.and_eq_true]
   exact ⟨Qh1 h0 Ya,i1⟩
  ·rw [Qbq _ _ _ _ _ Yg] at hp⊢
   obtain ⟨i1,i2⟩:=ihr p hr hp
   refine ⟨?_,i2⟩
   simp only [QL,Bool.and_eq_true]
   exact ⟨Qjr h1,i1⟩
  ·rw [Qbq _ _ _ _ _ Yg] at hp⊢
   obtain ⟨i1,i2⟩:=ihr p hr hp
   refine ⟨?_,i2⟩
   simp only [QL,Bool.and_eq_true]
   exact ⟨QlN,i1⟩
  ·rw [Qcq] at hp⊢
   have hls:=Qec s ar p
   simp only [List.length_append] at hp
   obtain ⟨a1,a2⟩:=iha (p+1+ar.length) ha Ya
   obtain ⟨i1,i2⟩:=ihr (p+(QlB s ar p).length) hr Ya
   refine ⟨?_,Qbr i2 ?_⟩
   ·simp only [QL,Bool.and_eq_true]
    exact ⟨Qh1 Ya Ya,i1⟩
   ·unfold QlB
    simp only [QL,Bool.and_eq_true]
    exact ⟨Qh2 h1 h2 h3 (by rw [List.length_append,Qca];omega),Qbr a2 a1⟩
theorem QlD {vars k n:Int} {s:ByteArray} {ar:Ts} {all p:Nat} (hv:vars≤all) (h:gB vars k n s ar=true) (hp:p+(Qb5 k n s ar p).length≤all):QL all (Qb5 k n s ar p)=true:=by
 simp only [gB,QeQ,Bool.and_eq_true,Bool.or_eq_true,decide_eq_true_eq] at h
 obtain ⟨hn,ha,_⟩:=QbS h.1.2
 rcases Qd6 hn with ⟨rfl,_⟩|⟨rfl,h0,h1,h2⟩|⟨rfl,_⟩|⟨rfl,h0,h1,h2,h3⟩
 ·rcases h.1.1 with h|h<;>omega
 ·unfold Qb5
  rw [if_neg Yg]
  simp only [QL,Bool.and_eq_true,and_true]
  exact Qjr h1
 ·rcases h.1.1 with h|h<;>omega
 ·unfold Qb5 at hp⊢
  rw [if_pos rfl] at hp⊢
  have hls:=Qec s ar p
  obtain ⟨a1,a2⟩:=Qrh hv ar (p+1+ar.length) ha Ya
  unfold QlB
  simp only [QL,Bool.and_eq_true]
  exact ⟨Qh2 h1 h2 h3 (by rw [List.length_append,Qca];omega),Qbr a2 a1⟩
theorem QlC {vars:Int} {all:Nat} (hv:vars≤all) (T:Ts):∀p,T.goals vars=true→p+(QaD T p).1.length≤all→QL all (QaD T p).1=true:=by
 induction T with
 |nil=>intro p _ _;rfl
 |cons k n s ar r _ ihr=>
  intro p hg hp
  simp only [Ts.goals,Bool.and_eq_true] at hg
  simp only [QaD,List.length_append] at hp⊢
  exact Qbr (ihr _ hg.2 Ya) (QlD hv hg.1 Ya)
theorem QfK {all:Nat}:∀m i,i+m≤all→QL all (QcF m i)=true
 |0,i,_=>rfl
 |m+1,i,h=>by
  simp only [QcF,QL,Bool.and_eq_true]
  exact ⟨Qh1 Ya Ya,QfK m (i+1) Ya⟩
theorem Qgv {c:Cl} (h:cB c=true):0≤c.vars∧c.vars≤8∧c.bd.length≤5∧c.bd.goals c.vars=true∧gB c.vars c.k c.n c.s c.hd=true:=by
 simp only [cB,qB,Bool.and_eq_true,decide_eq_true_eq] at h
 exact ⟨h.1.1.1.1.1,h.1.1.1.1.2,h.1.1.1.2,h.1.1.2,h.1.2⟩
theorem Qol {vars k n:Int} {s:ByteArray} {ar:Ts} (h:gB vars k n s ar=true):ar.nodes+1≤24:=by
 simp only [gB,Bool.and_eq_true,decide_eq_true_eq] at h
 exact h.2
theorem QcX {c:Cl} (h:cB c=true):(Qu c).length≤300:=by
 obtain ⟨h0,h1,h2,h3,h4⟩:=Qgv h
 have h5:=Qol h4
 have h6:=Ts.goals_nodes _ _ h3
 have h7:=Qm2 c.k c.n c.s c.hd c.vars.toNat
 have h8:=Qj8 c.bd (c.vars.toNat+(Qb5 c.k c.n c.s c.hd c.vars.toNat).length)
 simp only [Qu,List.length_append,Qac]
 omega
theorem Qie {c:Cl} (h:cB c=true):Q3 (Qu c)=true:=by
 obtain ⟨h0,h1,h2,h3,h4⟩:=Qgv h
 have hl:=QcX h
 unfold Q3
 simp only [Bool.and_eq_true,decide_eq_true_eq]
 refine ⟨by omega,?_⟩
 have he:(Qu c).length=c.vars.toNat+((Qb5 c.k c.n c.s c.hd c.vars.toNat).length+(QaD c.bd (c.vars.toNat+(Qb5 c.k c.n c.s c.hd c.vars.toNat).length)).1.length):=by
  simp only [Qu,List.length_append,Qac]
 unfold Qu
 refine Qbr (Qbr (QlC (vars:=c.vars) (by unfold Qu at he;omega) _ _ h3 (by unfold Qu at he;omega)) (QlD (vars:=c.vars) (by unfold Qu at he;omega) h4 (by unfold Qu at he;omega))) (QfK _ _ (by unfold Qu at he;omega))
def QkI (L:List HC) (base:Nat) (q:Nat) (X:List HC):Prop:=∀i c,X[i]?=some c→hat L ((base+(q+i):Nat):Int)=some (QX base c)
theorem QkI.app {L:List HC} {base q:Nat} {X Y:List HC} (h:QkI L base q (X++Y)):QkI L base q X∧QkI L base (q+X.length) Y:=by
 refine ⟨fun i c hi=>h i c ?_,fun i c hi=> ?_⟩
 ·rw [List.getElem?_append_left]
  ·exact hi
  ·rcases Nat.lt_or_ge i X.length with hl|hl
   ·exact hl
   ·rw [List.getElem?_eq_none hl] at hi;cases hi
 ·have:=h (X.length+i) c (by rw [List.getElem?_append_right Ya];simpa using hi)
  rw [show q+X.length+i=q+(X.length+i) by omega];exact this
theorem QkI.head {L:List HC} {base q:Nat} {c:HC} {X:List HC} (h:QkI L base q (c::X)):hat L ((base+q:Nat):Int)=some (QX base c)∧QkI L base (q+1) X:=by
 refine ⟨h 0 c rfl,fun i d hi=> ?_⟩
 rw [show q+1+i=q+(i+1) by omega]
 exact h (i+1) d (by simpa using hi)
def up (base:Nat) (n:Int):Int:=n+base
theorem Qd7 {T:Ts} (h:T.length=0):T= .nil:=Ts.nil_of_length h
theorem Qfh (h:HH) (B:List HC):QkI (h.cs++B.map (QX h.cs.length)) h.cs.length 0 B:=by
 intro i c hi
 refine Qbf.2 ⟨by omega,?_,?_⟩
 ·have:i<B.length:=by
   rcases Nat.lt_or_ge i B.length with hl|hl
   ·exact hl
   ·rw [List.getElem?_eq_none hl] at hi;cases hi
  simp;omega
 ·rw [show ((h.cs.length+(0+i):Nat):Int).toNat=h.cs.length+i by omega,List.getElem?_append_right Ya]
  simp [hi]
theorem Qpn {n m f:Nat} {c:HC} (hn:n≤m) (h:Q4 n c f=true):Q4 m c f=true:=by
 rcases QM h with ⟨k,a,b,s⟩|⟨k,a,s⟩|⟨k,s⟩|⟨k,a,b,d,s⟩
 ·unfold Q4;rw [if_pos k];simp [a,s];omega
 ·unfold Q4;rw [if_neg Ya,if_pos k];simp [a,s]
 ·unfold Q4;rw [if_neg Ya,if_neg Ya,if_pos k];simp [s]
 ·unfold Q4;rw [if_neg Ya,if_neg Ya,if_neg Ya,if_pos k];simp [a,b,d,s]
theorem Qjp {n m:Nat} (hn:n≤m):∀{L:List HC},QL n L=true→QL m L=true
 |[],_=>rfl
 |c::r,h=>by
  simp only [QL,Bool.and_eq_true] at h⊢
  exact ⟨Qpn hn h.1,Qjp hn h.2⟩
theorem Qm8 {n m f base:Nat} {c:HC} (hn:base+n≤m) (h:Q4 n c f=true):Q4 m (QX base c) f=true:=by
 unfold QX
 split
 ·rename_i h0
  rcases QM h with ⟨k,a,b,s⟩|⟨k,a,s⟩|⟨k,s⟩|⟨k,a,b,d,s⟩
  ·unfold Q4;dsimp only;rw [if_pos h0];simp [s];omega
  ·omega
  ·omega
  ·omega
 ·rename_i h0
  rcases QM h with ⟨k,a,b,s⟩|⟨k,a,s⟩|⟨k,s⟩|⟨k,a,b,d,s⟩
  ·omega
  ·unfold Q4;rw [if_neg Ya,if_pos k];simp [a,s]
  ·unfold Q4;rw [if_neg Ya,if_neg Ya,if_pos k];simp [s]
  ·unfold Q4;rw [if_neg Ya,if_neg Ya,if_neg Ya,if_pos k];simp [a,b,d,s]
theorem Qh0 {n m base:Nat} (hn:base+n≤m):∀{L:List HC},QL n L=true→QL m (L.map (QX base))=true
 |[],_=>rfl
 |c::r,h=>by
  simp only [QL,Bool.and_eq_true,List.map_cons,List.length_map] at h⊢
  exact ⟨Qm8 hn h.1,Qh0 hn h.2⟩
theorem Qf1 {h:HH} {K:List HC} (hg:QE h=true) (hk:Q3 K=true) (hl:h.cs.length+K.length≤65536):QE ⟨h.cs++K.map (QX h.cs.length),h.tr⟩=true:=by
 simp only [QE,Q3,QbT,Bool.and_eq_true,decide_eq_true_eq,List.length_append,List.length_map] at hg hk⊢
 obtain ⟨⟨h1,h2⟩,h3,h4⟩:=hg
 refine ⟨⟨hl,Qbr (Qh0 Ya hk.2) (Qjp Ya h2)⟩,h3,?_⟩
 rw [List.all_eq_true] at h4⊢
 intro a ha
 have:=h4 a ha
 unfold Qax at this⊢
 cases hq:hat h.cs a with
 |none=>rw [hq] at this;cases this
 |some x=>
  rw [hq] at this
  obtain ⟨q0,q1,q2⟩:=Qbf.1 hq
  have:hat (h.cs++K.map (QX h.cs.length)) a=some x:=Qbf.2 ⟨q0,by simp;omega,by rw [List.getElem?_append_left Ya];exact q2⟩
  rw [this];assumption
theorem QmZ {h:HH} {K:List HC} (hg:QE h=true) (hk:Q3 K=true) (hl:h.cs.length+K.length≤65536):Q2 h K=(⟨h.cs++K.map (QX h.cs.length),h.tr⟩,h.cs.length,0):=by
 unfold Q2;rw [hg,hk,if_neg Yg,if_neg Ya]
end Go.Proofs.YthliapbflkfdiacGreatDoor
