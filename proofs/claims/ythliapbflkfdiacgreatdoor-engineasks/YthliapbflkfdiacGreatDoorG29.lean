/- HRun, HUndo, HTerm, HMark, XSys, CModel, XModel, CPure, CPure2: texts that follow one another, laid into one file. -/
import Derived.Test.YthliapbflkfdiacGreatDoorZ0
import Derived.Test.YthliapbflkfdiacGreatDoorG28
import Derived.Test.YthliapbflkfdiacGreatDoorG7
import Derived.Test.YthliapbflkfdiacGreatDoorG20
import Derived.Test.YthliapbflkfdiacGreatDoorG4
import Derived.Test.YthliapbflkfdiacGreatDoorG10
namespace Go.Proofs.YthliapbflkfdiacGreatDoor
open Go.RowKit
set_option linter.unusedVariables false
set_option linter.unusedSimpArgs false
def ups (x:Int):Nat→List Int
 |0=>[]
 |m+1=>x::ups (x+1) m
theorem Qph (x:Int) (m:Nat):(ups x m).length=m:=by
 induction m generalizing x with
 |zero=>rfl
 |succ m ih=>simp [ups,ih]
def Bd (N:List Int) (L L':List HC):Prop:=(∀r∈N,0≤r)∧∀i:Nat,((i:Int)∈N→∃c n,L[i]?=some c∧c.k=0∧c.n=(i:Int)∧L'[i]?=some ⟨c.k,n,c.s⟩)∧((i:Int)∉N→L'[i]?=L[i]?)
theorem Bd.refl (L:List HC):Bd [] L L:=⟨fun r h=>by simp at h,fun i=>⟨fun h=>by simp at h,fun _=>rfl⟩⟩
theorem Bd.trans {N N':List Int} {L L' L'':List HC} (h:Bd N L L') (g:Bd N' L' L''):Bd (N++N') L L'':=by
 refine ⟨fun r hr=>(List.mem_append.1 hr).elim (h.1 r) (g.1 r),fun i=>⟨fun hi=> ?_,fun hi=> ?_⟩⟩
 ·by_cases h1:(i:Int)∈N
  ·obtain ⟨c,n,c1,c2,c3,c4⟩:=(h.2 i).1 h1
   by_cases h2:(i:Int)∈N'
   ·obtain ⟨d,m,d1,d2,d3,d4⟩:=(g.2 i).1 h2
    rw [c4] at d1;cases d1
    exact ⟨c,m,c1,c2,c3,d4⟩
   ·rw [←(g.2 i).2 h2] at c4
    exact ⟨c,n,c1,c2,c3,c4⟩
  ·have h2:(i:Int)∈N':=by rcases List.mem_append.1 hi with h|h;exact absurd h h1;exact h
   obtain ⟨d,m,d1,d2,d3,d4⟩:=(g.2 i).1 h2
   rw [(h.2 i).2 h1] at d1
   exact ⟨d,m,d1,d2,d3,d4⟩
 ·rw [(g.2 i).2 (fun h'=>hi (List.mem_append_right _ h')),(h.2 i).2 (fun h'=>hi (List.mem_append_left _ h'))]
theorem Bd.one {L:List HC} {r y:Int} {c:HC} (hr:hat L r=some c) (hk:c.k=0) (hn:c.n=r):Bd [r] L (QfJ L r.toNat y):=by
 obtain ⟨r0,r1,r2⟩:=QbP.1 hr
 refine ⟨fun s hs=>by simp at hs;omega,fun i=>⟨fun hi=> ?_,fun hi=> ?_⟩⟩
 ·simp at hi
  have e:r.toNat=i:=by omega
  rw [e] at r2⊢
  exact ⟨c,y,r2,hk,by omega,by rw [QiD,if_pos rfl,r2];rfl⟩
 ·simp at hi
  rw [QiD,if_neg Ya]
theorem Qja:∀(N:List Int) (L:List HC),(∀r∈N,0≤r)→∀i:Nat,(Qb3 L N)[i]?=if (i:Int)∈N then (L[i]?).map (fun c=>⟨c.k,i,c.s⟩) else L[i]?
 |[],L,_,i=>by simp [Qb3]
 | r :: N, L, h, i => by
  have r0:=h r Yd
  unfold Qb3
  rw [Qja N _ (fun s hs=>h s (.tail _ hs)) i,QiD]
  by_cases e:r.toNat=i
  ·have e2:(i:Int)=r:=by omega
   have hm:(i:Int)∈r::N:=by rw [e2];exact .head _
   rw [if_pos e,if_pos hm]
   by_cases h2:(i:Int)∈N
   ·rw [if_pos h2,Option.map_map];rfl
   ·rw [if_neg h2,e2]
  ·rw [if_neg e]
   have:(i:Int)∈r::N↔(i:Int)∈N:=by
    simp only [List.mem_cons]
    constructor
    ·rintro (h|h)
     ·omega
     ·exact h
    ·exact .inr
   simp only [this]
theorem Bd.undo {N:List Int} {L L':List HC} (h:Bd N L L'):Qb3 L' N=L:=by
 refine List.ext_getElem? fun i=> ?_
 rw [Qja N L' h.1 i]
 by_cases hi:(i:Int)∈N
 ·rw [if_pos hi]
  obtain ⟨c,n,c1,c2,c3,c4⟩:=(h.2 i).1 hi
  rw [c4,c1,Option.map_some,←c3]
 ·rw [if_neg hi];exact (h.2 i).2 hi
def Trl (u v:HU):Prop:=∃N,v.tr=u.tr++N∧Bd N u.cs v.cs
theorem Trl.same {u v:HU} (h1:v.cs=u.cs) (h2:v.tr=u.tr):Trl u v:=⟨[],by simp [h2],by rw [h1];exact Bd.refl _⟩
theorem Trl.trans {u v w:HU} (h:Trl u v) (g:Trl v w):Trl u w:=by
 obtain ⟨N,h1,h2⟩:=h
 obtain ⟨N',g1,g2⟩:=g
 exact ⟨N++N',by rw [g1,h1,List.append_assoc],h2.trans g2⟩
theorem Trl.bind {u v:HU} {r y:Int} {c:HC} (hr:hat u.cs r=some c) (hk:c.k=0) (hn:c.n=r) (h1:v.cs=QfJ u.cs r.toNat y) (h2:v.tr=u.tr++[r]):Trl u v:=⟨[r],h2,by rw [h1];exact Bd.one hr hk hn⟩
theorem QvR {n:Nat} {g:Int→Int→HU→Bool×HU} (hu:∀x y u,GU n u→u.lg=false→UU n u (g x y u)) (hg:∀x y u,GU n u→u.lg=false→Trl u (g x y u).2):
  ∀(m:Nat) (x y:Int) (u:HU),GU n u→u.lg=false→Trl u (Qkv g m x y u).2
 |0,x,y,u,h,hl=>Trl.same rfl rfl
 |m+1,x,y,u,h,hl=>by
  have h1:=hu x y u h hl
  simp only [Qkv]
  split
  ·rename_i hok
   exact (hg x y u h hl).trans (QvR hu hg m (x+1) (y+1) _ h1.gu (h1.ok hok))
  ·exact hg x y u h hl
theorem QvG {n:Nat} {u:HU} (h:GU n u) {p q:Int} {x:HC} (hx:hat u.cs p=some x) (hxk:x.k=0) (hxe:x.n=p):Trl u (Qqf p q u).2:=by
 have ho:=Qn1 (n:=n) p 401 q u h.good h.wk
 unfold Qqf
 split
 ·exact Trl.same ho.cs ho.tr
 ·exact Trl.bind hx hxk hxe (by simp only [HU.bind];rw [ho.cs]) (by simp only [HU.bind];rw [ho.tr])
theorem Qtq {n:Nat}:∀(f:Nat) (a b:Int) (u:HU),GU n u→u.lg=false→Trl u (Qdz f a b u).2
 | f, a, b, u, h, hl => by
  have hg2:GU n ((u.step.look a).2.look b).2:=(h.step.look a).look b
  have hwa:=QeG u.step a
  have hwb:=QeG (u.step.look a).2 b
  have hcs2:((u.step.look a).2.look b).2.cs=u.cs:=by rw [hwb.2.1,hwa.2.1];rfl
  have htr2:((u.step.look a).2.look b).2.tr=u.tr:=by rw [hwb.2.2,hwa.2.2];rfl
  have hfail:Trl u ((u.step.look a).2.look b).2:=Trl.same hcs2 htr2
  cases f with
  |zero=>exact hfail
  |succ f=>
  simp only [Qdz]
  by_cases hl2:((u.step.look a).2.look b).2.lg=true
  ·rw [if_pos hl2];exact hfail
  have hl3:((u.step.look a).2.look b).2.lg=false:=by simpa using hl2
  rw [if_neg hl2]
  obtain ⟨_,ha,hb,ea,eb,hcs,htr,_⟩:=QwR hl3
  rw [ha,hb]
  obtain ⟨x,hx,hxe⟩:=ea.last
  obtain ⟨y,hy,hye⟩:=eb.last
  generalize Qw u.cs a=p at*
  generalize Qw u.cs b=q at*
  generalize ((u.step.look a).2.look b).2=v at*
  rw [show QbE u.cs p=x.k by unfold QbE;rw [hx],show QbE u.cs q=y.k by unfold QbE;rw [hy]]
  by_cases hxk:x.k=0
  ·have hxn:x.n=p:=Classical.byContradiction fun e=>hxe ⟨hxk,e⟩
   rw [if_pos hxk]
   by_cases hyk:y.k=0
   ·have hyn:y.n=q:=Classical.byContradiction fun e=>hye ⟨hyk,e⟩
    rw [if_pos hyk]
    by_cases hpq:p=q
    ·rw [if_pos hpq];exact hfail
    ·rw [if_neg hpq]
     rcases Int.le_total p q with hle|hle
     ·rw [Int.max_eq_right hle,Int.min_eq_left hle]
      exact Trl.bind hy hyk hyn (by simp only [HU.bind];rw [hcs]) (by simp only [HU.bind];rw [htr])
     ·rw [Int.max_eq_left hle,Int.min_eq_right hle]
      exact Trl.bind hx hxk hxn (by simp only [HU.bind];rw [hcs]) (by simp only [HU.bind];rw [htr])
   ·rw [if_neg hyk]
    exact hfail.trans (QvG hg2 (by rw [hcs];exact hx) hxk hxn)
  ·rw [if_neg hxk]
   by_cases hyk:y.k=0
   ·have hyn:y.n=q:=Classical.byContradiction fun e=>hye ⟨hyk,e⟩
    rw [if_pos hyk]
    exact hfail.trans (QvG hg2 (by rw [hcs];exact hy) hyk hyn)
   ·rw [if_neg hyk]
    unfold QeE
    split
    ·exact hfail.trans (QvR (n:=n) (fun x y u=>Qnl f x y u) (fun x y u h hl=>Qtq f x y u h hl) _ _ _ v hg2 hl3)
    ·exact hfail
theorem Qw5 {h:HH} (hg:QS h=true):GU h.cs.length ⟨h.cs,h.tr,0,false⟩:=by
 unfold QS Qat QcM at hg
 simp only [Bool.and_eq_true,decide_eq_true_eq] at hg
 exact ⟨rfl,hg.1.2,fun _=>by show (0:Nat)≤400;omega,by show h.tr.length≤65536+0;omega⟩
def QeJ (g:Int→Nat→Option (Tm×Nat)):Nat→Int→Nat→Option (Ts×Nat)
 |0,_,l=>some (.nil,l)
 |m+1,a,l=>(g a l).bind fun p=>(QeJ g m (a+1) p.2).map fun q=>(.cons p.1.k p.1.n p.1.s p.1.ar q.1,q.2)
def Qh1 (L:List HC):Nat→Int→Nat→Option (Tm×Nat)
 |0,_,_=>none
 |f+1,a,l=>if l=0 then none else match hat L (Qw L a) with
  |none=>none
  |some c=>if c.k=0 then some (⟨0,Qw L a,eS,.nil⟩,l-1)
   else if c.k=1 then some (⟨1,0,c.s,.nil⟩,l-1)
   else if c.k=2 then some (⟨2,c.n,eS,.nil⟩,l-1)
   else (QeJ (Qh1 L f) (QU c).toNat (Qw L a+1) (l-1)).map fun p=>(⟨3,0,c.s,p.1⟩,p.2)
def QfN:Tm:=⟨0,0,eS,.nil⟩
def Qmp (most:Int):Nat:=(min most 65536).toNat
def QbZ (h:HH) (a most:Int):Tm×Nat×Int:=
 if QS h=false then (QfN,0,1)
 else if Qo h.cs a=false then (QfN,0,4)
 else match Qh1 h.cs (Qmp most) a (Qmp most) with
  |none=>(QfN,0,3)
  |some (t,l)=>(t,Qmp most-l,0)
theorem Qma {L:List HC} {f:Nat} {a:Int} {l:Nat} {c:HC} (hl:l≠0) (hc:hat L (Qw L a)=some c):Qh1 L (f+1) a l=if c.k=0 then some (⟨0,Qw L a,eS,.nil⟩,l-1)
   else if c.k=1 then some (⟨1,0,c.s,.nil⟩,l-1)
   else if c.k=2 then some (⟨2,c.n,eS,.nil⟩,l-1)
   else (QeJ (Qh1 L f) (QU c).toNat (Qw L a+1) (l-1)).map fun p=>(⟨3,0,c.s,p.1⟩,p.2):=by
 simp only [Qh1];rw [if_neg hl,hc]
theorem QtG {L:List HC} {f:Nat} {a:Int} {l:Nat} (hc:Qw L a<0):Qh1 L f a l=none:=by
 cases f with
 |zero=>rfl
 |succ f=>
  simp only [Qh1]
  split
  ·rfl
  ·rw [show hat L (Qw L a)=none by unfold hat;rw [if_neg Ya]]
theorem QjY {g:Int→Nat→Option (Tm×Nat)} (hg:∀a l p,g a l=some p→p.1.ar.nodes+1+p.2=l):∀(m:Nat) (a:Int) (l:Nat) (p:Ts×Nat),QeJ g m a l=some p→p.1.nodes+p.2=l∧p.1.length=m
 |0,a,l,p,h=>by simp only [QeJ,Option.some.injEq] at h;subst h;simp [Ts.nodes,Ts.length]
 |m+1,a,l,p,h=>by
  simp only [QeJ] at h
  cases h1:g a l with
  |none=>rw [h1] at h;simp at h
  |some q=>
   rw [h1,Option.bind_some] at h
   cases h2:QeJ g m (a+1) q.2 with
   |none=>rw [h2] at h;simp at h
   |some r=>
    rw [h2,Option.map_some,Option.some.injEq] at h
    subst h
    have e1:=hg a l q h1
    obtain ⟨e2,e3⟩:=QjY hg m (a+1) q.2 r h2
    simp only [Ts.nodes,Ts.length]
    omega
theorem Qfp {L:List HC}:∀(f:Nat) (a:Int) (l:Nat) (p:Tm×Nat),Qh1 L f a l=some p→p.1.ar.nodes+1+p.2=l
 |0,a,l,p,h=>by cases h
 |f+1,a,l,p,h=>by
  by_cases hl:l=0
  ·simp only [Qh1] at h;rw [if_pos hl] at h;cases h
  cases hc:hat L (Qw L a) with
  |none=>simp only [Qh1] at h;rw [if_neg hl,hc] at h;cases h
  |some c=>
   rw [Qma hl hc] at h
   split at h
   ·cases h;simp only [Ts.nodes];omega
   split at h
   ·cases h;simp only [Ts.nodes];omega
   split at h
   ·cases h;simp only [Ts.nodes];omega
   cases h2:QeJ (Qh1 L f) (QU c).toNat (Qw L a+1) (l-1) with
   |none=>rw [h2] at h;cases h
   |some r=>
    rw [h2,Option.map_some,Option.some.injEq] at h
    subst h
    have:=(QjY (fun a l p=>Qfp f a l p) _ _ _ _ h2).1
    show r.1.nodes+1+r.2=l
    omega
inductive Rc (L:List HC) (R:List Int):Int→Prop
 |root {a:Int}:a∈R→Qo L a=true→Rc L R a
 |ref {a:Int} {c:HC}:Rc L R a→hat L a=some c→c.k=0→Rc L R c.n
 |arg {a:Int} {c:HC} {i:Int}:Rc L R a→hat L a=some c→0≤i→i<QU c→Rc L R (a+1+i)
theorem Qq {L:List HC} {a:Int}:Qo L a=true↔0≤a∧a<L.length:=by unfold Qo;simp
theorem Qrv {n:Nat}:∀{L:List HC},(∀i c,L[i]?=some c→Qau n c (L.length-i-1)=true)→Q2 n L=true
 |[],_=>rfl
 |x::r,h=>by
  simp only [Q2,Bool.and_eq_true]
  refine ⟨by have:=h 0 x rfl;simpa using this,Qrv fun i c hc=> ?_⟩
  have:=h (i+1) c (by simpa using hc)
  rw [List.length_cons,show r.length+1-(i+1)-1=r.length-i-1 by omega] at this
  exact this
theorem QfD {n f:Nat} {c:HC} (h:Qau n c f=true):0≤QU c∧QU c≤f∧QU c≤4:=by
 have:=Q4 h
 unfold QU
 split<;>omega
theorem Rc.addr {L:List HC} {R:List Int} (hg:Q2 L.length L=true) {a:Int} (h:Rc L R a):Qo L a=true:=by
 induction h with
 |root _ h=>exact h
 |ref h hc hk ih=>
  have:=QiP hg hc hk
  rw [Qq];exact this
 |arg h hc i0 i1 ih=>
  have h1:=QbP.1 hc
  have h2:=QfD (QaM hg hc)
  rw [Qq]
  omega
def Qo2 (L:List HC) (R:List Int) (M:List Bool):Prop:=M.length=L.length∧∀i:Nat,i<L.length→(M[i]?=some true↔Rc L R (i:Int))
noncomputable def QW (L:List HC) (R:List Int):List Bool:=(List.range L.length).map fun i=> @decide (Rc L R ((i:Nat):Int)) (Classical.propDecidable _)
theorem QjV (L:List HC) (R:List Int):Qo2 L R (QW L R):=by
 refine ⟨by simp [QW],fun i hi=> ?_⟩
 unfold QW
 rw [List.getElem?_map,List.getElem?_range hi]
 simp
theorem Qo2.eq {L:List HC} {R:List Int} {M:List Bool} (h:Qo2 L R M):M=QW L R:=by
 have g:=QjV L R
 refine List.ext_getElem? fun i=> ?_
 by_cases hi:i<L.length
 ·have h1:=h.2 i hi
  have h2:=g.2 i hi
  have e1:M[i]?=some (M[i]'(by rw [h.1];exact hi)):=List.getElem?_eq_getElem _
  have e2:(QW L R)[i]?=some ((QW L R)[i]'(by rw [g.1];exact hi)):=List.getElem?_eq_getElem _
  rw [e1] at h1
  rw [e2] at h2
  rw [e1,e2]
  congr 1
  have h3:=h1.trans h2.symm
  simp only [Option.some.injEq] at h3
  cases hx:M[i]'(by rw [h.1];exact hi)<;>cases hy:(QW L R)[i]'(by rw [g.1];exact hi)<;>simp_all
 ·rw [List.getElem?_eq_none (by rw [h.1];omega),List.getElem?_eq_none (by rw [g.1];omega)]
def rk (M:List Bool) (n:Nat):Nat:=(M.take n).count true
abbrev rkI (M:List Bool) (a:Int):Int:=((rk M a.toNat:Nat):Int)
theorem Qpx (M:List Bool):rk M 0=0:=by simp [rk]
theorem QjG {M:List Bool} {n:Nat} {b:Bool} (h:M[n]?=some b):rk M (n+1)=rk M n+(if b=true then 1 else 0):=by
 unfold rk
 rw [List.take_add_one,h,List.count_append]
 cases b<;>simp
theorem Qt9 {M:List Bool} {n:Nat} (h:M.length≤n):rk M n=rk M M.length:=by unfold rk;rw [List.take_of_length_le h,List.take_of_length_le (Nat.le_refl _)]
theorem Qyr (M:List Bool) (n:Nat):rk M n≤rk M (n+1):=by
 by_cases h:n<M.length
 ·rw [QjG (List.getElem?_eq_getElem h)];omega
 ·rw [Qt9 (n:=n) Ya,Qt9 (n:=n+1) Ya];exact Nat.le_refl _
theorem Qt7 (M:List Bool) {n m:Nat} (h:n≤m):rk M n≤rk M m:=by
 induction h with
 |refl=>exact Nat.le_refl _
 |step _ ih=>exact Nat.le_trans ih (Qyr M _)
theorem Qys {M:List Bool} {n m:Nat} (hn:M[n]?=some true) (h:n<m):rk M n<rk M m:=by
 have h1:=QjG hn
 have h2:=Qt7 M (show n+1≤m from h)
 simp at h1
 omega
theorem Qxw {M:List Bool} {n m:Nat} (hn:M[n]?=some true) (hm:M[m]?=some true) (h:rk M n=rk M m):n=m:=by
 rcases Nat.lt_trichotomy n m with h1|h1|h1
 ·have:=Qys hn h1;omega
 ·exact h1
 ·have:=Qys hm h1;omega
def kept {α:Type}:List α→List Bool→List α
 |x::r,b::m=>if b=true then x::kept r m else kept r m
 |_,_=>[]
theorem QmB {α:Type}:∀{L:List α} {M:List Bool} {i:Nat} {x:α},M[i]?=some true→L[i]?=some x→(kept L M)[rk M i]?=some x
 |[],M,i,x,_,h=>by simp at h
 |y::r,[],i,x,h,_=>by simp at h
 |y::r,b::m,0,x,h,g=>by
  simp at h g
  subst h g
  simp [kept,rk]
 |y::r,b::m,i+1,x,h,g=>by
  have ih:=QmB (L:=r) (M:=m) (i:=i) (x:=x) (by simpa using h) (by simpa using g)
  have e:rk (b::m) (i+1)=rk m i+(if b=true then 1 else 0):=by unfold rk;rw [List.take_succ_cons];cases b<;>simp
  rw [e]
  cases b
  ·simpa [kept] using ih
  ·simpa [kept] using ih
theorem Qrm {α:Type}:∀{L:List α} {M:List Bool},M.length=L.length→(kept L M).length=rk M M.length
 |[],[],_=>rfl
 |[],_::_,h=>by simp at h
 |_::_,[],h=>by simp at h
 |y::r,b::m,h=>by
  have ih:=Qrm (L:=r) (M:=m) (by simpa using h)
  have e:rk (b::m) (m.length+1)=rk m m.length+(if b=true then 1 else 0):=by unfold rk;rw [List.take_succ_cons];cases b<;>simp
  rw [List.length_cons,e]
  cases b
  ·simpa [kept] using ih
  ·simpa [kept] using ih
theorem QmA {α:Type}:∀{L:List α} {M:List Bool} {j:Nat} {x:α},(kept L M)[j]?=some x→∃i,M[i]?=some true∧L[i]?=some x∧rk M i=j
 |[],M,j,x,h=>by simp [kept] at h
 |_::_,[],j,x,h=>by simp [kept] at h
 |y::r,b::m,j,x,h=>by
  have e:∀i,rk (b::m) (i+1)=rk m i+(if b=true then 1 else 0):=fun i=>by unfold rk;rw [List.take_succ_cons];cases b<;>simp
  cases b
  ·obtain ⟨i,h1,h2,h3⟩:=QmA (L:=r) (M:=m) (j:=j) (x:=x) (by simpa [kept] using h)
   exact ⟨i+1,by simpa using h1,by simpa using h2,by rw [e];simpa using h3⟩
  ·cases j with
   |zero=>exact ⟨0,rfl,by simpa [kept] using h,Qpx _⟩
   |succ j=>
    obtain ⟨i,h1,h2,h3⟩:=QmA (L:=r) (M:=m) (j:=j) (x:=x) (by simpa [kept] using h)
    exact ⟨i+1,by simpa using h1,by simpa using h2,by rw [e];simp;omega⟩
def QcQ (M:List Bool) (c:HC):HC:=if c.k=0 then ⟨c.k,rkI M c.n,c.s⟩ else c
def Qy (M:List Bool) (a:Int):Bool:=decide (M[a.toNat]?=some true)
def QbH (M:List Bool) (L:List HC):List HC:=(kept L M).map (QcQ M)
def Qcd (M:List Bool) (T:List Int):List Int:=(kept T (T.map (Qy M))).map (rkI M)
noncomputable def Qcb (h:HH) (R T K:List Int):HH×List Int×List Int×List Int×Int:=
 if QS h=false then (h,[],[],[],1)
 else if R.all (Qo h.cs)=false then (h,[],[],[],4)
 else (⟨QbH (QW h.cs R) h.cs,Qcd (QW h.cs R) h.tr⟩,R.map (rkI (QW h.cs R)),T.map (rkI (QW h.cs R)),K.map (rkI (h.tr.map (Qy (QW h.cs R)))),0)
structure Cx (h:HH) (R:List Int) (M:List Bool):Prop where
 good:QS h=true
 mks:Qo2 h.cs R M
section
variable {h:HH} {R:List Int} {M:List Bool}
theorem Cx.gl (C:Cx h R M):Q2 h.cs.length h.cs=true:=by
 have:=C.good
 unfold QS Qat at this
 simp only [Bool.and_eq_true] at this
 exact this.1.2
theorem Cx.rc (C:Cx h R M) {a:Int} (ha:Rc h.cs R a):0≤a∧a<h.cs.length∧M[a.toNat]?=some true:=by
 have h1:=Qq.1 (ha.addr C.gl)
 refine ⟨h1.1,h1.2,(C.mks.2 a.toNat Ya).2 ?_⟩
 rw [show ((a.toNat:Nat):Int)=a by omega];exact ha
theorem Cx.mark (C:Cx h R M) {i:Nat} (hi:M[i]?=some true):i<h.cs.length∧Rc h.cs R (i:Int):=by
 have hl:i<h.cs.length:=by
  rw [←C.mks.1]
  rcases Nat.lt_or_ge i M.length with g|g
  ·exact g
  ·rw [List.getElem?_eq_none g] at hi;cases hi
 exact ⟨hl,(C.mks.2 i hl).1 hi⟩
theorem Cx.len (C:Cx h R M):(QbH M h.cs).length=rk M M.length:=by unfold QbH;rw [List.length_map,Qrm C.mks.1]
theorem Cx.cell (C:Cx h R M) {a:Int} {c:HC} (ha:Rc h.cs R a) (hc:hat h.cs a=some c):hat (QbH M h.cs) (rkI M a)=some (QcQ M c):=by
 obtain ⟨a0,a1,am⟩:=C.rc ha
 unfold hat
 rw [if_pos (by simp only [rkI];omega),show (rkI M a).toNat=rk M a.toNat from rfl]
 unfold QbH
 rw [List.getElem?_map,QmB am (QbP.1 hc).2.2]
 rfl
theorem Cx.lt (C:Cx h R M) {a:Int} (ha:Rc h.cs R a):rk M a.toNat<(QbH M h.cs).length:=by
 obtain ⟨a0,a1,am⟩:=C.rc ha
 rw [C.len]
 exact Qys am (by rw [C.mks.1];omega)
theorem Cx.back (C:Cx h R M) {j:Nat} {d:HC} (hj:(QbH M h.cs)[j]?=some d):∃(i:Nat) (c:HC),Rc h.cs R (i:Int)∧hat h.cs (i:Int)=some c∧d=QcQ M c∧rk M i=j:=by
 unfold QbH at hj
 rw [List.getElem?_map] at hj
 cases hk:(kept h.cs M)[j]? with
 |none=>rw [hk] at hj;cases hj
 |some c=>
  rw [hk,Option.map_some,Option.some.injEq] at hj
  obtain ⟨i,h1,h2,h3⟩:=QmA hk
  obtain ⟨hi,hr⟩:=C.mark h1
  exact ⟨i,c,hr,by unfold hat;rw [if_pos Ya];exact h2,hj.symm,h3⟩
theorem Cx.args (C:Cx h R M) {a:Int} {c:HC} (ha:Rc h.cs R a) (hc:hat h.cs a=some c):∀i:Nat,(i:Int)<QU c+1→rk M (a.toNat+i)=rk M a.toNat+i
 |0,_=>rfl
 |i+1,hi=>by
  have ih:=C.args ha hc i Ya
  have am:M[a.toNat+i]?=some true:=by
   cases i with
   |zero=>exact (C.rc ha).2.2
   |succ i=>
    have h1:=C.rc (Rc.arg (i:=(i:Int)) ha hc Ya Ya)
    rw [show (a+1+(i:Int)).toNat=a.toNat+(i+1) by have:=(C.rc ha).1;omega] at h1
    exact h1.2.2
  rw [show a.toNat+(i+1)=(a.toNat+i)+1 by omega,QjG am,ih]
  simp
  omega
theorem Cx.arg (C:Cx h R M) {a:Int} {c:HC} (ha:Rc h.cs R a) (hc:hat h.cs a=some c) {i:Int} (i0:0≤i) (i1:i<QU c):rkI M (a+1+i)=rkI M a+1+i:=by
 have:=C.args ha hc (i.toNat+1) Ya
 have a0:=(C.rc ha).1
 show ((rk M (a+1+i).toNat:Nat):Int)=((rk M a.toNat:Nat):Int)+1+i
 rw [show (a+1+i).toNat=a.toNat+(i.toNat+1) by omega,this]
 omega
theorem Qsq (M:List Bool) (c:HC):QU (QcQ M c)=QU c:=by
 unfold QcQ QU
 by_cases h:c.k=0
 ·rw [if_pos h];simp [h]
 ·rw [if_neg h]
theorem Qhv (M:List Bool) (c:HC):(QcQ M c).k=c.k:=by
 unfold QcQ;split<;>rfl
theorem Qua (M:List Bool) (c:HC):(QcQ M c).s=c.s:=by
 unfold QcQ;split<;>rfl
theorem QtD {h:HH} (hg:QS h=true) {a:Int} (ha:a∈h.tr):∃c,hat h.cs a=some c∧c.k=0:=by
 unfold QS QcM at hg
 simp only [Bool.and_eq_true,List.all_eq_true] at hg
 have:=hg.2.2 a ha
 unfold QaW at this
 split at this
 ·rename_i c hc;exact ⟨c,hc,by simpa using this⟩
 ·cases this
theorem QaQ {M:List Bool} {a:Int}:Qy M a=true↔M[a.toNat]?=some true:=by unfold Qy;simp
theorem Qw0 {α:Type} {f:α→Bool} {T:List α} {x:α}:x∈kept T (T.map f)↔x∈T∧f x=true:=by
 induction T with
 |nil=>simp [kept]
 |cons y T ih=>
  simp only [List.map_cons,kept]
  cases hf:f y
  ·simp only [Bool.false_eq_true,if_false,ih,List.mem_cons]
   constructor
   ·rintro ⟨h1,h2⟩;exact ⟨.inr h1,h2⟩
   ·rintro ⟨rfl|h1,h2⟩
    ·rw [hf] at h2;cases h2
    ·exact ⟨h1,h2⟩
  ·simp only [if_true,List.mem_cons,ih]
   constructor
   ·rintro (rfl|⟨h1,h2⟩)
    ·exact ⟨.inl rfl,hf⟩
    ·exact ⟨.inr h1,h2⟩
   ·rintro ⟨rfl|h1,h2⟩
    ·exact .inl rfl
    ·exact .inr ⟨h1,h2⟩
theorem Cx.kept_good (C:Cx h R M):QS ⟨QbH M h.cs,Qcd M h.tr⟩=true:=by
 have hg:=C.good
 have hgl:=C.gl
 have hlen:(QbH M h.cs).length≤h.cs.length:=by
  rw [C.len];unfold rk;rw [←C.mks.1]
  exact Nat.le_trans List.count_le_length Yd
 have hs:h.cs.length≤65536∧h.tr.length≤65536:=by
  unfold QS Qat QcM at hg
  simp only [Bool.and_eq_true,decide_eq_true_eq] at hg
  exact ⟨hg.1.1,hg.2.1⟩
 have hkl:∀{α:Type} (T:List α) (m:List Bool),(kept T m).length≤T.length:=by
  intro α T
  induction T with
  |nil=>intro m;simp [kept]
  |cons y T ih=>
   intro m
   cases m with
   |nil=>simp [kept]
   |cons b m=>
    simp only [kept]
    have:=ih m
    split<;>simp<;>omega
 unfold QS Qat QcM
 simp only [Bool.and_eq_true,decide_eq_true_eq,List.all_eq_true]
 refine ⟨⟨by omega,Qrv fun j d hd=> ?_⟩,?_,fun x hx=> ?_⟩
 ·obtain ⟨i,c,hr,hc,rfl,hj⟩:=C.back hd
  have hgc:=QaM hgl hc
  have hq:=Q4 hgc
  have hlt:=C.lt hr
  rw [show ((i:Nat):Int).toNat=i by omega] at hlt
  unfold Qau
  rw [Qhv,Qua]
  rcases hq with ⟨k,n0,n1,s0⟩|⟨k,n0,s0⟩|⟨k,s0⟩|⟨k,n0,n1,n2,s0⟩
  ·have hrn:=C.lt (Rc.ref hr hc k)
   rw [if_pos k]
   unfold QcQ
   rw [if_pos k]
   simp only [Bool.and_eq_true,decide_eq_true_eq]
   exact ⟨by simp only [rkI];omega,by simp only [rkI];omega,s0⟩
  ·rw [if_neg Ya,if_pos k]
   unfold QcQ
   rw [if_neg Ya]
   simp [n0,s0]
  ·rw [if_neg Ya,if_neg Ya,if_pos k]
   simp [s0]
  ·have hA:QU c=c.n:=by unfold QU;rw [if_pos k]
   have h1:=C.lt (Rc.arg (i:=c.n-1) hr hc Ya Ya)
   have h2:=C.args hr hc c.n.toNat Ya
   rw [show ((i:Int)+1+(c.n-1)).toNat=((i:Nat):Int).toNat+c.n.toNat by omega,h2] at h1
   rw [if_neg Ya,if_neg Ya,if_neg Ya,if_pos k]
   unfold QcQ
   rw [if_neg Ya]
   simp only [Bool.and_eq_true,decide_eq_true_eq,Bool.not_eq_true',decide_eq_false_iff_not]
   rw [show ((i:Nat):Int).toNat=i by omega] at h1
   exact ⟨n0,n1,by omega,s0⟩
 ·unfold Qcd;rw [List.length_map];have:=hkl h.tr (h.tr.map (Qy M));omega
 ·unfold Qcd at hx
  obtain ⟨a,ha,rfl⟩:=List.mem_map.1 hx
  obtain ⟨h1,h2⟩:=Qw0.1 ha
  obtain ⟨c,c1,c2⟩:=QtD hg h1
  have hm:=C.mark (QaQ.1 h2)
  rw [show ((a.toNat:Nat):Int)=a by have:=(QbP.1 c1).1;omega] at hm
  unfold QaW
  rw [C.cell hm.2 c1]
  dsimp only
  rw [Qhv,c2];rfl
end
def ctl (c:HC):Int:=if c.k=3 then 0 else c.n
def Qal (h:HH) (a:Int):Vw Int:=match hat h.cs (Qw h.cs a) with
 |none=> .var (-1)
 |some c=>if c.k=0 then .var (Qw h.cs a) else .node c.k (ctl c) c.s (ups (Qw h.cs a+1) (QU c).toNat)
section
variable {σ:HH}
structure HOk (h:HH):Prop where
 gl:Q2 h.cs.length h.cs=true
 ends:∀a,Qo h.cs a=true→∃x,End h.cs a x
 tr:∀a∈h.tr,QaW h.cs a=true
def QmF (h:HH) (r y:Int):HH:=⟨QfJ h.cs r.toNat y,h.tr++[r]⟩
def Qgq:Sy where
 X:=Int
 S:=HH
 ok:=HOk
 dom:=fun h a=>Qo h.cs a=true
 view:=Qal
 bind:=fun h v t=>QmF h v (Qw h.cs t)
 join:=fun h a b=>QmF h (max (Qw h.cs a) (Qw h.cs b)) (min (Qw h.cs a) (Qw h.cs b))
theorem QiL (h:HH) (r y:Int):(QmF h r y).cs.length=h.cs.length:=Qcr _ _ _
theorem Qkr {h:HH} {r y a:Int}:Qo (QmF h r y).cs a=Qo h.cs a:=by unfold Qo;rw [QiL]
theorem QaJ {h:HH} {a x:Int} {c:HC} (he:End h.cs a x) (hc:hat h.cs x=some c):Qal h a=if c.k=0 then .var x else .node c.k (ctl c) c.s (ups (x+1) (QU c).toNat):=by
 unfold Qal;rw [he.look,hc]
theorem HOk.view (h:HOk σ) {a:Int} (ha:Qo σ.cs a=true):∃x c,End σ.cs a x∧hat σ.cs x=some c∧(c.k=0→c.n=x)∧Qal σ a=if c.k=0 then .var x else .node c.k (ctl c) c.s (ups (x+1) (QU c).toNat):=by
 obtain ⟨x,hx⟩:=h.ends a ha
 obtain ⟨c,c1,c2⟩:=hx.last
 refine ⟨x,c,hx,c1,fun hk=> ?_,QaJ hx c1⟩
 by_cases e:c.n=x
 ·exact e
 ·exact absurd ⟨hk,e⟩ c2
theorem HOk.var (h:HOk σ) {a v:Int} (ha:Qo σ.cs a=true) (hv:Qal σ a= .var v):End σ.cs a v∧∃c,hat σ.cs v=some c∧c.k=0∧c.n=v:=by
 obtain ⟨x,c,h1,h2,h3,h4⟩:=h.view ha
 rw [h4] at hv
 split at hv
 ·rename_i hk;cases hv;exact ⟨h1,c,h2,hk,h3 hk⟩
 ·cases hv
theorem HOk.node (h:HOk σ) {a k n:Int} {s:ByteArray} {ar:List Int} (ha:Qo σ.cs a=true) (hv:Qal σ a= .node k n s ar):∃x c,End σ.cs a x∧hat σ.cs x=some c∧c.k≠0∧k=c.k∧n=ctl c∧s=c.s∧ar=ups (x+1) (QU c).toNat:=by
 obtain ⟨x,c,h1,h2,h3,h4⟩:=h.view ha
 rw [h4] at hv
 split at hv
 ·cases hv
 ·rename_i hk;cases hv;exact ⟨x,c,h1,h2,hk,rfl,rfl,rfl,rfl⟩
theorem QfG {L:List HC} {a:Int}:Qo L a=true↔∃c,hat L a=some c:=by
 rw [Qq]
 constructor
 ·rintro ⟨h0,h1⟩;exact QxI h0 h1
 ·rintro ⟨c,hc⟩;exact ⟨(QbP.1 hc).1,(QbP.1 hc).2.1⟩
theorem QpZ {L:List HC} {r y a:Int} {c:HC} (hr:hat L r=some c) (hk:c.k=0) (h:QaW L a=true):QaW (QfJ L r.toNat y) a=true:=by
 unfold QaW at h⊢
 rw [Qdb hr]
 by_cases e:a=r
 ·rw [if_pos e];simpa using hk
 ·rw [if_neg e];exact h
theorem HOk.set (h:HOk σ) {r y:Int} {c:HC} (hr:hat σ.cs r=some c) (hk:c.k=0) (hn:c.n=r) (hy:End σ.cs y y) (hne:y≠r):
  HOk (QmF σ r y)∧∀a,Qo σ.cs a=true→Qal (QmF σ r y) a=(Qal σ a).sub r (Qal σ y):=by
 obtain ⟨e1,e2⟩:=Qxb hr hk hn hy hne
 obtain ⟨d,hd,_⟩:=hy.last
 have hyl:=QbP.1 hd
 refine ⟨⟨?_,fun a ha=> ?_,fun a ha=> ?_⟩,fun a ha=> ?_⟩
 ·rw [QiL]
  refine QgD hyl.1 hyl.2.1 h.gl fun c' hc'=> ?_
  rw [(QbP.1 hr).2.2] at hc';cases hc';exact hk
 ·rw [Qkr] at ha
  obtain ⟨x,hx⟩:=h.ends a ha
  by_cases hxr:x=r
  ·subst hxr;exact ⟨y,e2 a hx⟩
  ·exact ⟨x,e1 a x hx hxr⟩
 ·rcases List.mem_append.1 ha with ha|ha
  ·exact QpZ hr hk (h.tr a ha)
  ·rw [List.mem_singleton.1 ha]
   unfold QaW
   rw [show hat (QmF σ r y).cs r=some ⟨c.k,y,c.s⟩ by show hat (QfJ σ.cs r.toNat y) r=_;rw [Qdb hr,if_pos rfl]]
   simpa using hk
 ·obtain ⟨x,c',h1,h2,h3,h4⟩:=h.view ha
  by_cases hxr:x=r
  ·subst hxr
   rw [h2] at hr;cases hr
   rw [h4,if_pos hk]
   simp only [Vw.sub,if_true]
   rw [QaJ (e2 a h1) (c:=d) (by show hat (QfJ σ.cs _ y) y=_;rw [Qdb h2,if_neg hne];exact hd),QaJ hy hd]
  ·rw [h4,QaJ (e1 a x h1 hxr) (c:=c') (by show hat (QfJ σ.cs _ y) x=_;rw [Qdb hr,if_neg hxr];exact h2)]
   split
   ·simp only [Vw.sub];rw [if_neg hxr]
   ·rfl
theorem QmJ {x t v k n:Int} {s:ByteArray} {ar:List Int} (hσ:HOk σ) (hx:Qo σ.cs x=true) (ht:Qo σ.cs t=true) (hv:Qal σ x= .var v) (htv:Qal σ t= .node k n s ar):HOk (QmF σ v (Qw σ.cs t))∧∀y,Qo σ.cs y=true→Qal (QmF σ v (Qw σ.cs t)) y=(Qal σ y).sub v (Qal σ t):=by
 obtain ⟨_,c,c1,c2,c3⟩:=hσ.var hx hv
 obtain ⟨z,d,d1,d2,d3,_⟩:=hσ.node ht htv
 have:=hσ.set c1 c2 c3 d1.self fun e=>by subst e;rw [c1] at d2;cases d2;exact d3 c2
 rw [d1.look]
 refine ⟨this.1,fun y hy=> ?_⟩
 rw [this.2 y hy,QaJ d1 d2,QaJ d1.self d2]
theorem QmG {a b u v:Int} (hσ:HOk σ) (ha:Qo σ.cs a=true) (hb:Qo σ.cs b=true) (hu:Qal σ a= .var u) (hv:Qal σ b= .var v) (hne:u≠v):
  HOk (QmF σ (max (Qw σ.cs a) (Qw σ.cs b)) (min (Qw σ.cs a) (Qw σ.cs b)))∧
  ((∀y,Qo σ.cs y=true→Qal (QmF σ (max (Qw σ.cs a) (Qw σ.cs b)) (min (Qw σ.cs a) (Qw σ.cs b))) y=(Qal σ y).sub u (.var v))∨(∀y,Qo σ.cs y=true→Qal (QmF σ (max (Qw σ.cs a) (Qw σ.cs b)) (min (Qw σ.cs a) (Qw σ.cs b))) y=(Qal σ y).sub v (.var u))):=by
 obtain ⟨u1,c,c1,c2,c3⟩:=hσ.var ha hu
 obtain ⟨v1,d,d1,d2,d3⟩:=hσ.var hb hv
 have hvu:Qal σ u= .var u:=by rw [QaJ u1.self c1,if_pos c2]
 have hvv:Qal σ v= .var v:=by rw [QaJ v1.self d1,if_pos d2]
 rw [u1.look,v1.look]
 rcases Int.lt_or_lt_of_ne hne with hl|hl
 ·rw [show max u v=v by omega,show min u v=u by omega]
  have:=hσ.set d1 d2 d3 u1.self hne
  exact ⟨this.1,.inr fun y hy=>by rw [this.2 y hy,hvu]⟩
 ·rw [show max u v=u by omega,show min u v=v by omega]
  have:=hσ.set c1 c2 c3 v1.self (Ne.symm hne)
  exact ⟨this.1,.inl fun y hy=>by rw [this.2 y hy,hvv]⟩
end
theorem Qwr:Qgq.Law where
 bind_ok:=fun hσ hx ht hv htv=>(QmJ hσ hx ht hv htv).1
 bind_dom:=fun hy=>Qkr.trans hy
 bind_view:=fun hσ hx ht hv htv hy=>(QmJ hσ hx ht hv htv).2 _ hy
 join_ok:=fun hσ ha hb hu hv hne=>(QmG hσ ha hb hu hv hne).1
 join_dom:=fun hy=>Qkr.trans hy
 join_view:=fun hσ ha hb hu hv hne=>(QmG hσ ha hb hu hv hne).2
theorem QiV {L:List HC} (hg:Q2 L.length L=true) {x:Int} {c:HC} (hc:hat L x=some c):(∀i:Int,0≤i→i<QU c→Qo L (x+1+i)=true)∧0≤QU c:=by
 have h1:=QbP.1 hc
 have h2:=QfD (QaM hg hc)
 exact ⟨fun i i0 i1=>by rw [Qq];omega,h2.1⟩
def toU (h:HH) (w:Nat):HU:=⟨h.cs,h.tr,w,decide (400<w)⟩
theorem Qiy (h:HH) (w:Nat):(toU h w).step=toU h (w+1):=by
 unfold toU HU.step
 simp only [HU.mk.injEq,true_and]
 by_cases h1:400<w
 ·simp [h1,show 400<w+1 by omega]
 ·simp [h1]
theorem Qfo {h:HH} (ho:HOk h) {a:Int} (ha:Qo h.cs a=true) (w:Nat):(toU h w).look a=(if 400<w then -1 else Qw h.cs a,toU h w):=by
 obtain ⟨x,hx⟩:=ho.ends a ha
 have h0:=hx.nonneg
 unfold HU.look toU
 by_cases hw:400<w
 ·simp [hw]
 ·simp only [decide_eq_true_eq,hw,if_false,hx.look]
  simp [show¬x<0 by omega]
section
variable {A:Sy}
theorem Quu {σ:A.S} {v:Int} {f:Nat} {x:A.X} {w:Nat} (h:400<w+1):Qdx A σ v (f+1) x w=(false,w+1):=by simp only [Qdx];rw [if_pos h]
theorem QwI {σ:A.S} {v u:Int} {f:Nat} {x:A.X} {w:Nat} (h:¬400<w+1) (e:A.view σ x= .var u):Qdx A σ v (f+1) x w=(decide (u=v),w+1):=by simp only [Qdx];rw [if_neg h,e]
theorem Quv {σ:A.S} {v k n:Int} {s:ByteArray} {ar:List A.X} {f:Nat} {x:A.X} {w:Nat} (h:¬400<w+1) (e:A.view σ x= .node k n s ar):Qdx A σ v (f+1) x w=QfE (Qdx A σ v f) ar (w+1):=by simp only [Qdx];rw [if_neg h,e]
theorem Qut {σ:A.S} {v:Int} (f:Nat) {x y:A.X} (w:Nat) (e:A.view σ x=A.view σ y):Qdx A σ v f x w=Qdx A σ v f y w:=by
 cases f with
 |zero=>rfl
 |succ f=>simp only [Qdx];rw [e]
theorem Qtx {σ:A.S} {f:Nat} {a b:A.X} {w:Nat} (h:400<w+1):QbM A (f+1) a b σ w=⟨false,σ,w+1⟩:=by simp only [QbM];rw [if_pos h]
theorem Qtw {σ:A.S} {f:Nat} {a b:A.X} {w:Nat} {u:Int} (h:¬400<w+1) (e1:A.view σ a= .var u) (e2:A.view σ b= .var u):QbM A (f+1) a b σ w=⟨true,σ,w+1⟩:=by simp only [QbM];rw [if_neg h,e1,e2];dsimp only;rw [if_pos rfl]
theorem Qty {σ:A.S} {f:Nat} {a b:A.X} {w:Nat} {u v:Int} (h:¬400<w+1) (e1:A.view σ a= .var u) (e2:A.view σ b= .var v) (hne:u≠v):QbM A (f+1) a b σ w=⟨true,A.join σ a b,w+1⟩:=by simp only [QbM];rw [if_neg h,e1,e2];dsimp only;rw [if_neg hne]
theorem Qx9 {σ:A.S} {f:Nat} {a b:A.X} {w:Nat} {u k n:Int} {s:ByteArray} {ar:List A.X} (h:¬400<w+1) (e1:A.view σ a= .var u) (e2:A.view σ b= .node k n s ar):QbM A (f+1) a b σ w=QlX A u b σ (w+1):=by simp only [QbM];rw [if_neg h,e1,e2]
theorem Qya {σ:A.S} {f:Nat} {a b:A.X} {w:Nat} {v k n:Int} {s:ByteArray} {ar:List A.X} (h:¬400<w+1) (e1:A.view σ a= .node k n s ar) (e2:A.view σ b= .var v):QbM A (f+1) a b σ w=QlX A v a σ (w+1):=by simp only [QbM];rw [if_neg h,e1,e2]
theorem Qyc {σ:A.S} {f:Nat} {a b:A.X} {w:Nat} {k n k' n':Int} {s s':ByteArray} {ar ar':List A.X} (h:¬400<w+1) (e1:A.view σ a= .node k n s ar) (e2:A.view σ b= .node k' n' s' ar') (he:k=k'∧n=n'∧s=s'∧ar.length=ar'.length):QbM A (f+1) a b σ w=Qiq (QbM A f) ar ar' σ (w+1):=by simp only [QbM];rw [if_neg h,e1,e2];dsimp only;rw [if_pos he]
theorem Qyb {σ:A.S} {f:Nat} {a b:A.X} {w:Nat} {k n k' n':Int} {s s':ByteArray} {ar ar':List A.X} (h:¬400<w+1) (e1:A.view σ a= .node k n s ar) (e2:A.view σ b= .node k' n' s' ar') (he:¬(k=k'∧n=n'∧s=s'∧ar.length=ar'.length)):QbM A (f+1) a b σ w=⟨false,σ,w+1⟩:=by simp only [QbM];rw [if_neg h,e1,e2];dsimp only;rw [if_neg he]
theorem QoX {σ:A.S} {f:Nat} {x:A.X}:QdT A σ (f+1) x 0=none:=by simp [QdT]
theorem QiW {σ:A.S} {f:Nat} {x:A.X} {l:Nat} {u:Int} (h:l≠0) (e:A.view σ x= .var u):QdT A σ (f+1) x l=some (⟨0,u,⟨#[]⟩,.nil⟩,l-1):=by simp only [QdT];rw [if_neg h,e]
theorem Qg9 {σ:A.S} {f:Nat} {x:A.X} {l:Nat} {k n:Int} {s:ByteArray} {ar:List A.X} (h:l≠0) (e:A.view σ x= .node k n s ar):QdT A σ (f+1) x l=(QdB (QdT A σ f) ar (l-1)).map fun p=>(⟨k,n,s,p.1⟩,p.2):=by
 simp only [QdT];rw [if_neg h,e]
 dsimp only
 cases QdB (QdT A σ f) ar (l-1)<;>rfl
end
def QgL (σ:HH) (v:Int) (f:Nat) (x:Int) (w:Nat):Bool×Nat:=Qdx Qgq σ v f x w
def QoT (v t:Int) (σ:HH) (w:Nat):Ug HH:=QlX Qgq v t σ w
def QeT (f:Nat) (a b:Int) (σ:HH) (w:Nat):Ug HH:=QbM Qgq f a b σ w
def Qko (σ:HH) (f:Nat) (x:Int) (l:Nat):Option (Tm×Nat):=QdT Qgq σ f x l
theorem QrK (v t:Int) (σ:HH) (w:Nat):QoT v t σ w=if (QgL σ v 401 t w).1=true∨400<(QgL σ v 401 t w).2 then ⟨false,σ,(QgL σ v 401 t w).2⟩ else ⟨true,QmF σ v (Qw σ.cs t),(QgL σ v 401 t w).2⟩:=rfl
theorem QvP {h:HH} {g:Int→HU→Bool×HU} {g':Int→Nat→Bool×Nat} (hg:∀x w,Qo h.cs x=true→g x (toU h w)=((g' x w).1,toU h (g' x w).2)):∀(m:Nat) (x:Int) (w:Nat),(∀i:Int,0≤i→i<m→Qo h.cs (x+i)=true)→QmY g m x (toU h w)=((QfE g' (ups x m) w).1,toU h (QfE g' (ups x m) w).2)
 |0,x,w,_=>rfl
 |m+1,x,w,hd=>by
  have h0:=hd 0 Ya Ya
  rw [show x+0=x by omega] at h0
  simp only [QmY,ups,QfE]
  rw [hg x w h0]
  dsimp only
  by_cases hc:(g' x w).1=true
  ·rw [if_pos hc,if_pos hc,hc]
  ·rw [if_neg hc,if_neg hc]
   exact QvP hg m (x+1) _ fun i i0 i1=>by rw [show x+1+i=x+(i+1) by omega];exact hd _ Ya Ya
theorem Qus {h:HH} (ho:HOk h) {v:Int} {c:HC} (hv:hat h.cs v=some c) (hk:c.k=0):∀(f:Nat) (b:Int) (w:Nat),Qo h.cs b=true→Qdw v f b (toU h w)=((QgL h v f b w).1,toU h (QgL h v f b w).2)
 |0,b,w,hb=>by
  simp only [Qdw]
  rw [Qiy,Qfo ho hb];rfl
 | f + 1, b, w, hb => by
  obtain ⟨x,d,h1,h2,h3,h4⟩:=ho.view hb
  simp only [Qdw]
  rw [Qiy,Qfo ho hb]
  dsimp only
  by_cases hw:400<w+1
  ·rw [if_pos (show (toU h (w+1)).lg=true by simp [toU,hw]),show QgL h v (f+1) b w=(false,w+1) from Quu (A:=Qgq) hw]
  ·rw [if_neg (show¬(toU h (w+1)).lg=true by simp [toU];omega),if_neg hw,h1.look]
   have ha:QaZ (toU h w).cs x=(QU d).toNat:=by show QaZ h.cs x=_;unfold QaZ;rw [h2]
   by_cases hdk:d.k=0
   ·rw [show QgL h v (f+1) b w=(decide (x=v),w+1) from QwI (A:=Qgq) hw (h4.trans (if_pos hdk))]
    by_cases e:v=x
    ·rw [if_pos e];simp [e]
    ·rw [if_neg e,ha,show (QU d).toNat=0 by unfold QU;rw [if_neg Ya];rfl]
     simp only [QmY]
     rw [decide_eq_false (fun e2:x=v=>e e2.symm)]
   ·have e:v≠x:=fun e=>by subst e;rw [hv] at h2;cases h2;exact hdk hk
    rw [show QgL h v (f+1) b w=QfE (QgL h v f) (ups (x+1) (QU d).toNat) (w+1) from Quv (A:=Qgq) hw (h4.trans (if_neg hdk)),if_neg e,ha]
    obtain ⟨g1,g2⟩:=QiV ho.gl h2
    exact QvP (fun x w hx=>Qus ho hv hk f x w hx) _ _ _ fun i i0 i1=>g1 i i0 Ya
theorem Qur {h:HH} (ho:HOk h) {v b:Int} (hb:Qo h.cs b=true) (f w:Nat):QgL h v f (Qw h.cs b) w=QgL h v f b w:=by
 obtain ⟨x,d,h1,h2,h3,h4⟩:=ho.view hb
 refine Qut (A:=Qgq) f w ?_
 show Qal h (Qw h.cs b)=Qal h b
 rw [h1.look]
 exact (QaJ h1.self h2).trans h4.symm
theorem QvI {h:HH} (ho:HOk h) {v t:Int} {c:HC} (hv:hat h.cs v=some c) (hk:c.k=0) (ht:Qo h.cs t=true) (w:Nat):
  Qqf v (Qw h.cs t) (toU h w)=((QoT v t h w).ok,toU (QoT v t h w).s (QoT v t h w).w):=by
 obtain ⟨y,hy⟩:=ho.ends t ht
 have hya:Qo h.cs (Qw h.cs t)=true:=by rw [hy.look];obtain ⟨d,hd,_⟩:=hy.last;exact QfG.2 ⟨d,hd⟩
 rw [QrK]
 unfold Qqf
 rw [Qus ho hv hk 401 _ w hya,Qur ho ht]
 dsimp only
 by_cases hc:(QgL h v 401 t w).1=true∨400<(QgL h v 401 t w).2
 ·rw [if_pos hc,if_pos (by simpa [toU] using hc)]
 ·rw [if_neg hc,if_neg (by simpa [toU] using hc)]
  rfl
theorem QvT {g:Int→Int→HU→Bool×HU} {g':Int→Int→HH→Nat→Ug HH} (n:Nat) (hg:∀x y σ w,HOk σ→σ.cs.length=n→Qo σ.cs x=true→Qo σ.cs y=true→g x y (toU σ w)=((g' x y σ w).ok,toU (g' x y σ w).s (g' x y σ w).w)∧HOk (g' x y σ w).s∧(g' x y σ w).s.cs.length=n):
  ∀(m:Nat) (x y:Int) (σ:HH) (w:Nat),HOk σ→σ.cs.length=n→(∀i:Int,0≤i→i<m→0≤x+i∧x+i<n∧0≤y+i∧y+i<n)→Qkv g m x y (toU σ w)=((Qiq g' (ups x m) (ups y m) σ w).ok,toU (Qiq g' (ups x m) (ups y m) σ w).s (Qiq g' (ups x m) (ups y m) σ w).w)∧HOk (Qiq g' (ups x m) (ups y m) σ w).s∧(Qiq g' (ups x m) (ups y m) σ w).s.cs.length=n
 |0,x,y,σ,w,ho,hn,_=>⟨rfl,ho,hn⟩
 |m+1,x,y,σ,w,ho,hn,hd=>by
  obtain ⟨d0,d1,d2,d3⟩:=hd 0 Ya Ya
  obtain ⟨e1,e2,e3⟩:=hg x y σ w ho hn (by rw [Qq];omega) (by rw [Qq];omega)
  simp only [Qkv,ups,Qiq]
  rw [e1]
  dsimp only
  split
  ·exact QvT n hg m (x+1) (y+1) _ _ e2 e3 fun i i0 i1=>by
    have:=hd (i+1) Ya Ya
    omega
  ·exact ⟨rfl,e2,e3⟩
theorem QvK {h:HH} (ho:HOk h) {v t a:Int} (ha:Qo h.cs a=true) (hv:Qal h a= .var v) (ht:Qo h.cs t=true) {k n:Int} {s:ByteArray} {ar:List Int} (htv:Qal h t= .node k n s ar) (w:Nat):HOk (QoT v t h w).s∧(QoT v t h w).s.cs.length=h.cs.length:=by
 rw [QrK]
 split
 ·exact ⟨ho,rfl⟩
 ·exact ⟨(QmJ ho ha ht hv htv).1,QiL _ _ _⟩
theorem Qtr:∀(f:Nat) (a b:Int) (σ:HH) (w:Nat),HOk σ→Qo σ.cs a=true→Qo σ.cs b=true→
  Qdz f a b (toU σ w)=((QeT f a b σ w).ok,toU (QeT f a b σ w).s (QeT f a b σ w).w)∧HOk (QeT f a b σ w).s∧(QeT f a b σ w).s.cs.length=σ.cs.length
 |0,a,b,σ,w,ho,ha,hb=>by
  refine ⟨?_,ho,rfl⟩
  simp only [Qdz]
  rw [Qiy,Qfo ho ha,Qfo ho hb];rfl
 | f + 1, a, b, σ, w, ho, ha, hb => by
  obtain ⟨x,c,h1,h2,h3,h4⟩:=ho.view ha
  obtain ⟨y,d,g1,g2,g3,g4⟩:=ho.view hb
  have hun:Qdz (f+1) a b (toU σ w)=if 400<w+1 then (false,toU σ (w+1)) else if c.k=0 then if d.k=0 then if x=y then (true,toU σ (w+1)) else (true,(toU σ (w+1)).bind (max x y) (min x y)) else Qqf x y (toU σ (w+1)) else if d.k=0 then Qqf y x (toU σ (w+1)) else QeE (Qdz f) x y (toU σ (w+1)):=by
   have kx:QbE (toU σ w).cs x=c.k:=by show QbE σ.cs x=_;unfold QbE;rw [h2]
   have ky:QbE (toU σ w).cs y=d.k:=by show QbE σ.cs y=_;unfold QbE;rw [g2]
   simp only [Qdz]
   rw [Qiy,Qfo ho ha]
   dsimp only
   rw [Qfo ho hb]
   dsimp only
   by_cases hw:400<w+1
   ·rw [if_pos (show (toU σ (w+1)).lg=true by simp [toU,hw]),if_pos hw]
   ·rw [if_neg (show¬(toU σ (w+1)).lg=true by simp [toU];omega),if_neg hw,if_neg hw,if_neg hw,h1.look,g1.look,kx,ky]
  rw [hun]
  by_cases hw:400<w+1
  ·rw [if_pos hw,show QeT (f+1) a b σ w=⟨false,σ,w+1⟩ from Qtx (A:=Qgq) hw]
   exact ⟨rfl,ho,rfl⟩
  rw [if_neg hw]
  by_cases hc:c.k=0
  ·have va:Qal σ a= .var x:=h4.trans (if_pos hc)
   rw [if_pos hc]
   by_cases hd:d.k=0
   ·have vb:Qal σ b= .var y:=g4.trans (if_pos hd)
    rw [if_pos hd]
    by_cases e:x=y
    ·subst e
     rw [if_pos rfl,show QeT (f+1) a b σ w=⟨true,σ,w+1⟩ from Qtw (A:=Qgq) hw va vb]
     exact ⟨rfl,ho,rfl⟩
    ·rw [if_neg e,show QeT (f+1) a b σ w=⟨true,QmF σ (max (Qw σ.cs a) (Qw σ.cs b)) (min (Qw σ.cs a) (Qw σ.cs b)),w+1⟩ from Qty (A:=Qgq) hw va vb e]
     have:=(QmG ho ha hb va vb e).1
     rw [h1.look,g1.look] at this⊢
     exact ⟨rfl,this,QiL _ _ _⟩
   ·have vb:=g4.trans (if_neg hd)
    rw [if_neg hd,show QeT (f+1) a b σ w=QoT x b σ (w+1) from Qx9 (A:=Qgq) hw va vb]
    refine ⟨?_,QvK ho ha va hb vb _⟩
    have:=QvI (c:=c) ho h2 hc hb (w+1)
    rw [g1.look] at this;exact this
  ·have va:=h4.trans (if_neg hc)
   rw [if_neg hc]
   by_cases hd:d.k=0
   ·have vb:Qal σ b= .var y:=g4.trans (if_pos hd)
    rw [if_pos hd,show QeT (f+1) a b σ w=QoT y a σ (w+1) from Qya (A:=Qgq) hw va vb]
    refine ⟨?_,QvK ho hb vb ha va _⟩
    have:=QvI (c:=d) ho g2 hd ha (w+1)
    rw [h1.look] at this;exact this
   ·have vb:=g4.trans (if_neg hd)
    rw [if_neg hd]
    obtain ⟨a1,a2⟩:=QiV ho.gl h2
    obtain ⟨b1,b2⟩:=QiV ho.gl g2
    have hgc:=Q4 (QaM ho.gl h2)
    have hgd:=Q4 (QaM ho.gl g2)
    have hiff:(c.k=d.k∧ctl c=ctl d∧c.s=d.s∧(ups (x+1) (QU c).toNat).length=(ups (y+1) (QU d).toNat).length)↔c=d:=by
     rw [Qph,Qph]
     clear va vb h4 g4 h1 g1 h2 g2 h3 g3 a1 b1 hun
     obtain ⟨ck,cn,cs⟩:=c
     obtain ⟨dk,dn,ds⟩:=d
     simp only [HC.mk.injEq,ctl,QU] at*
     constructor
     ·rintro ⟨e1,e2,e3,e4⟩
      subst e1
      refine ⟨rfl,?_,e3⟩
      split at e4<;>simp_all<;>omega
     ·rintro ⟨rfl,rfl,rfl⟩
      exact ⟨rfl,rfl,rfl,rfl⟩
    unfold QeE
    by_cases hcd:c=d
    ·have he:hat (toU σ (w+1)).cs x=hat (toU σ (w+1)).cs y:=by show hat σ.cs x=hat σ.cs y;rw [h2,g2,hcd]
     rw [if_pos he,show QeT (f+1) a b σ w=Qiq (QeT f) (ups (x+1) (QU c).toNat) (ups (y+1) (QU d).toNat) σ (w+1) from Qyc (A:=Qgq) hw va vb (hiff.2 hcd)]
     have hargs:QaZ (toU σ (w+1)).cs x=(QU c).toNat:=by show QaZ σ.cs x=_;unfold QaZ;rw [h2]
     rw [hargs,←hcd]
     rw [←hcd] at b1 b2
     exact QvT σ.cs.length (fun p q τ w' hτ hn hp hq=>by
      obtain ⟨i1,i2,i3⟩:=Qtr f p q τ w' hτ hp hq
      exact ⟨i1,i2,i3.trans hn⟩) _ _ _ _ _ ho rfl fun i i0 i1=>by
       have p1:=Qq.1 (a1 i i0 Ya)
       have p2:=Qq.1 (b1 i i0 Ya)
       omega
    ·have he:¬hat (toU σ (w+1)).cs x=hat (toU σ (w+1)).cs y:=by
      show¬hat σ.cs x=hat σ.cs y
      rw [h2,g2];exact fun e=>hcd (Option.some.inj e)
     rw [if_neg he,show QeT (f+1) a b σ w=⟨false,σ,w+1⟩ from Qyb (A:=Qgq) hw va vb fun h=>hcd (hiff.1 h)]
     exact ⟨rfl,ho,rfl⟩
theorem Qrf {h:HH} {g g':Int→Nat→Option (Tm×Nat)} (hg:∀x l,Qo h.cs x=true→g x l=g' x l):∀(m:Nat) (x:Int) (l:Nat),(∀i:Int,0≤i→i<m→Qo h.cs (x+i)=true)→QeJ g m x l=QdB g' (ups x m) l
 |0,x,l,_=>rfl
 |m+1,x,l,hd=>by
  have h0:=hd 0 Ya Ya
  rw [show x+0=x by omega] at h0
  simp only [QeJ,ups,QdB]
  rw [hg x l h0]
  cases g' x l with
  |none=>rfl
  |some p=>
   obtain ⟨t,l'⟩:=p
   simp only [Option.bind_some]
   rw [Qrf hg m (x+1) l' fun i i0 i1=>by rw [show x+1+i=x+(i+1) by omega];exact hd _ Ya Ya]
   cases QdB g' (ups (x+1) m) l'<;>rfl
theorem Qxr {h:HH} (ho:HOk h):∀(f:Nat) (a:Int) (l:Nat),Qo h.cs a=true→Qh1 h.cs f a l=Qko h f a l
 |0,a,l,_=>rfl
 |f+1,a,l,ha=>by
  by_cases hl:l=0
  ·subst hl
   rw [show Qko h (f+1) a 0=none from QoX (A:=Qgq)]
   simp [Qh1]
  obtain ⟨x,c,h1,h2,h3,h4⟩:=ho.view ha
  rw [Qma hl (by rw [h1.look];exact h2),h1.look]
  have hgc:=Q4 (QaM ho.gl h2)
  by_cases hk:c.k=0
  ·rw [if_pos hk]
   exact (QiW (A:=Qgq) hl (h4.trans (if_pos hk))).symm
  have hv:=h4.trans (if_neg hk)
  rw [if_neg hk,show Qko h (f+1) a l=(QdB (Qko h f) (ups (x+1) (QU c).toNat) (l-1)).map fun p=>(⟨c.k,ctl c,c.s,p.1⟩,p.2) from Qg9 (A:=Qgq) hl hv]
  by_cases k1:c.k=1
  ·rw [if_pos k1]
   have e1:QU c=0:=by unfold QU;rw [if_neg Ya]
   have e2:ctl c=0:=by unfold ctl;rw [if_neg Ya];omega
   simp only [e1,e2,k1,Int.toNat_zero,ups,QdB,Option.map_some]
  by_cases k2:c.k=2
  ·rw [if_neg k1,if_pos k2]
   have e1:QU c=0:=by unfold QU;rw [if_neg Ya]
   have e2:ctl c=c.n:=by unfold ctl;rw [if_neg Ya]
   have e3:c.s=eS:=by
    rcases hgc with h|h|h|h
    ·omega
    ·omega
    ·exact h.2
    ·omega
   simp only [e1,e2,k2,e3,Int.toNat_zero,ups,QdB,Option.map_some]
  rw [if_neg k1,if_neg k2]
  have k3:c.k=3:=by omega
  have e2:ctl c=0:=by unfold ctl;rw [if_pos k3]
  obtain ⟨g1,g2⟩:=QiV ho.gl h2
  rw [Qrf (fun y l hy=>Qxr ho f y l hy) _ _ _ fun i i0 i1=>g1 i i0 Ya,e2,k3]
def QeD (k n:Int) (s:ByteArray):HC:=if k=0 then ⟨0,n,eS⟩ else if k=2 then ⟨2,n,eS⟩ else ⟨1,0,s⟩
def Qcf:Ts→Nat→List HC×List HC
 | .nil,_=>([],[])
 | .cons k n s ar r,p=>
  if k = 3 then
   (⟨0,(p:Nat),eS⟩::(Qcf r (p+(((Qcf ar (p+1+ar.length)).1++(Qcf ar (p+1+ar.length)).2).length+1))).1,
     (⟨3,(ar.length:Nat),s⟩::((Qcf ar (p+1+ar.length)).1++(Qcf ar (p+1+ar.length)).2))++(Qcf r (p+(((Qcf ar (p+1+ar.length)).1++(Qcf ar (p+1+ar.length)).2).length+1))).2)
  else (QeD k n s::(Qcf r p).1,(Qcf r p).2)
def Qon (s:ByteArray) (ar:Ts) (p:Nat):List HC:=⟨3,(ar.length:Nat),s⟩::((Qcf ar (p+1+ar.length)).1++(Qcf ar (p+1+ar.length)).2)
def Qc1 (k n:Int) (s:ByteArray) (ar:Ts) (p:Nat):List HC:=if k=3 then Qon s ar p else [QeD k n s]
def Qa5:Ts→Nat→List HC×List Int
 | .nil,_=>([],[])
 | .cons k n s ar r,p=>(Qc1 k n s ar p++(Qa5 r (p+(Qc1 k n s ar p).length)).1,(p:Nat)::(Qa5 r (p+(Qc1 k n s ar p).length)).2)
def QdI:Nat→Nat→List HC
 |0,_=>[]
 |m+1,i=>⟨0,(i:Nat),eS⟩::QdI m (i+1)
def QcP (n:Nat):List HC:=QdI n 0
theorem QeS:∀m i,(QdI m i).length=m
 |0,_=>rfl
 |m+1,i=>by simp [QdI,QeS m (i+1)]
theorem QaA (n:Nat):(QcP n).length=n:=QeS n 0
theorem Qnh:∀m i j,j<m→(QdI m i)[j]?=some ⟨0,((i+j:Nat):Int),eS⟩
 |0,_,_,h=>by omega
 |m+1,i,0,h=>by simp [QdI]
 |m+1,i,j+1,h=>by
  have:=Qnh m (i+1) j Ya
  rw [show i+(j+1)=i+1+j by omega]
  simpa [QdI] using this
theorem Qto {n j:Nat} (h:j<n):(QcP n)[j]?=some ⟨0,(j:Nat),eS⟩:=by
 have:=Qnh n 0 j h
 rwa [Nat.zero_add] at this
theorem QkV:∀m i,QdI (m+1) i=QdI m i++[⟨0,((i+m:Nat):Int),eS⟩]
 |0,i=>by simp [QdI]
 |m+1,i=>by
  rw [QdI,QkV m (i+1),QdI]
  rw [show i+1+m=i+(m+1) by omega];rfl
theorem Qdr (n:Int) (s:ByteArray) (ar r:Ts) (p:Nat):Qcf (.cons 3 n s ar r) p=(⟨0,(p:Nat),eS⟩::(Qcf r (p+(Qon s ar p).length)).1,Qon s ar p++(Qcf r (p+(Qon s ar p).length)).2):=by
 rw [Qcf,if_pos rfl];rfl
theorem Qb8 {k:Int} (n:Int) (s:ByteArray) (ar r:Ts) (p:Nat) (h:k≠3):Qcf (.cons k n s ar r) p=(QeD k n s::(Qcf r p).1,(Qcf r p).2):=by
 rw [Qcf,if_neg h]
theorem Qda (T:Ts):∀p,(Qcf T p).1.length=T.length:=by
 induction T with
 |nil=>intro p;rfl
 |cons k n s ar r _ ih=>
  intro p
  by_cases h:k=3
  ·subst h;rw [Qdr];simp [Ts.length,ih]
  ·rw [Qb8 _ _ _ _ _ h];simp [Ts.length,ih]
theorem QfB (s:ByteArray) (ar:Ts) (p:Nat):(Qon s ar p).length=1+ar.length+(Qcf ar (p+1+ar.length)).2.length:=by
 simp only [Qon,List.length_cons,List.length_append,Qda];omega
theorem Qrk (D R:Ts):∀p,Qcf (D.app R) p=((Qcf D p).1++(Qcf R (p+(Qcf D p).2.length)).1,(Qcf D p).2++(Qcf R (p+(Qcf D p).2.length)).2):=by
 induction D with
 |nil=>intro p;simp [Ts.app,Qcf]
 |cons k n s ar r _ ih=>
  intro p
  by_cases h:k=3
  ·subst h
   rw [Ts.app,Qdr,Qdr,ih]
   simp only [List.length_append,List.cons_append,List.append_assoc,Nat.add_assoc]
  ·rw [Ts.app,Qb8 _ _ _ _ _ h,Qb8 _ _ _ _ _ h,ih]
   simp only [List.cons_append]
theorem QuZ (T:Ts):∀p,(Qcf T p).2.length+T.length≤2*T.nodes:=by
 induction T with
 |nil=>intro p;simp [Qcf,Ts.length,Ts.nodes]
 |cons k n s ar r iha ihr=>
  intro p
  by_cases h:k=3
  ·subst h
   rw [Qdr]
   have h1:=iha (p+1+ar.length)
   have h2:=ihr (p+(Qon s ar p).length)
   have h3:=QfB s ar p
   simp only [List.length_append,Ts.length,Ts.nodes];omega
  ·rw [Qb8 _ _ _ _ _ h]
   have h2:=ihr p
   simp only [Ts.length,Ts.nodes];omega
theorem QpS (k n:Int) (s:ByteArray) (ar:Ts) (p:Nat):(Qc1 k n s ar p).length≤1+2*ar.nodes:=by
 unfold Qc1
 split
 ·have:=QuZ ar (p+1+ar.length)
  rw [QfB];omega
 ·simp
theorem Qrj (D R:Ts):∀p,Qa5 (D.app R) p=((Qa5 D p).1++(Qa5 R (p+(Qa5 D p).1.length)).1,(Qa5 D p).2++(Qa5 R (p+(Qa5 D p).1.length)).2):=by
 induction D with
 |nil=>intro p;simp [Ts.app,Qa5]
 |cons k n s ar r _ ih=>
  intro p
  simp only [Ts.app,Qa5,ih,List.length_append,List.cons_append,List.append_assoc,Nat.add_assoc]
theorem Qmz (T:Ts):∀p,(Qa5 T p).1.length≤2*T.nodes:=by
 induction T with
 |nil=>intro p;simp [Qa5]
 |cons k n s ar r iha ihr=>
  intro p
  have h1:=QpS k n s ar p
  have h2:=ihr (p+(Qc1 k n s ar p).length)
  simp only [Qa5,List.length_append,Ts.nodes];omega
theorem Qmy (T:Ts):∀p,(Qa5 T p).2.length=T.length:=by
 induction T with
 |nil=>intro p;rfl
 |cons k n s ar r iha ihr=>intro p;simp only [Qa5,List.length_cons,ihr,Ts.length]
def QB (c:Cl):List HC:=QcP c.vars.toNat++(Qc1 c.k c.n c.s c.hd c.vars.toNat++(Qa5 c.bd (c.vars.toNat+(Qc1 c.k c.n c.s c.hd c.vars.toNat).length)).1)
def QaT (c:Cl):List Int:=(Qa5 c.bd (c.vars.toNat+(Qc1 c.k c.n c.s c.hd c.vars.toNat).length)).2
def QaC (vars:Int) (T:Ts):List HC:=QcP vars.toNat++(Qa5 T vars.toNat).1
def QbX (vars:Int) (T:Ts):List Int:=(Qa5 T vars.toNat).2
theorem Ts.goals_nodes (vars:Int):∀T:Ts,T.goals vars=true→T.nodes≤24*T.length
 | .nil,_=>by simp [Ts.nodes]
 | .cons k n s ar r,h=>by
  simp only [Ts.goals,Bool.and_eq_true,gB,decide_eq_true_eq] at h
  have:=Ts.goals_nodes vars r h.2
  simp only [Ts.nodes,Ts.length];omega
structure XL where
 g:Int
 o:Nat
 nx:Int
structure XC where
 at_:Nat
 cls:List Cl
 cells:Nat
 bound:Nat
structure XS where
 h:HH
 goals:Nat
 ln:List XL
 first:Int
 ch:List XC
 ev:List Ts
def lnk (L:List XL) (i:Nat):XL:=L.getD i ⟨0,0, -1⟩
def Qc3 (start:Nat) (o:Nat):List Int→Int→List XL→List XL×Int
 |[],nx,L=>(L,nx)
 |g::r,nx,L=>((Qc3 start o r nx L).1++[⟨start+g,o,(Qc3 start o r nx L).2⟩],((Qc3 start o r nx L).1.length:Nat))
def Qfg (h:HH) (b:Cl) (g:Int):HH×Bool×Int:=Qaf (Qas h (QB b)).1 ((Qas h (QB b)).2.1+b.vars) g
def XS.took (s:XS) (a:Nat) (b:Cl) (more:List Cl) (cells bound:Nat):XS:=
 ⟨(Qfg s.h b (lnk s.ln a).g).1,s.goals,(Qc3 (Qas s.h (QB b)).2.1 s.ch.length (QaT b) (lnk s.ln a).nx s.ln).1,(Qc3 (Qas s.h (QB b)).2.1 s.ch.length (QaT b) (lnk s.ln a).nx s.ln).2,
   match more with|[]=>s.ch|_::_=>⟨a,more,cells,bound⟩::s.ch,s.ev⟩
def Qs6 (k:XS→Int×XS) (a cells bound:Nat):List Cl→XS→Int×XS
 |[],s=>k s
 |b::more,s=>
  if (Qfg s.h b (lnk s.ln a).g).2.2≠0 then (4,s)
  else if (Qfg s.h b (lnk s.ln a).g).2.1=false then Qs6 k a cells bound more s
  else (0,s.took a b more cells bound)
def XS.back (s:XS) (c:XC) (cs:List XC):XS:=⟨(QoM (QdJ s.h (c.bound:Nat)).1 (c.cells:Nat)).1,s.goals,s.ln,s.first,cs,s.ev⟩
def Qlk:List XC→XS→Int×XS
 |[],s=>(2,s)
 |c::cs,s=>Qs6 (Qlk cs) c.at_ c.cells c.bound c.cls (s.back c cs)
def Qfm (s:XS):Int×XS:=Qlk s.ch s
def XS.setH (s:XS) (h:HH):XS:=⟨h,s.goals,s.ln,s.first,s.ch,s.ev⟩
def Qg0 (a b:Int) (s:XS):Int×XS:=
 if (Qaf s.h a b).2.2≠0 then (4,s.setH (Qaf s.h a b).1)
 else if (Qaf s.h a b).2.1=false then Qfm (s.setH (Qaf s.h a b).1)
 else (0,s.setH (Qaf s.h a b).1)
def Qah (h:HH) (a:Int):HC:=(hat h.cs (Qw h.cs a)).getD ⟨0,0,eS⟩
def QpR (a:Int) (s:XS):Int×XS:=
 if (Qah s.h a).k≠2∨(Qah s.h (a+1)).k≠2 then (5,s) else if (Qah s.h (a+1)).n≤(Qah s.h a).n then Qfm s else (0,s)
def QyZ (a:Int) (s:XS):Int×XS:=
 if (Qah s.h a).k≠2∨(Qah s.h (a+1)).k≠2 then (5,s)
 else if (Qah s.h a).n+(Qah s.h (a+1)).n< -1099511627776∨1099511627776<(Qah s.h a).n+(Qah s.h (a+1)).n then (5,s)
 else Qg0 (a+2) (Qas s.h [⟨2,(Qah s.h a).n+(Qah s.h (a+1)).n,eS⟩]).2.1 (s.setH (Qas s.h [⟨2,(Qah s.h a).n+(Qah s.h (a+1)).n,eS⟩]).1)
def Qb0 (h:HH) (g:Int):HC:=(hat h.cs g).getD ⟨0,0,eS⟩
def Qg6 (l:XL) (s:XS):Int×XS:=
 if (Qb0 s.h l.g).s.toList=[33] then (0,⟨s.h,s.goals,s.ln,s.first,s.ch.drop (s.ch.length-l.o),s.ev⟩)
 else if (Qb0 s.h l.g).s.toList=[116,114,117,101] then (0,s)
 else if (Qb0 s.h l.g).s.toList=[101,113] then Qg0 (l.g+1) (l.g+1+1) s
 else if (Qb0 s.h l.g).s.toList=[108,101,115,115] then QpR (l.g+1) s
 else if (Qb0 s.h l.g).s.toList=[97,100,100] then QyZ (l.g+1) s
 else Qfm s
def Qdj (h:HH):Nat→Nat→Int→Option (Ts×Int)
 |0,_,l=>some (.nil,l)
 |m+1,v,l=>if (QbZ h (v:Nat) l).2.2≠0 then none else match Qdj h m (v+1) (l-((QbZ h (v:Nat) l).2.1:Nat)) with
  |none=>none
  |some (T,l'')=>some (.cons (QbZ h (v:Nat) l).1.k (QbZ h (v:Nat) l).1.n (QbZ h (v:Nat) l).1.s (QbZ h (v:Nat) l).1.ar T,l'')
def XS.tell (s:XS) (T:Ts):XS:=⟨s.h,s.goals,s.ln,s.first,s.ch,s.ev++[T.tidy]⟩
def QdR (vars:Nat) (s:XS):Int×XS:=match Qdj s.h vars 0 200 with
 |none=>(4,s)
 |some (T,_)=>if s.ev.length+1=12 then (6,s.tell T) else Qfm (s.tell T)
def Qj3 (c:Cl):HC:=if c.k=3 then ⟨3,(c.hd.length:Nat),c.s⟩ else QeD c.k c.n c.s
def QmR (p:List Cl) (a:Nat) (s:XS):Int×XS:=match p.filter (fun c=>decide (Qj3 c=Qb0 s.h (lnk s.ln a).g)) with
 |[]=>(5,s)
 |b::more=>Qs6 (Qlk s.ch) a s.h.cs.length s.h.tr.length (b::more) s
def QaY (L:List XL):Nat→Int→List Bool×List Nat→List Bool×List Nat
 |0,_,p=>p
 |f+1,i,p=>if i= -1 then p else if p.1[i.toNat]?=some true then p else QaY L f (lnk L i.toNat).nx (p.1.set i.toNat true,p.2++[i.toNat])
def QcX (L:List XL):List XC→List Bool×List Nat→List Bool×List Nat
 |[],p=>p
 |c::r,p=>QcX L r (QaY L (L.length+1) (c.at_:Nat) p)
def QcK (s:XS):List Nat:=(QcX s.ln s.ch.reverse (QaY s.ln (s.ln.length+1) s.first (List.replicate s.ln.length false,[]))).2
def Qtd (L:List XL) (i:Nat) (g:Int):List XL:=L.modify i fun l=>⟨g,l.o,l.nx⟩
def QeH:List Nat→List Int→List XL→List XL
 |i::r,g::q,L=>QeH r q (Qtd L i g)
 |_,_,L=>L
def Qww:List XC→List Int→List Int→List XC
 |c::r,t::T,k::K=>⟨c.at_,c.cls,t.toNat,k.toNat⟩::Qww r T K
 |L,_,_=>L
def Qab (vars:Nat) (s:XS):List Int:=((List.range vars).map fun v=>((v:Nat):Int))++(QcK s).map fun i=>(lnk s.ln i).g
noncomputable def Qki (vars:Nat) (s:XS):XS:=
 let r:=Qcb s.h (Qab vars s) (s.ch.reverse.map fun c=>((c.cells:Nat):Int)) (s.ch.reverse.map fun c=>((c.bound:Nat):Int))
 ⟨r.1,s.goals,QeH (QcK s) (r.2.1.drop vars) s.ln,s.first,(Qww s.ch.reverse r.2.2.1 r.2.2.2.1).reverse,s.ev⟩
noncomputable def QT (vars every:Nat) (s:XS):XS:=if 0<every∧s.goals%every=0 then Qki vars s else s
noncomputable def Qby (p:List Cl) (vars fuel every:Nat) (s:XS):Int×XS:=
 if s.first= -1 then QdR vars s
 else if s.goals=fuel then (3,s)
 else
  let t:=QT vars every s
  let u:XS:=⟨t.h,t.goals+1,t.ln,(lnk t.ln t.first.toNat).nx,t.ch,t.ev⟩
  if Q1 (Qb0 u.h (lnk u.ln t.first.toNat).g).s.toList (Qb0 u.h (lnk u.ln t.first.toNat).g).n.toNat=true then Qg6 (lnk u.ln t.first.toNat) u else QmR p t.first.toNat u
noncomputable def Qwy (p:List Cl) (vars fuel every:Nat):Nat→XS→List Ev
 |0,_=>[]
 |n+1,s=>if (Qby p vars fuel every s).1=0 then Qwy p vars fuel every n (Qby p vars fuel every s).2 else Qdc (Qby p vars fuel every s).2.ev++[((Qby p vars fuel every s).1,.nil)]
def QeY (q:Ts) (vars:Int):XS:=
 ⟨(Qas ⟨[],[]⟩ (QaC vars q)).1,0,(Qc3 (Qas ⟨[],[]⟩ (QaC vars q)).2.1 0 (QbX vars q) (-1) []).1,(Qc3 (Qas ⟨[],[]⟩ (QaC vars q)).2.1 0 (QbX vars q) (-1) []).2,[],[]⟩
theorem QsO {n f f':Nat} {c:HC} (hf:f≤f') (h:Qau n c f=true):Qau n c f'=true:=by
 rcases Q4 h with ⟨k,a,b,s⟩|⟨k,a,s⟩|⟨k,s⟩|⟨k,a,b,d,s⟩
 ·unfold Qau;rw [if_pos k];simp [a,b,s]
 ·unfold Qau;rw [if_neg Ya,if_pos k];simp [a,s]
 ·unfold Qau;rw [if_neg Ya,if_neg Ya,if_pos k];simp [s]
 ·unfold Qau;rw [if_neg Ya,if_neg Ya,if_neg Ya,if_pos k]
  simp only [Bool.and_eq_true,decide_eq_true_eq,Bool.not_eq_true',decide_eq_false_iff_not]
  exact ⟨a,b,by omega,s⟩
theorem Qb9 {n:Nat} {Y:List HC} (hY:Q2 n Y=true):∀{X:List HC},Q2 n X=true→Q2 n (X++Y)=true
 |[],_=>hY
 |c::r,h=>by
  simp only [Q2,Bool.and_eq_true,List.cons_append] at h⊢
  exact ⟨QsO Yd h.1,Qb9 hY h.2⟩
theorem Qn8 {s:ByteArray} (h:QbO s=true):s≠eS:=by
 intro e;subst e;exact absurd h Yf
theorem QqI {s:ByteArray} (h:s.toList=[]):s=eS:=by
 apply QkY.1;rw [h];kernel_rfl
theorem Qfv {vars k n:Int} {s:ByteArray} {l:Nat} (h:QaH vars k n s l=true):(k=0∧0≤n∧n<vars∧s=eS∧l=0)∨(k=1∧n=0∧s≠eS∧l=0)∨(k=2∧s=eS∧l=0)∨(k=3∧n=0∧s≠eS∧1≤l∧l≤4):=by
 unfold QaH at h
 split at h
 ·simp only [Bool.and_eq_true,decide_eq_true_eq] at h
  exact .inl ⟨‹_›,h.1.1.1,h.1.1.2,QqI h.1.2,h.2⟩
 split at h
 ·simp only [Bool.and_eq_true,decide_eq_true_eq] at h
  exact .inr (.inl ⟨‹_›,h.1.1,Qn8 h.1.2,h.2⟩)
 split at h
 ·simp only [Bool.and_eq_true,decide_eq_true_eq] at h
  exact .inr (.inr (.inl ⟨‹_›,QqI h.1.2,h.2⟩))
 split at h
 ·simp only [Bool.and_eq_true,decide_eq_true_eq] at h
  exact .inr (.inr (.inr ⟨‹_›,h.1.1.1.1,Qn8 h.1.1.1.2,h.1.2,h.2⟩))
 ·cases h
theorem QcL {vars k n:Int} {s:ByteArray} {ar r:Ts} (h:(Ts.cons k n s ar r).good vars=true):QaH vars k n s ar.length=true∧ar.good vars=true∧r.good vars=true:=by
 simp only [Ts.good,Bool.and_eq_true] at h
 exact ⟨h.1.1,h.1.2,h.2⟩
theorem Ts.good_ap (v:Int) (D R:Ts):(D.app R).good v=(D.good v&&R.good v):=by
 induction D with
 |nil=>rfl
 |cons k n b ar r _ ih=>simp only [Ts.app,Ts.good,ih,Bool.and_assoc]
theorem Qj8 {n f:Nat} {i:Int} (h0:0≤i) (h:i<n):Qau n ⟨0,i,eS⟩ f=true:=by unfold Qau;simp [h,h0]
theorem QlM {n f:Nat} {s:ByteArray} (h:s≠eS):Qau n ⟨1,0,s⟩ f=true:=by unfold Qau;simp [h]
theorem Qoz {n f:Nat} {i:Int}:Qau n ⟨2,i,eS⟩ f=true:=by unfold Qau;simp
theorem Qj9 {n f l:Nat} {s:ByteArray} (h:s≠eS) (h1:1≤l) (h2:l≤4) (h3:l≤f):Qau n ⟨3,(l:Nat),s⟩ f=true:=by
 unfold Qau;simp [h];omega
theorem Qu0 {vars:Int} {all:Nat} (hv:vars≤all) (T:Ts):∀p,T.good vars=true→p+(Qcf T p).2.length≤all→Q2 all (Qcf T p).1=true∧Q2 all (Qcf T p).2=true:=by
 induction T with
 |nil=>intro p _ _;exact ⟨rfl,rfl⟩
 |cons k n s ar r iha ihr=>
  intro p hg hp
  obtain ⟨hn,ha,hr⟩:=QcL hg
  rcases Qfv hn with ⟨rfl,h0,h1,h2,h3⟩|⟨rfl,h0,h1,h2⟩|⟨rfl,h0,h1⟩|⟨rfl,h0,h1,h2,h3⟩
  ·rw [Qb8 _ _ _ _ _ Yf] at hp⊢
   obtain ⟨i1,i2⟩:=ihr p hr hp
   refine ⟨?_,i2⟩
   simp only [Q2,Bool.and_eq_true]
   exact ⟨Qj8 h0 Ya,i1⟩
  ·rw [Qb8 _ _ _ _ _ Yf] at hp⊢
   obtain ⟨i1,i2⟩:=ihr p hr hp
   refine ⟨?_,i2⟩
   simp only [Q2,Bool.and_eq_true]
   exact ⟨QlM h1,i1⟩
  ·rw [Qb8 _ _ _ _ _ Yf] at hp⊢
   obtain ⟨i1,i2⟩:=ihr p hr hp
   refine ⟨?_,i2⟩
   simp only [Q2,Bool.and_eq_true]
   exact ⟨Qoz,i1⟩
  ·rw [Qdr] at hp⊢
   have hls:=QfB s ar p
   simp only [List.length_append] at hp
   obtain ⟨a1,a2⟩:=iha (p+1+ar.length) ha Ya
   obtain ⟨i1,i2⟩:=ihr (p+(Qon s ar p).length) hr Ya
   refine ⟨?_,Qb9 i2 ?_⟩
   ·simp only [Q2,Bool.and_eq_true]
    exact ⟨Qj8 Ya Ya,i1⟩
   ·unfold Qon
    simp only [Q2,Bool.and_eq_true]
    exact ⟨Qj9 h1 h2 h3 (by rw [List.length_append,Qda];omega),Qb9 a2 a1⟩
theorem Qop {vars k n:Int} {s:ByteArray} {ar:Ts} {all p:Nat} (hv:vars≤all) (h:gB vars k n s ar=true) (hp:p+(Qc1 k n s ar p).length≤all):Q2 all (Qc1 k n s ar p)=true:=by
 simp only [gB,Qeu,Bool.and_eq_true,Bool.or_eq_true,decide_eq_true_eq] at h
 obtain ⟨hn,ha,_⟩:=QcL h.1.2
 rcases Qfv hn with ⟨rfl,_⟩|⟨rfl,h0,h1,h2⟩|⟨rfl,_⟩|⟨rfl,h0,h1,h2,h3⟩
 ·rcases h.1.1 with h|h<;>omega
 ·unfold Qc1
  rw [if_neg Yf]
  simp only [Q2,Bool.and_eq_true,and_true]
  exact QlM h1
 ·rcases h.1.1 with h|h<;>omega
 ·unfold Qc1 at hp⊢
  rw [if_pos rfl] at hp⊢
  have hls:=QfB s ar p
  obtain ⟨a1,a2⟩:=Qu0 hv ar (p+1+ar.length) ha Ya
  unfold Qon
  simp only [Q2,Bool.and_eq_true]
  exact ⟨Qj9 h1 h2 h3 (by rw [List.length_append,Qda];omega),Qb9 a2 a1⟩
theorem Qoo {vars:Int} {all:Nat} (hv:vars≤all) (T:Ts):∀p,T.goals vars=true→p+(Qa5 T p).1.length≤all→Q2 all (Qa5 T p).1=true:=by
 induction T with
 |nil=>intro p _ _;rfl
 |cons k n s ar r _ ihr=>
  intro p hg hp
  simp only [Ts.goals,Bool.and_eq_true] at hg
  simp only [Qa5,List.length_append] at hp⊢
  exact Qb9 (ihr _ hg.2 Ya) (Qop hv hg.1 Ya)
theorem Qho {all:Nat}:∀m i,i+m≤all→Q2 all (QdI m i)=true
 |0,i,_=>rfl
 |m+1,i,h=>by
  simp only [QdI,Q2,Bool.and_eq_true]
  exact ⟨Qj8 Ya Ya,Qho m (i+1) Ya⟩
theorem Qii {c:Cl} (h:cB c=true):0≤c.vars∧c.vars≤8∧c.bd.length≤5∧c.bd.goals c.vars=true∧gB c.vars c.k c.n c.s c.hd=true:=by
 simp only [cB,qB,Bool.and_eq_true,decide_eq_true_eq] at h
 exact ⟨h.1.1.1.1.1,h.1.1.1.1.2,h.1.1.1.2,h.1.1.2,h.1.2⟩
theorem Qrw {vars k n:Int} {s:ByteArray} {ar:Ts} (h:gB vars k n s ar=true):ar.nodes+1≤24:=by
 simp only [gB,Bool.and_eq_true,decide_eq_true_eq] at h
 exact h.2
theorem Qeb {c:Cl} (h:cB c=true):(QB c).length≤300:=by
 obtain ⟨h0,h1,h2,h3,h4⟩:=Qii h
 have h5:=Qrw h4
 have h6:=Ts.goals_nodes _ _ h3
 have h7:=QpS c.k c.n c.s c.hd c.vars.toNat
 have h8:=Qmz c.bd (c.vars.toNat+(Qc1 c.k c.n c.s c.hd c.vars.toNat).length)
 simp only [QB,List.length_append,QaA]
 omega
theorem Qkl {c:Cl} (h:cB c=true):Qat (QB c)=true:=by
 obtain ⟨h0,h1,h2,h3,h4⟩:=Qii h
 have hl:=Qeb h
 unfold Qat
 simp only [Bool.and_eq_true,decide_eq_true_eq]
 refine ⟨by omega,?_⟩
 have he:(QB c).length=c.vars.toNat+((Qc1 c.k c.n c.s c.hd c.vars.toNat).length+(Qa5 c.bd (c.vars.toNat+(Qc1 c.k c.n c.s c.hd c.vars.toNat).length)).1.length):=by
  simp only [QB,List.length_append,QaA]
 unfold QB
 refine Qb9 (Qb9 (Qoo (vars:=c.vars) (by unfold QB at he;omega) _ _ h3 (by unfold QB at he;omega)) (Qop (vars:=c.vars) (by unfold QB at he;omega) h4 (by unfold QB at he;omega))) (Qho _ _ (by unfold QB at he;omega))
def Qnb (L:List HC) (base:Nat) (q:Nat) (X:List HC):Prop:=∀i c,X[i]?=some c→hat L ((base+(q+i):Nat):Int)=some (Qaj base c)
theorem Qnb.app {L:List HC} {base q:Nat} {X Y:List HC} (h:Qnb L base q (X++Y)):Qnb L base q X∧Qnb L base (q+X.length) Y:=by
 refine ⟨fun i c hi=>h i c ?_,fun i c hi=> ?_⟩
 ·rw [List.getElem?_append_left]
  ·exact hi
  ·rcases Nat.lt_or_ge i X.length with hl|hl
   ·exact hl
   ·rw [List.getElem?_eq_none hl] at hi;cases hi
 ·have:=h (X.length+i) c (by rw [List.getElem?_append_right Ya];simpa using hi)
  rw [show q+X.length+i=q+(X.length+i) by omega];exact this
theorem Qnb.head {L:List HC} {base q:Nat} {c:HC} {X:List HC} (h:Qnb L base q (c::X)):hat L ((base+q:Nat):Int)=some (Qaj base c)∧Qnb L base (q+1) X:=by
 refine ⟨h 0 c rfl,fun i d hi=> ?_⟩
 rw [show q+1+i=q+(i+1) by omega]
 exact h (i+1) d (by simpa using hi)
def up (base:Nat) (n:Int):Int:=n+base
theorem Qfw {T:Ts} (h:T.length=0):T= .nil:=Ts.nil_of_length h
theorem QgP (h:HH) (B:List HC):Qnb (h.cs++B.map (Qaj h.cs.length)) h.cs.length 0 B:=by
 intro i c hi
 refine QbP.2 ⟨by omega,?_,?_⟩
 ·have:i<B.length:=by
   rcases Nat.lt_or_ge i B.length with hl|hl
   ·exact hl
   ·rw [List.getElem?_eq_none hl] at hi;cases hi
  simp;omega
 ·rw [show ((h.cs.length+(0+i):Nat):Int).toNat=h.cs.length+i by omega,List.getElem?_append_right Ya]
  simp [hi]
theorem QsN {n m f:Nat} {c:HC} (hn:n≤m) (h:Qau n c f=true):Qau m c f=true:=by
 rcases Q4 h with ⟨k,a,b,s⟩|⟨k,a,s⟩|⟨k,s⟩|⟨k,a,b,d,s⟩
 ·unfold Qau;rw [if_pos k];simp [a,s];omega
 ·unfold Qau;rw [if_neg Ya,if_pos k];simp [a,s]
 ·unfold Qau;rw [if_neg Ya,if_neg Ya,if_pos k];simp [s]
 ·unfold Qau;rw [if_neg Ya,if_neg Ya,if_neg Ya,if_pos k];simp [a,b,d,s]
theorem QlK {n m:Nat} (hn:n≤m):∀{L:List HC},Q2 n L=true→Q2 m L=true
 |[],_=>rfl
 |c::r,h=>by
  simp only [Q2,Bool.and_eq_true] at h⊢
  exact ⟨QsN hn h.1,QlK hn h.2⟩
theorem Qp1 {n m f base:Nat} {c:HC} (hn:base+n≤m) (h:Qau n c f=true):Qau m (Qaj base c) f=true:=by
 unfold Qaj
 split
 ·rename_i h0
  rcases Q4 h with ⟨k,a,b,s⟩|⟨k,a,s⟩|⟨k,s⟩|⟨k,a,b,d,s⟩
  ·unfold Qau;dsimp only;rw [if_pos h0];simp [s];omega
  ·omega
  ·omega
  ·omega
 ·rename_i h0
  rcases Q4 h with ⟨k,a,b,s⟩|⟨k,a,s⟩|⟨k,s⟩|⟨k,a,b,d,s⟩
  ·omega
  ·unfold Qau;rw [if_neg Ya,if_pos k];simp [a,s]
  ·unfold Qau;rw [if_neg Ya,if_neg Ya,if_pos k];simp [s]
  ·unfold Qau;rw [if_neg Ya,if_neg Ya,if_neg Ya,if_pos k];simp [a,b,d,s]
theorem Qj7 {n m base:Nat} (hn:base+n≤m):∀{L:List HC},Q2 n L=true→Q2 m (L.map (Qaj base))=true
 |[],_=>rfl
 |c::r,h=>by
  simp only [Q2,Bool.and_eq_true,List.map_cons,List.length_map] at h⊢
  exact ⟨Qp1 hn h.1,Qj7 hn h.2⟩
theorem QhC {h:HH} {K:List HC} (hg:QS h=true) (hk:Qat K=true) (hl:h.cs.length+K.length≤65536):QS ⟨h.cs++K.map (Qaj h.cs.length),h.tr⟩=true:=by
 simp only [QS,Qat,QcM,Bool.and_eq_true,decide_eq_true_eq,List.length_append,List.length_map] at hg hk⊢
 obtain ⟨⟨h1,h2⟩,h3,h4⟩:=hg
 refine ⟨⟨hl,Qb9 (Qj7 Ya hk.2) (QlK Ya h2)⟩,h3,?_⟩
 rw [List.all_eq_true] at h4⊢
 intro a ha
 have:=h4 a ha
 unfold QaW at this⊢
 cases hq:hat h.cs a with
 |none=>rw [hq] at this;cases this
 |some x=>
  rw [hq] at this
  obtain ⟨q0,q1,q2⟩:=QbP.1 hq
  have:hat (h.cs++K.map (Qaj h.cs.length)) a=some x:=QbP.2 ⟨q0,by simp;omega,by rw [List.getElem?_append_left Ya];exact q2⟩
  rw [this];assumption
theorem QpO {h:HH} {K:List HC} (hg:QS h=true) (hk:Qat K=true) (hl:h.cs.length+K.length≤65536):Qas h K=(⟨h.cs++K.map (Qaj h.cs.length),h.tr⟩,h.cs.length,0):=by
 unfold Qas;rw [hg,hk,if_neg Yf,if_neg Ya]
end Go.Proofs.YthliapbflkfdiacGreatDoor
