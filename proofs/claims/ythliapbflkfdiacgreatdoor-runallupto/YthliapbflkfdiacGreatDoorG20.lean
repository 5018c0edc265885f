/- HOne, HRun, HUndo, HTerm, HMark, XSys, CModel, XModel, CPure: texts that follow one another, laid into one file. -/
import Derived.Test.YthliapbflkfdiacGreatDoorZ0
import Derived.Test.YthliapbflkfdiacGreatDoorG19
import Derived.Test.YthliapbflkfdiacGreatDoorG3
import Derived.Test.YthliapbflkfdiacGreatDoorG4
import Derived.Test.YthliapbflkfdiacGreatDoorG2
namespace Go.Proofs.YthliapbflkfdiacGreatDoor
open Go.RowKit
set_option linter.unusedVariables false
set_option linter.unusedSimpArgs false
theorem Qru {u:HU} {a b:Int} (h:((u.step.look a).2.look b).2.lg=false):
  u.step.lg=false∧(u.step.look a).1=Qp u.cs a∧((u.step.look a).2.look b).1=Qp u.cs b∧End u.cs a (Qp u.cs a)∧End u.cs b (Qp u.cs b)∧((u.step.look a).2.look b).2.cs=u.cs∧((u.step.look a).2.look b).2.tr=u.tr∧((u.step.look a).2.look b).2.w=u.w+1:=by
 have hwa:=Qc6 u.step a;have hwb:=Qc6 (u.step.look a).2 b;obtain ⟨hla,hb1,hb2⟩:=Qcy h;obtain ⟨hls,ha1,ha2⟩:=Qcy hla;rw [hwa.2.1] at hb1 hb2;exact ⟨hls,ha1,hb1,Qjp ha2,Qjp hb2,by rw [hwb.2.1,hwa.2.1];rfl,by rw [hwb.2.2,hwa.2.2];rfl,by rw [hwb.1,hwa.1];rfl⟩
structure One (a b:Int) (u:HU) (v:HU):Prop where
 up:Up u.cs v.cs
 sm:∀L,Up v.cs L→Sm L a b
def ups (x:Int):Nat→List Int
 |0=>[]
 |m+1=>x::ups (x+1) m
theorem Qlo (x:Int) (m:Nat):(ups x m).length=m:=by
 induction m generalizing x with
 |zero=>rfl
 |succ m ih=>simp [ups,ih]
def Bd (N:List Int) (L L':List HC):Prop:=(∀r∈N,0≤r)∧∀i:Nat,((i:Int)∈N→∃c n,L[i]?=some c∧c.k=0∧c.n=(i:Int)∧L'[i]?=some ⟨c.k,n,c.s⟩)∧((i:Int)∉N→L'[i]?=L[i]?)
theorem Bd.refl (L:List HC):Bd [] L L:=⟨fun r h=>by simp at h,fun i=>⟨fun h=>by simp at h,fun _=>rfl⟩⟩
theorem Bd.trans {N N':List Int} {L L' L'':List HC} (h:Bd N L L') (g:Bd N' L' L''):Bd (N++N') L L'':=by
 refine ⟨fun r hr=>(List.mem_append.1 hr).elim (h.1 r) (g.1 r),fun i=>⟨fun hi=> ?_,fun hi=> ?_⟩⟩
 ·by_cases h1:(i:Int)∈N
  ·obtain ⟨c,n,c1,c2,c3,c4⟩:=(h.2 i).1 h1;by_cases h2:(i:Int)∈N'
   ·obtain ⟨d,m,d1,d2,d3,d4⟩:=(g.2 i).1 h2;rw [c4] at d1;cases d1;exact ⟨c,m,c1,c2,c3,d4⟩
   ·rw [←(g.2 i).2 h2] at c4;exact ⟨c,n,c1,c2,c3,c4⟩
  ·have h2:(i:Int)∈N':=by rcases List.mem_append.1 hi with h|h;exact absurd h h1;exact h
   obtain ⟨d,m,d1,d2,d3,d4⟩:=(g.2 i).1 h2;rw [(h.2 i).2 h1] at d1;exact ⟨d,m,d1,d2,d3,d4⟩
 ·rw [(g.2 i).2 (fun h'=>hi (List.mem_append_right _ h')),(h.2 i).2 (fun h'=>hi (List.mem_append_left _ h'))]
theorem Bd.one {L:List HC} {r y:Int} {c:HC} (hr:hat L r=some c) (hk:c.k=0) (hn:c.n=r):Bd [r] L (QdZ L r.toNat y):=by
 obtain ⟨r0,r1,r2⟩:=Qa7.1 hr;refine ⟨fun s hs=>by simp at hs;omega,fun i=>⟨fun hi=> ?_,fun hi=> ?_⟩⟩
 ·simp at hi;have e:r.toNat=i:=by omega
  rw [e] at r2⊢;exact ⟨c,y,r2,hk,by omega,by rw [Qf4,if_pos rfl,r2];rfl⟩
 ·simp at hi;rw [Qf4,if_neg Ya]
theorem Qgs:∀(N:List Int) (L:List HC),(∀r∈N,0≤r)→∀i:Nat,(Qbf L N)[i]?=if (i:Int)∈N then (L[i]?).map (fun c=>⟨c.k,i,c.s⟩) else L[i]?
 |[],L,_,i=>by simp [Qbf]
 | r :: N, L, h, i => by
  have r0:=h r Yd;unfold Qbf;rw [Qgs N _ (fun s hs=>h s (.tail _ hs)) i,Qf4];by_cases e:r.toNat=i
  ·have e2:(i:Int)=r:=by omega
   have hm:(i:Int)∈r::N:=by rw [e2];exact .head _
   rw [if_pos e,if_pos hm];by_cases h2:(i:Int)∈N
   ·rw [if_pos h2,Option.map_map];rfl
   ·rw [if_neg h2,e2]
  ·rw [if_neg e]
   have:(i:Int)∈r::N↔(i:Int)∈N:=by
    simp only [List.mem_cons];constructor
    ·rintro (h|h)
     ·omega
     ·exact h
    ·exact .inr
   simp only [this]
theorem Bd.undo {N:List Int} {L L':List HC} (h:Bd N L L'):Qbf L' N=L:=by
 refine List.ext_getElem? fun i=> ?_;rw [Qgs N L' h.1 i];by_cases hi:(i:Int)∈N
 ·rw [if_pos hi];obtain ⟨c,n,c1,c2,c3,c4⟩:=(h.2 i).1 hi;rw [c4,c1,Option.map_some,←c3]
 ·rw [if_neg hi];exact (h.2 i).2 hi
def Trl (u v:HU):Prop:=∃N,v.tr=u.tr++N∧Bd N u.cs v.cs
theorem Trl.same {u v:HU} (h1:v.cs=u.cs) (h2:v.tr=u.tr):Trl u v:=⟨[],by simp [h2],by rw [h1];exact Bd.refl _⟩
theorem Trl.trans {u v w:HU} (h:Trl u v) (g:Trl v w):Trl u w:=by
 obtain ⟨N,h1,h2⟩:=h;obtain ⟨N',g1,g2⟩:=g;exact ⟨N++N',by rw [g1,h1,List.append_assoc],h2.trans g2⟩
theorem Trl.bind {u v:HU} {r y:Int} {c:HC} (hr:hat u.cs r=some c) (hk:c.k=0) (hn:c.n=r) (h1:v.cs=QdZ u.cs r.toNat y) (h2:v.tr=u.tr++[r]):Trl u v:=⟨[r],h2,by rw [h1];exact Bd.one hr hk hn⟩
theorem QqE {n:Nat} {g:Int→Int→HU→Bool×HU} (hu:∀x y u,GU n u→u.lg=false→UU n u (g x y u)) (hg:∀x y u,GU n u→u.lg=false→Trl u (g x y u).2):
  ∀(m:Nat) (x y:Int) (u:HU),GU n u→u.lg=false→Trl u (Qhy g m x y u).2
 |0,x,y,u,h,hl=>Trl.same rfl rfl
 |m+1,x,y,u,h,hl=>by
  have h1:=hu x y u h hl;simp only [Qhy];split
  ·rename_i hok;exact (hg x y u h hl).trans (QqE hu hg m (x+1) (y+1) _ h1.gu (h1.ok hok))
  ·exact hg x y u h hl
theorem Qqt {n:Nat} {u:HU} (h:GU n u) {p q:Int} {x:HC} (hx:hat u.cs p=some x) (hxk:x.k=0) (hxe:x.n=p):Trl u (Qmd p q u).2:=by
 have ho:=Qki (n:=n) p 401 q u h.good h.wk;unfold Qmd;split
 ·exact Trl.same ho.cs ho.tr
 ·exact Trl.bind hx hxk hxe (by simp only [HU.bind];rw [ho.cs]) (by simp only [HU.bind];rw [ho.tr])
theorem QoM {n:Nat}:∀(f:Nat) (a b:Int) (u:HU),GU n u→u.lg=false→Trl u (Qck f a b u).2
 | f, a, b, u, h, hl => by
  have hg2:GU n ((u.step.look a).2.look b).2:=(h.step.look a).look b;have hwa:=Qc6 u.step a;have hwb:=Qc6 (u.step.look a).2 b
  have hcs2:((u.step.look a).2.look b).2.cs=u.cs:=by rw [hwb.2.1,hwa.2.1];rfl
  have htr2:((u.step.look a).2.look b).2.tr=u.tr:=by rw [hwb.2.2,hwa.2.2];rfl
  have hfail:Trl u ((u.step.look a).2.look b).2:=Trl.same hcs2 htr2
  cases f with
  |zero=>exact hfail
  |succ f=>
  simp only [Qck];by_cases hl2:((u.step.look a).2.look b).2.lg=true
  ·rw [if_pos hl2];exact hfail
  have hl3:((u.step.look a).2.look b).2.lg=false:=by simpa using hl2
  rw [if_neg hl2];obtain ⟨_,ha,hb,ea,eb,hcs,htr,_⟩:=Qru hl3;rw [ha,hb];obtain ⟨x,hx,hxe⟩:=ea.last;obtain ⟨y,hy,hye⟩:=eb.last;generalize Qp u.cs a=p at*;generalize Qp u.cs b=q at*;generalize ((u.step.look a).2.look b).2=v at*;rw [show QaY u.cs p=x.k by unfold QaY;rw [hx],show QaY u.cs q=y.k by unfold QaY;rw [hy]];by_cases hxk:x.k=0
  ·have hxn:x.n=p:=Classical.byContradiction fun e=>hxe ⟨hxk,e⟩;rw [if_pos hxk];by_cases hyk:y.k=0
   ·have hyn:y.n=q:=Classical.byContradiction fun e=>hye ⟨hyk,e⟩;rw [if_pos hyk];by_cases hpq:p=q
    ·rw [if_pos hpq];exact hfail
    ·rw [if_neg hpq];rcases Int.le_total p q with hle|hle
     ·rw [Int.max_eq_right hle,Int.min_eq_left hle];exact Trl.bind hy hyk hyn (by simp only [HU.bind];rw [hcs]) (by simp only [HU.bind];rw [htr])
     ·rw [Int.max_eq_left hle,Int.min_eq_right hle];exact Trl.bind hx hxk hxn (by simp only [HU.bind];rw [hcs]) (by simp only [HU.bind];rw [htr])
   ·rw [if_neg hyk];exact hfail.trans (Qqt hg2 (by rw [hcs];exact hx) hxk hxn)
  ·rw [if_neg hxk];by_cases hyk:y.k=0
   ·have hyn:y.n=q:=Classical.byContradiction fun e=>hye ⟨hyk,e⟩;rw [if_pos hyk];exact hfail.trans (Qqt hg2 (by rw [hcs];exact hy) hyk hyn)
   ·rw [if_neg hyk];unfold Qc4;split
    ·exact hfail.trans (QqE (n:=n) (fun x y u=>QjS f x y u) (fun x y u h hl=>QoM f x y u h hl) _ _ _ v hg2 hl3)
    ·exact hfail
theorem QrH {h:HH} (hg:QF h=true):GU h.cs.length ⟨h.cs,h.tr,0,false⟩:=by
 unfold QF Q8 QbJ at hg;simp only [Bool.and_eq_true,decide_eq_true_eq] at hg;exact ⟨rfl,hg.1.2,fun _=>by show (0:Nat)≤400;omega,by show h.tr.length≤65536+0;omega⟩
def Qc9 (g:Int→Nat→Option (Tm×Nat)):Nat→Int→Nat→Option (Ts×Nat)
 |0,_,l=>some (.nil,l)
 |m+1,a,l=>(g a l).bind fun p=>(Qc9 g m (a+1) p.2).map fun q=>(.cons p.1.k p.1.n p.1.s p.1.ar q.1,q.2)
def QfH (L:List HC):Nat→Int→Nat→Option (Tm×Nat)
 |0,_,_=>none
 |f+1,a,l=>if l=0 then none else match hat L (Qp L a) with
  |none=>none
  |some c=>if c.k=0 then some (⟨0,Qp L a,eS,.nil⟩,l-1)
   else if c.k=1 then some (⟨1,0,c.s,.nil⟩,l-1)
   else if c.k=2 then some (⟨2,c.n,eS,.nil⟩,l-1)
   else (Qc9 (QfH L f) (QH c).toNat (Qp L a+1) (l-1)).map fun p=>(⟨3,0,c.s,p.1⟩,p.2)
def Qd3:Tm:=⟨0,0,eS,.nil⟩
def Qi2 (most:Int):Nat:=(min most 65536).toNat
def Qbb (h:HH) (a most:Int):Tm×Nat×Int:=
 if QF h=false then (Qd3,0,1)
 else if Ql h.cs a=false then (Qd3,0,4)
 else match QfH h.cs (Qi2 most) a (Qi2 most) with
  |none=>(Qd3,0,3)
  |some (t,l)=>(t,Qi2 most-l,0)
theorem QiO {L:List HC} {f:Nat} {a:Int} {l:Nat} {c:HC} (hl:l≠0) (hc:hat L (Qp L a)=some c):QfH L (f+1) a l=if c.k=0 then some (⟨0,Qp L a,eS,.nil⟩,l-1)
   else if c.k=1 then some (⟨1,0,c.s,.nil⟩,l-1)
   else if c.k=2 then some (⟨2,c.n,eS,.nil⟩,l-1)
   else (Qc9 (QfH L f) (QH c).toNat (Qp L a+1) (l-1)).map fun p=>(⟨3,0,c.s,p.1⟩,p.2):=by
 simp only [QfH];rw [if_neg hl,hc]
theorem Qo0 {L:List HC} {f:Nat} {a:Int} {l:Nat} (hc:Qp L a<0):QfH L f a l=none:=by
 cases f with
 |zero=>rfl
 |succ f=>
  simp only [QfH];split
  ·rfl
  ·rw [show hat L (Qp L a)=none by unfold hat;rw [if_neg Ya]]
theorem Qg9 {g:Int→Nat→Option (Tm×Nat)} (hg:∀a l p,g a l=some p→p.1.ar.nodes+1+p.2=l):∀(m:Nat) (a:Int) (l:Nat) (p:Ts×Nat),Qc9 g m a l=some p→p.1.nodes+p.2=l∧p.1.length=m
 |0,a,l,p,h=>by simp only [Qc9,Option.some.injEq] at h;subst h;simp [Ts.nodes,Ts.length]
 |m+1,a,l,p,h=>by
  simp only [Qc9] at h
  cases h1:g a l with
  |none=>rw [h1] at h;simp at h
  |some q=>
   rw [h1,Option.bind_some] at h
   cases h2:Qc9 g m (a+1) q.2 with
   |none=>rw [h2] at h;simp at h
   |some r=>
    rw [h2,Option.map_some,Option.some.injEq] at h;subst h;have e1:=hg a l q h1;obtain ⟨e2,e3⟩:=Qg9 hg m (a+1) q.2 r h2;simp only [Ts.nodes,Ts.length];omega
theorem QdG {L:List HC}:∀(f:Nat) (a:Int) (l:Nat) (p:Tm×Nat),QfH L f a l=some p→p.1.ar.nodes+1+p.2=l
 |0,a,l,p,h=>by cases h
 |f+1,a,l,p,h=>by
  by_cases hl:l=0
  ·simp only [QfH] at h;rw [if_pos hl] at h;cases h
  cases hc:hat L (Qp L a) with
  |none=>simp only [QfH] at h;rw [if_neg hl,hc] at h;cases h
  |some c=>
   rw [QiO hl hc] at h;split at h
   ·cases h;simp only [Ts.nodes];omega
   split at h
   ·cases h;simp only [Ts.nodes];omega
   split at h
   ·cases h;simp only [Ts.nodes];omega
   cases h2:Qc9 (QfH L f) (QH c).toNat (Qp L a+1) (l-1) with
   |none=>rw [h2] at h;cases h
   |some r=>
    rw [h2,Option.map_some,Option.some.injEq] at h;subst h;have:=(Qg9 (fun a l p=>QdG f a l p) _ _ _ _ h2).1;show r.1.nodes+1+r.2=l;omega
inductive Rc (L:List HC) (R:List Int):Int→Prop
 |root {a:Int}:a∈R→Ql L a=true→Rc L R a
 |ref {a:Int} {c:HC}:Rc L R a→hat L a=some c→c.k=0→Rc L R c.n
 |arg {a:Int} {c:HC} {i:Int}:Rc L R a→hat L a=some c→0≤i→i<QH c→Rc L R (a+1+i)
theorem Qm {L:List HC} {a:Int}:Ql L a=true↔0≤a∧a<L.length:=by unfold Ql;simp
theorem Qnf {n:Nat}:∀{L:List HC},(∀i c,L[i]?=some c→Q9 n c (L.length-i-1)=true)→QL n L=true
 |[],_=>rfl
 |x::r,h=>by
  simp only [QL,Bool.and_eq_true];refine ⟨by have:=h 0 x rfl;simpa using this,Qnf fun i c hc=> ?_⟩;have:=h (i+1) c (by simpa using hc);rw [List.length_cons,show r.length+1-(i+1)-1=r.length-i-1 by omega] at this;exact this
theorem QdT {n f:Nat} {c:HC} (h:Q9 n c f=true):0≤QH c∧QH c≤f∧QH c≤4:=by
 have:=QM h;unfold QH;split<;>omega
theorem Rc.addr {L:List HC} {R:List Int} (hg:QL L.length L=true) {a:Int} (h:Rc L R a):Ql L a=true:=by
 induction h with
 |root _ h=>exact h
 |ref h hc hk ih=>
  have:=Qgg hg hc hk;rw [Qm];exact this
 |arg h hc i0 i1 ih=>
  have h1:=Qa7.1 hc;have h2:=QdT (Qam hg hc);rw [Qm];omega
def Qld (L:List HC) (R:List Int) (M:List Bool):Prop:=M.length=L.length∧∀i:Nat,i<L.length→(M[i]?=some true↔Rc L R (i:Int))
noncomputable def QJ (L:List HC) (R:List Int):List Bool:=(List.range L.length).map fun i=> @decide (Rc L R ((i:Nat):Int)) (Classical.propDecidable _)
theorem Qg6 (L:List HC) (R:List Int):Qld L R (QJ L R):=by
 refine ⟨by simp [QJ],fun i hi=> ?_⟩;unfold QJ;rw [List.getElem?_map,List.getElem?_range hi];simp
theorem Qld.eq {L:List HC} {R:List Int} {M:List Bool} (h:Qld L R M):M=QJ L R:=by
 have g:=Qg6 L R;refine List.ext_getElem? fun i=> ?_;by_cases hi:i<L.length
 ·have h1:=h.2 i hi;have h2:=g.2 i hi;have e1:M[i]?=some (M[i]'(by rw [h.1];exact hi)):=List.getElem?_eq_getElem _;have e2:(QJ L R)[i]?=some ((QJ L R)[i]'(by rw [g.1];exact hi)):=List.getElem?_eq_getElem _;rw [e1] at h1;rw [e2] at h2;rw [e1,e2];congr 1;have h3:=h1.trans h2.symm;simp only [Option.some.injEq] at h3;cases hx:M[i]'(by rw [h.1];exact hi)<;>cases hy:(QJ L R)[i]'(by rw [g.1];exact hi)<;>simp_all
 ·rw [List.getElem?_eq_none (by rw [h.1];omega),List.getElem?_eq_none (by rw [g.1];omega)]
def rk (M:List Bool) (n:Nat):Nat:=(M.take n).count true
abbrev rkI (M:List Bool) (a:Int):Int:=((rk M a.toNat:Nat):Int)
theorem QlB (M:List Bool):rk M 0=0:=by simp [rk]
theorem QgV {M:List Bool} {n:Nat} {b:Bool} (h:M[n]?=some b):rk M (n+1)=rk M n+(if b=true then 1 else 0):=by
 unfold rk;rw [List.take_add_one,h,List.count_append];cases b<;>simp
theorem Qps {M:List Bool} {n:Nat} (h:M.length≤n):rk M n=rk M M.length:=by unfold rk;rw [List.take_of_length_le h,List.take_of_length_le (Nat.le_refl _)]
theorem QsQ (M:List Bool) (n:Nat):rk M n≤rk M (n+1):=by
 by_cases h:n<M.length
 ·rw [QgV (List.getElem?_eq_getElem h)];omega
 ·rw [Qps (n:=n) Ya,Qps (n:=n+1) Ya];exact Nat.le_refl _
theorem Qpq (M:List Bool) {n m:Nat} (h:n≤m):rk M n≤rk M m:=by
 induction h with
 |refl=>exact Nat.le_refl _
 |step _ ih=>exact Nat.le_trans ih (QsQ M _)
theorem QsR {M:List Bool} {n m:Nat} (hn:M[n]?=some true) (h:n<m):rk M n<rk M m:=by
 have h1:=QgV hn;have h2:=Qpq M (show n+1≤m from h);simp at h1;omega
theorem Qr2 {M:List Bool} {n m:Nat} (hn:M[n]?=some true) (hm:M[m]?=some true) (h:rk M n=rk M m):n=m:=by
 rcases Nat.lt_trichotomy n m with h1|h1|h1
 ·have:=QsR hn h1;omega
 ·exact h1
 ·have:=QsR hm h1;omega
def kept {α:Type}:List α→List Bool→List α
 |x::r,b::m=>if b=true then x::kept r m else kept r m
 |_,_=>[]
theorem Qjd {α:Type}:∀{L:List α} {M:List Bool} {i:Nat} {x:α},M[i]?=some true→L[i]?=some x→(kept L M)[rk M i]?=some x
 |[],M,i,x,_,h=>by simp at h
 |y::r,[],i,x,h,_=>by simp at h
 |y::r,b::m,0,x,h,g=>by
  simp at h g;subst h g;simp [kept,rk]
 |y::r,b::m,i+1,x,h,g=>by
  have ih:=Qjd (L:=r) (M:=m) (i:=i) (x:=x) YY (by simpa using g)
  have e:rk (b::m) (i+1)=rk m i+(if b=true then 1 else 0):=by unfold rk;rw [List.take_succ_cons];cases b<;>simp
  rw [e];cases b
  ·simpa [kept] using ih
  ·simpa [kept] using ih
theorem Qm8 {α:Type}:∀{L:List α} {M:List Bool},M.length=L.length→(kept L M).length=rk M M.length
 |[],[],_=>rfl
 |[],_::_,h=>by simp at h
 |_::_,[],h=>by simp at h
 |y::r,b::m,h=>by
  have ih:=Qm8 (L:=r) (M:=m) YY
  have e:rk (b::m) (m.length+1)=rk m m.length+(if b=true then 1 else 0):=by unfold rk;rw [List.take_succ_cons];cases b<;>simp
  rw [List.length_cons,e];cases b
  ·simpa [kept] using ih
  ·simpa [kept] using ih
theorem Qjc {α:Type}:∀{L:List α} {M:List Bool} {j:Nat} {x:α},(kept L M)[j]?=some x→∃i,M[i]?=some true∧L[i]?=some x∧rk M i=j
 |[],M,j,x,h=>by simp [kept] at h
 |_::_,[],j,x,h=>by simp [kept] at h
 |y::r,b::m,j,x,h=>by
  have e:∀i,rk (b::m) (i+1)=rk m i+(if b=true then 1 else 0):=fun i=>by unfold rk;rw [List.take_succ_cons];cases b<;>simp
  cases b
  ·obtain ⟨i,h1,h2,h3⟩:=Qjc (L:=r) (M:=m) (j:=j) (x:=x) (by simpa [kept] using h);exact ⟨i+1,by simpa using h1,by simpa using h2,by rw [e];simpa using h3⟩
  ·cases j with
   |zero=>exact ⟨0,rfl,by simpa [kept] using h,QlB _⟩
   |succ j=>
    obtain ⟨i,h1,h2,h3⟩:=Qjc (L:=r) (M:=m) (j:=j) (x:=x) (by simpa [kept] using h);exact ⟨i+1,by simpa using h1,by simpa using h2,by rw [e];simp;omega⟩
def QbN (M:List Bool) (c:HC):HC:=if c.k=0 then ⟨c.k,rkI M c.n,c.s⟩ else c
def Qq (M:List Bool) (a:Int):Bool:=decide (M[a.toNat]?=some true)
def QaZ (M:List Bool) (L:List HC):List HC:=(kept L M).map (QbN M)
def Qbo (M:List Bool) (T:List Int):List Int:=(kept T (T.map (Qq M))).map (rkI M)
noncomputable def Qbn (h:HH) (R T K:List Int):HH×List Int×List Int×List Int×Int:=
 if QF h=false then (h,[],[],[],1)
 else if R.all (Ql h.cs)=false then (h,[],[],[],4)
 else (⟨QaZ (QJ h.cs R) h.cs,Qbo (QJ h.cs R) h.tr⟩,R.map (rkI (QJ h.cs R)),T.map (rkI (QJ h.cs R)),K.map (rkI (h.tr.map (Qq (QJ h.cs R)))),0)
structure Cx (h:HH) (R:List Int) (M:List Bool):Prop where
 good:QF h=true
 mks:Qld h.cs R M
section
variable {h:HH} {R:List Int} {M:List Bool}
theorem Cx.gl (C:Cx h R M):QL h.cs.length h.cs=true:=by
 have:=C.good;unfold QF Q8 at this;simp only [Bool.and_eq_true] at this;exact this.1.2
theorem Cx.rc (C:Cx h R M) {a:Int} (ha:Rc h.cs R a):0≤a∧a<h.cs.length∧M[a.toNat]?=some true:=by
 have h1:=Qm.1 (ha.addr C.gl);refine ⟨h1.1,h1.2,(C.mks.2 a.toNat Ya).2 ?_⟩;rw [show ((a.toNat:Nat):Int)=a by omega];exact ha
theorem Cx.mark (C:Cx h R M) {i:Nat} (hi:M[i]?=some true):i<h.cs.length∧Rc h.cs R (i:Int):=by
 have hl:i<h.cs.length:=by
  rw [←C.mks.1];rcases Nat.lt_or_ge i M.length with g|g
  ·exact g
  ·rw [List.getElem?_eq_none g] at hi;cases hi
 exact ⟨hl,(C.mks.2 i hl).1 hi⟩
theorem Cx.len (C:Cx h R M):(QaZ M h.cs).length=rk M M.length:=by unfold QaZ;rw [List.length_map,Qm8 C.mks.1]
theorem Cx.cell (C:Cx h R M) {a:Int} {c:HC} (ha:Rc h.cs R a) (hc:hat h.cs a=some c):hat (QaZ M h.cs) (rkI M a)=some (QbN M c):=by
 obtain ⟨a0,a1,am⟩:=C.rc ha;unfold hat;rw [if_pos (by simp only [rkI];omega),show (rkI M a).toNat=rk M a.toNat from rfl];unfold QaZ;rw [List.getElem?_map,Qjd am (Qa7.1 hc).2.2];rfl
theorem Cx.lt (C:Cx h R M) {a:Int} (ha:Rc h.cs R a):rk M a.toNat<(QaZ M h.cs).length:=by
 obtain ⟨a0,a1,am⟩:=C.rc ha;rw [C.len];exact QsR am (by rw [C.mks.1];omega)
theorem Cx.back (C:Cx h R M) {j:Nat} {d:HC} (hj:(QaZ M h.cs)[j]?=some d):∃(i:Nat) (c:HC),Rc h.cs R (i:Int)∧hat h.cs (i:Int)=some c∧d=QbN M c∧rk M i=j:=by
 unfold QaZ at hj;rw [List.getElem?_map] at hj
 cases hk:(kept h.cs M)[j]? with
 |none=>rw [hk] at hj;cases hj
 |some c=>
  rw [hk,Option.map_some,Option.some.injEq] at hj;obtain ⟨i,h1,h2,h3⟩:=Qjc hk;obtain ⟨hi,hr⟩:=C.mark h1;exact ⟨i,c,hr,by unfold hat;rw [if_pos Ya];exact h2,hj.symm,h3⟩
theorem Cx.args (C:Cx h R M) {a:Int} {c:HC} (ha:Rc h.cs R a) (hc:hat h.cs a=some c):∀i:Nat,(i:Int)<QH c+1→rk M (a.toNat+i)=rk M a.toNat+i
 |0,_=>rfl
 |i+1,hi=>by
  have ih:=C.args ha hc i Ya
  have am:M[a.toNat+i]?=some true:=by
   cases i with
   |zero=>exact (C.rc ha).2.2
   |succ i=>
    have h1:=C.rc (Rc.arg (i:=(i:Int)) ha hc Ya Ya);rw [show (a+1+(i:Int)).toNat=a.toNat+(i+1) by have:=(C.rc ha).1;omega] at h1;exact h1.2.2
  rw [show a.toNat+(i+1)=(a.toNat+i)+1 by omega,QgV am,ih];simp;omega
theorem Cx.arg (C:Cx h R M) {a:Int} {c:HC} (ha:Rc h.cs R a) (hc:hat h.cs a=some c) {i:Int} (i0:0≤i) (i1:i<QH c):rkI M (a+1+i)=rkI M a+1+i:=by
 have:=C.args ha hc (i.toNat+1) Ya;have a0:=(C.rc ha).1;show ((rk M (a+1+i).toNat:Nat):Int)=((rk M a.toNat:Nat):Int)+1+i;rw [show (a+1+i).toNat=a.toNat+(i.toNat+1) by omega,this];omega
theorem Qn0 (M:List Bool) (c:HC):QH (QbN M c)=QH c:=by
 unfold QbN QH;by_cases h:c.k=0
 ·rw [if_pos h];simp [h]
 ·rw [if_neg h]
theorem Qff (M:List Bool) (c:HC):(QbN M c).k=c.k:=by
 unfold QbN;split<;>rfl
theorem Qpt (M:List Bool) (c:HC):(QbN M c).s=c.s:=by
 unfold QbN;split<;>rfl
theorem QoX {h:HH} (hg:QF h=true) {a:Int} (ha:a∈h.tr):∃c,hat h.cs a=some c∧c.k=0:=by
 unfold QF QbJ at hg;simp only [Bool.and_eq_true,List.all_eq_true] at hg;have:=hg.2.2 a ha;unfold Qat at this;split at this
 ·rename_i c hc;exact ⟨c,hc,by simpa using this⟩
 ·cases this
theorem Qap {M:List Bool} {a:Int}:Qq M a=true↔M[a.toNat]?=some true:=by unfold Qq;simp
theorem QrC {α:Type} {f:α→Bool} {T:List α} {x:α}:x∈kept T (T.map f)↔x∈T∧f x=true:=by
 induction T with
 |nil=>simp [kept]
 |cons y T ih=>
  simp only [List.map_cons,kept];cases hf:f y
  ·simp only [Bool.false_eq_true,if_false,ih,List.mem_cons];constructor
   ·rintro ⟨h1,h2⟩;exact ⟨.inr h1,h2⟩
   ·rintro ⟨rfl|h1,h2⟩
    ·rw [hf] at h2;cases h2
    ·exact ⟨h1,h2⟩
  ·simp only [if_true,List.mem_cons,ih];constructor
   ·rintro (rfl|⟨h1,h2⟩)
    ·exact ⟨.inl rfl,hf⟩
    ·exact ⟨.inr h1,h2⟩
   ·rintro ⟨rfl|h1,h2⟩
    ·exact .inl rfl
    ·exact .inr ⟨h1,h2⟩
theorem Cx.kept_good (C:Cx h R M):QF ⟨QaZ M h.cs,Qbo M h.tr⟩=true:=by
 have hg:=C.good;have hgl:=C.gl
 have hlen:(QaZ M h.cs).length≤h.cs.length:=by
  rw [C.len];unfold rk;rw [←C.mks.1];exact Nat.le_trans List.count_le_length Yd
 have hs:h.cs.length≤65536∧h.tr.length≤65536:=by
  unfold QF Q8 QbJ at hg;simp only [Bool.and_eq_true,decide_eq_true_eq] at hg;exact ⟨hg.1.1,hg.2.1⟩
 have hkl:∀{α:Type} (T:List α) (m:List Bool),(kept T m).length≤T.length:=by
  intro α T
  induction T with
  |nil=>intro m;simp [kept]
  |cons y T ih=>
   intro m
   cases m with
   |nil=>simp [kept]
   |cons b m=>
    simp only [kept];have:=ih m;split<;>simp<;>omega
 unfold QF Q8 QbJ;simp only [Bool.and_eq_true,decide_eq_true_eq,List.all_eq_true];refine ⟨⟨by omega,Qnf fun j d hd=> ?_⟩,?_,fun x hx=> ?_⟩
 ·obtain ⟨i,c,hr,hc,rfl,hj⟩:=C.back hd;have hgc:=Qam hgl hc;have hq:=QM hgc;have hlt:=C.lt hr;rw [show ((i:Nat):Int).toNat=i by omega] at hlt;unfold Q9;rw [Qff,Qpt];rcases hq with ⟨k,n0,n1,s0⟩|⟨k,n0,s0⟩|⟨k,s0⟩|⟨k,n0,n1,n2,s0⟩
  ·have hrn:=C.lt (Rc.ref hr hc k);rw [if_pos k];unfold QbN;rw [if_pos k];simp only [Bool.and_eq_true,decide_eq_true_eq];exact ⟨by simp only [rkI];omega,by simp only [rkI];omega,s0⟩
  ·rw [if_neg Ya,if_pos k];unfold QbN;rw [if_neg Ya];simp [n0,s0]
  ·rw [if_neg Ya,if_neg Ya,if_pos k];simp [s0]
  ·have hA:QH c=c.n:=by unfold QH;rw [if_pos k]
   have h1:=C.lt (Rc.arg (i:=c.n-1) hr hc Ya Ya);have h2:=C.args hr hc c.n.toNat Ya;rw [show ((i:Int)+1+(c.n-1)).toNat=((i:Nat):Int).toNat+c.n.toNat by omega,h2] at h1;rw [if_neg Ya,if_neg Ya,if_neg Ya,if_pos k];unfold QbN;rw [if_neg Ya];simp only [Bool.and_eq_true,decide_eq_true_eq,Bool.not_eq_true',decide_eq_false_iff_not];rw [show ((i:Nat):Int).toNat=i by omega] at h1;exact ⟨n0,n1,by omega,s0⟩
 ·unfold Qbo;rw [List.length_map];have:=hkl h.tr (h.tr.map (Qq M));omega
 ·unfold Qbo at hx;obtain ⟨a,ha,rfl⟩:=List.mem_map.1 hx;obtain ⟨h1,h2⟩:=QrC.1 ha;obtain ⟨c,c1,c2⟩:=QoX hg h1;have hm:=C.mark (Qap.1 h2);rw [show ((a.toNat:Nat):Int)=a by have:=(Qa7.1 c1).1;omega] at hm;unfold Qat;rw [C.cell hm.2 c1];dsimp only;rw [Qff,c2];rfl
end
def ctl (c:HC):Int:=if c.k=3 then 0 else c.n
def Q0 (h:HH) (a:Int):Vw Int:=match hat h.cs (Qp h.cs a) with
 |none=> .var (-1)
 |some c=>if c.k=0 then .var (Qp h.cs a) else .node c.k (ctl c) c.s (ups (Qp h.cs a+1) (QH c).toNat)
section
variable {σ:HH}
structure HOk (h:HH):Prop where
 gl:QL h.cs.length h.cs=true
 ends:∀a,Ql h.cs a=true→∃x,End h.cs a x
 tr:∀a∈h.tr,Qat h.cs a=true
def Qjh (h:HH) (r y:Int):HH:=⟨QdZ h.cs r.toNat y,h.tr++[r]⟩
def Qes:Sy where
 X:=Int
 S:=HH
 ok:=HOk
 dom:=fun h a=>Ql h.cs a=true
 view:=Q0
 bind:=fun h v t=>Qjh h v (Qp h.cs t)
 join:=fun h a b=>Qjh h (max (Qp h.cs a) (Qp h.cs b)) (min (Qp h.cs a) (Qp h.cs b))
theorem Qgc (h:HH) (r y:Int):(Qjh h r y).cs.length=h.cs.length:=Qby _ _ _
theorem Qhw {h:HH} {r y a:Int}:Ql (Qjh h r y).cs a=Ql h.cs a:=by unfold Ql;rw [Qgc]
theorem Qai {h:HH} {a x:Int} {c:HC} (he:End h.cs a x) (hc:hat h.cs x=some c):Q0 h a=if c.k=0 then .var x else .node c.k (ctl c) c.s (ups (x+1) (QH c).toNat):=by
 unfold Q0;rw [he.look,hc]
theorem HOk.view (h:HOk σ) {a:Int} (ha:Ql σ.cs a=true):∃x c,End σ.cs a x∧hat σ.cs x=some c∧(c.k=0→c.n=x)∧Q0 σ a=if c.k=0 then .var x else .node c.k (ctl c) c.s (ups (x+1) (QH c).toNat):=by
 obtain ⟨x,hx⟩:=h.ends a ha;obtain ⟨c,c1,c2⟩:=hx.last;refine ⟨x,c,hx,c1,fun hk=> ?_,Qai hx c1⟩;by_cases e:c.n=x
 ·exact e
 ·exact absurd ⟨hk,e⟩ c2
theorem HOk.var (h:HOk σ) {a v:Int} (ha:Ql σ.cs a=true) (hv:Q0 σ a= .var v):End σ.cs a v∧∃c,hat σ.cs v=some c∧c.k=0∧c.n=v:=by
 obtain ⟨x,c,h1,h2,h3,h4⟩:=h.view ha;rw [h4] at hv;split at hv
 ·rename_i hk;cases hv;exact ⟨h1,c,h2,hk,h3 hk⟩
 ·cases hv
theorem HOk.node (h:HOk σ) {a k n:Int} {s:ByteArray} {ar:List Int} (ha:Ql σ.cs a=true) (hv:Q0 σ a= .node k n s ar):∃x c,End σ.cs a x∧hat σ.cs x=some c∧c.k≠0∧k=c.k∧n=ctl c∧s=c.s∧ar=ups (x+1) (QH c).toNat:=by
 obtain ⟨x,c,h1,h2,h3,h4⟩:=h.view ha;rw [h4] at hv;split at hv
 ·cases hv
 ·rename_i hk;cases hv;exact ⟨x,c,h1,h2,hk,rfl,rfl,rfl,rfl⟩
theorem QdW {L:List HC} {a:Int}:Ql L a=true↔∃c,hat L a=some c:=by
 rw [Qm];constructor
 ·rintro ⟨h0,h1⟩;exact Qsb h0 h1
 ·rintro ⟨c,hc⟩;exact ⟨(Qa7.1 hc).1,(Qa7.1 hc).2.1⟩
theorem Ql0 {L:List HC} {r y a:Int} {c:HC} (hr:hat L r=some c) (hk:c.k=0) (h:Qat L a=true):Qat (QdZ L r.toNat y) a=true:=by
 unfold Qat at h⊢;rw [QbW hr];by_cases e:a=r
 ·rw [if_pos e];simpa using hk
 ·rw [if_neg e];exact h
theorem HOk.set (h:HOk σ) {r y:Int} {c:HC} (hr:hat σ.cs r=some c) (hk:c.k=0) (hn:c.n=r) (hy:End σ.cs y y) (hne:y≠r):
  HOk (Qjh σ r y)∧∀a,Ql σ.cs a=true→Q0 (Qjh σ r y) a=(Q0 σ a).sub r (Q0 σ y):=by
 obtain ⟨e1,e2⟩:=QrN hr hk hn hy hne;obtain ⟨d,hd,_⟩:=hy.last;have hyl:=Qa7.1 hd;refine ⟨⟨?_,fun a ha=> ?_,fun a ha=> ?_⟩,fun a ha=> ?_⟩
 ·rw [Qgc];refine QeD hyl.1 hyl.2.1 h.gl fun c' hc'=> ?_;rw [(Qa7.1 hr).2.2] at hc';cases hc';exact hk
 ·rw [Qhw] at ha;obtain ⟨x,hx⟩:=h.ends a ha;by_cases hxr:x=r
  ·subst hxr;exact ⟨y,e2 a hx⟩
  ·exact ⟨x,e1 a x hx hxr⟩
 ·rcases List.mem_append.1 ha with ha|ha
  ·exact Ql0 hr hk (h.tr a ha)
  ·rw [List.mem_singleton.1 ha];unfold Qat;rw [show hat (Qjh σ r y).cs r=some ⟨c.k,y,c.s⟩ by show hat (QdZ σ.cs r.toNat y) r=_;rw [QbW hr,if_pos rfl]];simpa using hk
 ·obtain ⟨x,c',h1,h2,h3,h4⟩:=h.view ha;by_cases hxr:x=r
  ·subst hxr;rw [h2] at hr;cases hr;rw [h4,if_pos hk];simp only [Vw.sub,if_true];rw [Qai (e2 a h1) (c:=d) (by show hat (QdZ σ.cs _ y) y=_;rw [QbW h2,if_neg hne];exact hd),Qai hy hd]
  ·rw [h4,Qai (e1 a x h1 hxr) (c:=c') (by show hat (QdZ σ.cs _ y) x=_;rw [QbW hr,if_neg hxr];exact h2)];split
   ·simp only [Vw.sub];rw [if_neg hxr]
   ·rfl
theorem Qjl {x t v k n:Int} {s:ByteArray} {ar:List Int} (hσ:HOk σ) (hx:Ql σ.cs x=true) (ht:Ql σ.cs t=true) (hv:Q0 σ x= .var v) (htv:Q0 σ t= .node k n s ar):HOk (Qjh σ v (Qp σ.cs t))∧∀y,Ql σ.cs y=true→Q0 (Qjh σ v (Qp σ.cs t)) y=(Q0 σ y).sub v (Q0 σ t):=by
 obtain ⟨_,c,c1,c2,c3⟩:=hσ.var hx hv;obtain ⟨z,d,d1,d2,d3,_⟩:=hσ.node ht htv
 have:=hσ.set c1 c2 c3 d1.self fun e=>by subst e;rw [c1] at d2;cases d2;exact d3 c2
 rw [d1.look];refine ⟨this.1,fun y hy=> ?_⟩;rw [this.2 y hy,Qai d1 d2,Qai d1.self d2]
theorem Qji {a b u v:Int} (hσ:HOk σ) (ha:Ql σ.cs a=true) (hb:Ql σ.cs b=true) (hu:Q0 σ a= .var u) (hv:Q0 σ b= .var v) (hne:u≠v):
  HOk (Qjh σ (max (Qp σ.cs a) (Qp σ.cs b)) (min (Qp σ.cs a) (Qp σ.cs b)))∧
  ((∀y,Ql σ.cs y=true→Q0 (Qjh σ (max (Qp σ.cs a) (Qp σ.cs b)) (min (Qp σ.cs a) (Qp σ.cs b))) y=(Q0 σ y).sub u (.var v))∨(∀y,Ql σ.cs y=true→Q0 (Qjh σ (max (Qp σ.cs a) (Qp σ.cs b)) (min (Qp σ.cs a) (Qp σ.cs b))) y=(Q0 σ y).sub v (.var u))):=by
 obtain ⟨u1,c,c1,c2,c3⟩:=hσ.var ha hu;obtain ⟨v1,d,d1,d2,d3⟩:=hσ.var hb hv;have hvu:Q0 σ u= .var u:=by rw [Qai u1.self c1,if_pos c2]
 have hvv:Q0 σ v= .var v:=by rw [Qai v1.self d1,if_pos d2]
 rw [u1.look,v1.look];rcases Int.lt_or_lt_of_ne hne with hl|hl
 ·rw [show max u v=v by omega,show min u v=u by omega];have:=hσ.set d1 d2 d3 u1.self hne;exact ⟨this.1,.inr fun y hy=>by rw [this.2 y hy,hvu]⟩
 ·rw [show max u v=u by omega,show min u v=v by omega];have:=hσ.set c1 c2 c3 v1.self (Ne.symm hne);exact ⟨this.1,.inl fun y hy=>by rw [this.2 y hy,hvv]⟩
end
theorem Qq6:Qes.Law where
 bind_ok:=fun hσ hx ht hv htv=>(Qjl hσ hx ht hv htv).1
 bind_dom:=fun hy=>Qhw.trans hy
 bind_view:=fun hσ hx ht hv htv hy=>(Qjl hσ hx ht hv htv).2 _ hy
 join_ok:=fun hσ ha hb hu hv hne=>(Qji hσ ha hb hu hv hne).1
 join_dom:=fun hy=>Qhw.trans hy
 join_view:=fun hσ ha hb hu hv hne=>(Qji hσ ha hb hu hv hne).2
theorem Qgk {L:List HC} (hg:QL L.length L=true) {x:Int} {c:HC} (hc:hat L x=some c):(∀i:Int,0≤i→i<QH c→Ql L (x+1+i)=true)∧0≤QH c:=by
 have h1:=Qa7.1 hc;have h2:=QdT (Qam hg hc);exact ⟨fun i i0 i1=>by rw [Qm];omega,h2.1⟩
def toU (h:HH) (w:Nat):HU:=⟨h.cs,h.tr,w,decide (400<w)⟩
theorem Qf1 (h:HH) (w:Nat):(toU h w).step=toU h (w+1):=by
 unfold toU HU.step;simp only [HU.mk.injEq,true_and];by_cases h1:400<w
 ·simp [h1,show 400<w+1 by omega]
 ·simp [h1]
theorem QdF {h:HH} (ho:HOk h) {a:Int} (ha:Ql h.cs a=true) (w:Nat):(toU h w).look a=(if 400<w then -1 else Qp h.cs a,toU h w):=by
 obtain ⟨x,hx⟩:=ho.ends a ha;have h0:=hx.nonneg;unfold HU.look toU;by_cases hw:400<w
 ·simp [hw]
 ·simp only [decide_eq_true_eq,hw,if_false,hx.look];simp [show¬x<0 by omega]
section
variable {A:Sy}
theorem QpF {σ:A.S} {v:Int} {f:Nat} {x:A.X} {w:Nat} (h:400<w+1):Qci A σ v (f+1) x w=(false,w+1):=by simp only [Qci];rw [if_pos h]
theorem Qrm {σ:A.S} {v u:Int} {f:Nat} {x:A.X} {w:Nat} (h:¬400<w+1) (e:A.view σ x= .var u):Qci A σ v (f+1) x w=(decide (u=v),w+1):=by simp only [Qci];rw [if_neg h,e]
theorem QpG {σ:A.S} {v k n:Int} {s:ByteArray} {ar:List A.X} {f:Nat} {x:A.X} {w:Nat} (h:¬400<w+1) (e:A.view σ x= .node k n s ar):Qci A σ v (f+1) x w=QdU (Qci A σ v f) ar (w+1):=by simp only [Qci];rw [if_neg h,e]
theorem QpE {σ:A.S} {v:Int} (f:Nat) {x y:A.X} (w:Nat) (e:A.view σ x=A.view σ y):Qci A σ v f x w=Qci A σ v f y w:=by
 cases f with
 |zero=>rfl
 |succ f=>simp only [Qci];rw [e]
theorem QoS {σ:A.S} {f:Nat} {a b:A.X} {w:Nat} (h:400<w+1):Qa3 A (f+1) a b σ w=⟨false,σ,w+1⟩:=by simp only [Qa3];rw [if_pos h]
theorem QoR {σ:A.S} {f:Nat} {a b:A.X} {w:Nat} {u:Int} (h:¬400<w+1) (e1:A.view σ a= .var u) (e2:A.view σ b= .var u):Qa3 A (f+1) a b σ w=⟨true,σ,w+1⟩:=by simp only [Qa3];rw [if_neg h,e1,e2];dsimp only;rw [if_pos rfl]
theorem QoT {σ:A.S} {f:Nat} {a b:A.X} {w:Nat} {u v:Int} (h:¬400<w+1) (e1:A.view σ a= .var u) (e2:A.view σ b= .var v) (hne:u≠v):Qa3 A (f+1) a b σ w=⟨true,A.join σ a b,w+1⟩:=by simp only [Qa3];rw [if_neg h,e1,e2];dsimp only;rw [if_neg hne]
theorem QsC {σ:A.S} {f:Nat} {a b:A.X} {w:Nat} {u k n:Int} {s:ByteArray} {ar:List A.X} (h:¬400<w+1) (e1:A.view σ a= .var u) (e2:A.view σ b= .node k n s ar):Qa3 A (f+1) a b σ w=QiC A u b σ (w+1):=by simp only [Qa3];rw [if_neg h,e1,e2]
theorem QsD {σ:A.S} {f:Nat} {a b:A.X} {w:Nat} {v k n:Int} {s:ByteArray} {ar:List A.X} (h:¬400<w+1) (e1:A.view σ a= .node k n s ar) (e2:A.view σ b= .var v):Qa3 A (f+1) a b σ w=QiC A v a σ (w+1):=by simp only [Qa3];rw [if_neg h,e1,e2]
theorem QsF {σ:A.S} {f:Nat} {a b:A.X} {w:Nat} {k n k' n':Int} {s s':ByteArray} {ar ar':List A.X} (h:¬400<w+1) (e1:A.view σ a= .node k n s ar) (e2:A.view σ b= .node k' n' s' ar') (he:k=k'∧n=n'∧s=s'∧ar.length=ar'.length):Qa3 A (f+1) a b σ w=QfX (Qa3 A f) ar ar' σ (w+1):=by simp only [Qa3];rw [if_neg h,e1,e2];dsimp only;rw [if_pos he]
theorem QsE {σ:A.S} {f:Nat} {a b:A.X} {w:Nat} {k n k' n':Int} {s s':ByteArray} {ar ar':List A.X} (h:¬400<w+1) (e1:A.view σ a= .node k n s ar) (e2:A.view σ b= .node k' n' s' ar') (he:¬(k=k'∧n=n'∧s=s'∧ar.length=ar'.length)):Qa3 A (f+1) a b σ w=⟨false,σ,w+1⟩:=by simp only [Qa3];rw [if_neg h,e1,e2];dsimp only;rw [if_neg he]
theorem Qk9 {σ:A.S} {f:Nat} {x:A.X}:QcE A σ (f+1) x 0=none:=by simp [QcE]
theorem Qgl {σ:A.S} {f:Nat} {x:A.X} {l:Nat} {u:Int} (h:l≠0) (e:A.view σ x= .var u):QcE A σ (f+1) x l=some (⟨0,u,⟨#[]⟩,.nil⟩,l-1):=by simp only [QcE];rw [if_neg h,e]
theorem Qe3 {σ:A.S} {f:Nat} {x:A.X} {l:Nat} {k n:Int} {s:ByteArray} {ar:List A.X} (h:l≠0) (e:A.view σ x= .node k n s ar):QcE A σ (f+1) x l=(Qcm (QcE A σ f) ar (l-1)).map fun p=>(⟨k,n,s,p.1⟩,p.2):=by
 simp only [QcE];rw [if_neg h,e];dsimp only;cases Qcm (QcE A σ f) ar (l-1)<;>rfl
end
def QeK (σ:HH) (v:Int) (f:Nat) (x:Int) (w:Nat):Bool×Nat:=Qci Qes σ v f x w
def Qk3 (v t:Int) (σ:HH) (w:Nat):Ug HH:=QiC Qes v t σ w
def Qdh (f:Nat) (a b:Int) (σ:HH) (w:Nat):Ug HH:=Qa3 Qes f a b σ w
def Qhs (σ:HH) (f:Nat) (x:Int) (l:Nat):Option (Tm×Nat):=QcE Qes σ f x l
theorem Qns (v t:Int) (σ:HH) (w:Nat):Qk3 v t σ w=if (QeK σ v 401 t w).1=true∨400<(QeK σ v 401 t w).2 then ⟨false,σ,(QeK σ v 401 t w).2⟩ else ⟨true,Qjh σ v (Qp σ.cs t),(QeK σ v 401 t w).2⟩:=rfl
theorem QqC {h:HH} {g:Int→HU→Bool×HU} {g':Int→Nat→Bool×Nat} (hg:∀x w,Ql h.cs x=true→g x (toU h w)=((g' x w).1,toU h (g' x w).2)):∀(m:Nat) (x:Int) (w:Nat),(∀i:Int,0≤i→i<m→Ql h.cs (x+i)=true)→Qjw g m x (toU h w)=((QdU g' (ups x m) w).1,toU h (QdU g' (ups x m) w).2)
 |0,x,w,_=>rfl
 |m+1,x,w,hd=>by
  have h0:=hd 0 Ya Ya;rw [show x+0=x by omega] at h0;simp only [Qjw,ups,QdU];rw [hg x w h0];dsimp only;by_cases hc:(g' x w).1=true
  ·rw [if_pos hc,if_pos hc,hc]
  ·rw [if_neg hc,if_neg hc]
   exact QqC hg m (x+1) _ fun i i0 i1=>by rw [show x+1+i=x+(i+1) by omega];exact hd _ Ya Ya
theorem QpD {h:HH} (ho:HOk h) {v:Int} {c:HC} (hv:hat h.cs v=some c) (hk:c.k=0):∀(f:Nat) (b:Int) (w:Nat),Ql h.cs b=true→Qch v f b (toU h w)=((QeK h v f b w).1,toU h (QeK h v f b w).2)
 |0,b,w,hb=>by
  simp only [Qch];rw [Qf1,QdF ho hb];rfl
 | f + 1, b, w, hb => by
  obtain ⟨x,d,h1,h2,h3,h4⟩:=ho.view hb;simp only [Qch];rw [Qf1,QdF ho hb];dsimp only;by_cases hw:400<w+1
  ·rw [if_pos (show (toU h (w+1)).lg=true by simp [toU,hw]),show QeK h v (f+1) b w=(false,w+1) from QpF (A:=Qes) hw]
  ·rw [if_neg (show¬(toU h (w+1)).lg=true by simp [toU];omega),if_neg hw,h1.look]
   have ha:Qaw (toU h w).cs x=(QH d).toNat:=by show Qaw h.cs x=_;unfold Qaw;rw [h2]
   by_cases hdk:d.k=0
   ·rw [show QeK h v (f+1) b w=(decide (x=v),w+1) from Qrm (A:=Qes) hw (h4.trans (if_pos hdk))];by_cases e:v=x
    ·rw [if_pos e];simp [e]
    ·rw [if_neg e,ha,show (QH d).toNat=0 by unfold QH;rw [if_neg Ya];rfl];simp only [Qjw];rw [decide_eq_false (fun e2:x=v=>e e2.symm)]
   ·have e:v≠x:=fun e=>by subst e;rw [hv] at h2;cases h2;exact hdk hk
    rw [show QeK h v (f+1) b w=QdU (QeK h v f) (ups (x+1) (QH d).toNat) (w+1) from QpG (A:=Qes) hw (h4.trans (if_neg hdk)),if_neg e,ha];obtain ⟨g1,g2⟩:=Qgk ho.gl h2;exact QqC (fun x w hx=>QpD ho hv hk f x w hx) _ _ _ fun i i0 i1=>g1 i i0 Ya
theorem QpC {h:HH} (ho:HOk h) {v b:Int} (hb:Ql h.cs b=true) (f w:Nat):QeK h v f (Qp h.cs b) w=QeK h v f b w:=by
 obtain ⟨x,d,h1,h2,h3,h4⟩:=ho.view hb;refine QpE (A:=Qes) f w ?_;show Q0 h (Qp h.cs b)=Q0 h b;rw [h1.look];exact (Qai h1.self h2).trans h4.symm
theorem Qqv {h:HH} (ho:HOk h) {v t:Int} {c:HC} (hv:hat h.cs v=some c) (hk:c.k=0) (ht:Ql h.cs t=true) (w:Nat):
  Qmd v (Qp h.cs t) (toU h w)=((Qk3 v t h w).ok,toU (Qk3 v t h w).s (Qk3 v t h w).w):=by
 obtain ⟨y,hy⟩:=ho.ends t ht
 have hya:Ql h.cs (Qp h.cs t)=true:=by rw [hy.look];obtain ⟨d,hd,_⟩:=hy.last;exact QdW.2 ⟨d,hd⟩
 rw [Qns];unfold Qmd;rw [QpD ho hv hk 401 _ w hya,QpC ho ht];dsimp only;by_cases hc:(QeK h v 401 t w).1=true∨400<(QeK h v 401 t w).2
 ·rw [if_pos hc,if_pos (by simpa [toU] using hc)]
 ·rw [if_neg hc,if_neg (by simpa [toU] using hc)];rfl
theorem QqG {g:Int→Int→HU→Bool×HU} {g':Int→Int→HH→Nat→Ug HH} (n:Nat) (hg:∀x y σ w,HOk σ→σ.cs.length=n→Ql σ.cs x=true→Ql σ.cs y=true→g x y (toU σ w)=((g' x y σ w).ok,toU (g' x y σ w).s (g' x y σ w).w)∧HOk (g' x y σ w).s∧(g' x y σ w).s.cs.length=n):
  ∀(m:Nat) (x y:Int) (σ:HH) (w:Nat),HOk σ→σ.cs.length=n→(∀i:Int,0≤i→i<m→0≤x+i∧x+i<n∧0≤y+i∧y+i<n)→Qhy g m x y (toU σ w)=((QfX g' (ups x m) (ups y m) σ w).ok,toU (QfX g' (ups x m) (ups y m) σ w).s (QfX g' (ups x m) (ups y m) σ w).w)∧HOk (QfX g' (ups x m) (ups y m) σ w).s∧(QfX g' (ups x m) (ups y m) σ w).s.cs.length=n
 |0,x,y,σ,w,ho,hn,_=>⟨rfl,ho,hn⟩
 |m+1,x,y,σ,w,ho,hn,hd=>by
  obtain ⟨d0,d1,d2,d3⟩:=hd 0 Ya Ya;obtain ⟨e1,e2,e3⟩:=hg x y σ w ho hn (by rw [Qm];omega) (by rw [Qm];omega);simp only [Qhy,ups,QfX];rw [e1];dsimp only;split
  ·exact QqG n hg m (x+1) (y+1) _ _ e2 e3 fun i i0 i1=>by
    have:=hd (i+1) Ya Ya;omega
  ·exact ⟨rfl,e2,e3⟩
theorem Qqx {h:HH} (ho:HOk h) {v t a:Int} (ha:Ql h.cs a=true) (hv:Q0 h a= .var v) (ht:Ql h.cs t=true) {k n:Int} {s:ByteArray} {ar:List Int} (htv:Q0 h t= .node k n s ar) (w:Nat):HOk (Qk3 v t h w).s∧(Qk3 v t h w).s.cs.length=h.cs.length:=by
 rw [Qns];split
 ·exact ⟨ho,rfl⟩
 ·exact ⟨(Qjl ho ha ht hv htv).1,Qgc _ _ _⟩
theorem QoN:∀(f:Nat) (a b:Int) (σ:HH) (w:Nat),HOk σ→Ql σ.cs a=true→Ql σ.cs b=true→
  Qck f a b (toU σ w)=((Qdh f a b σ w).ok,toU (Qdh f a b σ w).s (Qdh f a b σ w).w)∧HOk (Qdh f a b σ w).s∧(Qdh f a b σ w).s.cs.length=σ.cs.length
 |0,a,b,σ,w,ho,ha,hb=>by
  refine ⟨?_,ho,rfl⟩;simp only [Qck];rw [Qf1,QdF ho ha,QdF ho hb];rfl
 | f + 1, a, b, σ, w, ho, ha, hb => by
  obtain ⟨x,c,h1,h2,h3,h4⟩:=ho.view ha;obtain ⟨y,d,g1,g2,g3,g4⟩:=ho.view hb
  have hun:Qck (f+1) a b (toU σ w)=if 400<w+1 then (false,toU σ (w+1)) else if c.k=0 then if d.k=0 then if x=y then (true,toU σ (w+1)) else (true,(toU σ (w+1)).bind (max x y) (min x y)) else Qmd x y (toU σ (w+1)) else if d.k=0 then Qmd y x (toU σ (w+1)) else Qc4 (Qck f) x y (toU σ (w+1)):=by
   have kx:QaY (toU σ w).cs x=c.k:=by show QaY σ.cs x=_;unfold QaY;rw [h2]
   have ky:QaY (toU σ w).cs y=d.k:=by show QaY σ.cs y=_;unfold QaY;rw [g2]
   simp only [Qck];rw [Qf1,QdF ho ha];dsimp only;rw [QdF ho hb];dsimp only;by_cases hw:400<w+1
   ·rw [if_pos (show (toU σ (w+1)).lg=true by simp [toU,hw]),if_pos hw]
   ·rw [if_neg (show¬(toU σ (w+1)).lg=true by simp [toU];omega),if_neg hw,if_neg hw,if_neg hw,h1.look,g1.look,kx,ky]
  rw [hun];by_cases hw:400<w+1
  ·rw [if_pos hw,show Qdh (f+1) a b σ w=⟨false,σ,w+1⟩ from QoS (A:=Qes) hw];exact ⟨rfl,ho,rfl⟩
  rw [if_neg hw];by_cases hc:c.k=0
  ·have va:Q0 σ a= .var x:=h4.trans (if_pos hc);rw [if_pos hc];by_cases hd:d.k=0
   ·have vb:Q0 σ b= .var y:=g4.trans (if_pos hd);rw [if_pos hd];by_cases e:x=y
    ·subst e;rw [if_pos rfl,show Qdh (f+1) a b σ w=⟨true,σ,w+1⟩ from QoR (A:=Qes) hw va vb];exact ⟨rfl,ho,rfl⟩
    ·rw [if_neg e,show Qdh (f+1) a b σ w=⟨true,Qjh σ (max (Qp σ.cs a) (Qp σ.cs b)) (min (Qp σ.cs a) (Qp σ.cs b)),w+1⟩ from QoT (A:=Qes) hw va vb e];have:=(Qji ho ha hb va vb e).1;rw [h1.look,g1.look] at this⊢;exact ⟨rfl,this,Qgc _ _ _⟩
   ·have vb:=g4.trans (if_neg hd);rw [if_neg hd,show Qdh (f+1) a b σ w=Qk3 x b σ (w+1) from QsC (A:=Qes) hw va vb];refine ⟨?_,Qqx ho ha va hb vb _⟩;have:=Qqv (c:=c) ho h2 hc hb (w+1);rw [g1.look] at this;exact this
  ·have va:=h4.trans (if_neg hc);rw [if_neg hc];by_cases hd:d.k=0
   ·have vb:Q0 σ b= .var y:=g4.trans (if_pos hd);rw [if_pos hd,show Qdh (f+1) a b σ w=Qk3 y a σ (w+1) from QsD (A:=Qes) hw va vb];refine ⟨?_,Qqx ho hb vb ha va _⟩;have:=Qqv (c:=d) ho g2 hd ha (w+1);rw [h1.look] at this;exact this
   ·have vb:=g4.trans (if_neg hd);rw [if_neg hd];obtain ⟨a1,a2⟩:=Qgk ho.gl h2;obtain ⟨b1,b2⟩:=Qgk ho.gl g2;have hgc:=QM (Qam ho.gl h2);have hgd:=QM (Qam ho.gl g2)
    have hiff:(c.k=d.k∧ctl c=ctl d∧c.s=d.s∧(ups (x+1) (QH c).toNat).length=(ups (y+1) (QH d).toNat).length)↔c=d:=by
     rw [Qlo,Qlo];clear va vb h4 g4 h1 g1 h2 g2 h3 g3 a1 b1 hun;obtain ⟨ck,cn,cs⟩:=c;obtain ⟨dk,dn,ds⟩:=d;simp only [HC.mk.injEq,ctl,QH] at*;constructor
     ·rintro ⟨e1,e2,e3,e4⟩;subst e1;refine ⟨rfl,?_,e3⟩;split at e4<;>simp_all<;>omega
     ·rintro ⟨rfl,rfl,rfl⟩;exact ⟨rfl,rfl,rfl,rfl⟩
    unfold Qc4;by_cases hcd:c=d
    ·have he:hat (toU σ (w+1)).cs x=hat (toU σ (w+1)).cs y:=by show hat σ.cs x=hat σ.cs y;rw [h2,g2,hcd]
     rw [if_pos he,show Qdh (f+1) a b σ w=QfX (Qdh f) (ups (x+1) (QH c).toNat) (ups (y+1) (QH d).toNat) σ (w+1) from QsF (A:=Qes) hw va vb (hiff.2 hcd)]
     have hargs:Qaw (toU σ (w+1)).cs x=(QH c).toNat:=by show Qaw σ.cs x=_;unfold Qaw;rw [h2]
     rw [hargs,←hcd];rw [←hcd] at b1 b2
     exact QqG σ.cs.length (fun p q τ w' hτ hn hp hq=>by
      obtain ⟨i1,i2,i3⟩:=QoN f p q τ w' hτ hp hq
      exact ⟨i1,i2,i3.trans hn⟩) _ _ _ _ _ ho rfl fun i i0 i1=>by
       have p1:=Qm.1 (a1 i i0 Ya);have p2:=Qm.1 (b1 i i0 Ya);omega
    ·have he:¬hat (toU σ (w+1)).cs x=hat (toU σ (w+1)).cs y:=by
      show¬hat σ.cs x=hat σ.cs y;rw [h2,g2];exact fun e=>hcd (Option.some.inj e)
     rw [if_neg he,show Qdh (f+1) a b σ w=⟨false,σ,w+1⟩ from QsE (A:=Qes) hw va vb fun h=>hcd (hiff.1 h)];exact ⟨rfl,ho,rfl⟩
theorem Qm1 {h:HH} {g g':Int→Nat→Option (Tm×Nat)} (hg:∀x l,Ql h.cs x=true→g x l=g' x l):∀(m:Nat) (x:Int) (l:Nat),(∀i:Int,0≤i→i<m→Ql h.cs (x+i)=true)→Qc9 g m x l=Qcm g' (ups x m) l
 |0,x,l,_=>rfl
 |m+1,x,l,hd=>by
  have h0:=hd 0 Ya Ya;rw [show x+0=x by omega] at h0;simp only [Qc9,ups,Qcm];rw [hg x l h0]
  cases g' x l with
  |none=>rfl
  |some p=>
   obtain ⟨t,l'⟩:=p;simp only [Option.bind_some];rw [Qm1 hg m (x+1) l' fun i i0 i1=>by rw [show x+1+i=x+(i+1) by omega];exact hd _ Ya Ya];cases Qcm g' (ups (x+1) m) l'<;>rfl
theorem QrZ {h:HH} (ho:HOk h):∀(f:Nat) (a:Int) (l:Nat),Ql h.cs a=true→QfH h.cs f a l=Qhs h f a l
 |0,a,l,_=>rfl
 |f+1,a,l,ha=>by
  by_cases hl:l=0
  ·subst hl;rw [show Qhs h (f+1) a 0=none from Qk9 (A:=Qes)];simp [QfH]
  obtain ⟨x,c,h1,h2,h3,h4⟩:=ho.view ha;rw [QiO hl (by rw [h1.look];exact h2),h1.look];have hgc:=QM (Qam ho.gl h2);by_cases hk:c.k=0
  ·rw [if_pos hk];exact (Qgl (A:=Qes) hl (h4.trans (if_pos hk))).symm
  have hv:=h4.trans (if_neg hk);rw [if_neg hk,show Qhs h (f+1) a l=(Qcm (Qhs h f) (ups (x+1) (QH c).toNat) (l-1)).map fun p=>(⟨c.k,ctl c,c.s,p.1⟩,p.2) from Qe3 (A:=Qes) hl hv];by_cases k1:c.k=1
  ·rw [if_pos k1]
   have e1:QH c=0:=by unfold QH;rw [if_neg Ya]
   have e2:ctl c=0:=by unfold ctl;rw [if_neg Ya];omega
   simp only [e1,e2,k1,Int.toNat_zero,ups,Qcm,Option.map_some]
  by_cases k2:c.k=2
  ·rw [if_neg k1,if_pos k2]
   have e1:QH c=0:=by unfold QH;rw [if_neg Ya]
   have e2:ctl c=c.n:=by unfold ctl;rw [if_neg Ya]
   have e3:c.s=eS:=by
    rcases hgc with h|h|h|h
    ·omega
    ·omega
    ·exact h.2
    ·omega
   simp only [e1,e2,k2,e3,Int.toNat_zero,ups,Qcm,Option.map_some]
  rw [if_neg k1,if_neg k2];have k3:c.k=3:=by omega
  have e2:ctl c=0:=by unfold ctl;rw [if_pos k3]
  obtain ⟨g1,g2⟩:=Qgk ho.gl h2;rw [Qm1 (fun y l hy=>QrZ ho f y l hy) _ _ _ fun i i0 i1=>g1 i i0 Ya,e2,k3]
def Qc3 (k n:Int) (s:ByteArray):HC:=if k=0 then ⟨0,n,eS⟩ else if k=2 then ⟨2,n,eS⟩ else ⟨1,0,s⟩
def Qbp:Ts→Nat→List HC×List HC
 | .nil,_=>([],[])
 | .cons k n s ar r,p=>
  if k = 3 then
   (⟨0,(p:Nat),eS⟩::(Qbp r (p+(((Qbp ar (p+1+ar.length)).1++(Qbp ar (p+1+ar.length)).2).length+1))).1,
     (⟨3,(ar.length:Nat),s⟩::((Qbp ar (p+1+ar.length)).1++(Qbp ar (p+1+ar.length)).2))++(Qbp r (p+(((Qbp ar (p+1+ar.length)).1++(Qbp ar (p+1+ar.length)).2).length+1))).2)
  else (Qc3 k n s::(Qbp r p).1,(Qbp r p).2)
def QkB (s:ByteArray) (ar:Ts) (p:Nat):List HC:=⟨3,(ar.length:Nat),s⟩::((Qbp ar (p+1+ar.length)).1++(Qbp ar (p+1+ar.length)).2)
def QbR (k n:Int) (s:ByteArray) (ar:Ts) (p:Nat):List HC:=if k=3 then QkB s ar p else [Qc3 k n s]
def QaC:Ts→Nat→List HC×List Int
 | .nil,_=>([],[])
 | .cons k n s ar r,p=>(QbR k n s ar p++(QaC r (p+(QbR k n s ar p).length)).1,(p:Nat)::(QaC r (p+(QbR k n s ar p).length)).2)
def Qcu:Nat→Nat→List HC
 |0,_=>[]
 |m+1,i=>⟨0,(i:Nat),eS⟩::Qcu m (i+1)
def QbM (n:Nat):List HC:=Qcu n 0
theorem Qdg:∀m i,(Qcu m i).length=m
 |0,_=>rfl
 |m+1,i=>by simp [Qcu,Qdg m (i+1)]
theorem Qad (n:Nat):(QbM n).length=n:=Qdg n 0
theorem QjP:∀m i j,j<m→(Qcu m i)[j]?=some ⟨0,((i+j:Nat):Int),eS⟩
 |0,_,_,h=>by omega
 |m+1,i,0,h=>by simp [Qcu]
 |m+1,i,j+1,h=>by
  have:=QjP m (i+1) j Ya;rw [show i+(j+1)=i+1+j by omega];simpa [Qcu] using this
theorem QoL {n j:Nat} (h:j<n):(QbM n)[j]?=some ⟨0,(j:Nat),eS⟩:=by
 have:=QjP n 0 j h
 rwa [Nat.zero_add] at this
theorem QhS:∀m i,Qcu (m+1) i=Qcu m i++[⟨0,((i+m:Nat):Int),eS⟩]
 |0,i=>by simp [Qcu]
 |m+1,i=>by
  rw [Qcu,QhS m (i+1),Qcu];rw [show i+1+m=i+(m+1) by omega];rfl
theorem Qcc (n:Int) (s:ByteArray) (ar r:Ts) (p:Nat):Qbp (.cons 3 n s ar r) p=(⟨0,(p:Nat),eS⟩::(Qbp r (p+(QkB s ar p).length)).1,QkB s ar p++(Qbp r (p+(QkB s ar p).length)).2):=by
 rw [Qbp,if_pos rfl];rfl
theorem Qbj {k:Int} (n:Int) (s:ByteArray) (ar r:Ts) (p:Nat) (h:k≠3):Qbp (.cons k n s ar r) p=(Qc3 k n s::(Qbp r p).1,(Qbp r p).2):=by
 rw [Qbp,if_neg h]
theorem QbV (T:Ts):∀p,(Qbp T p).1.length=T.length:=by
 induction T with
 |nil=>intro p;rfl
 |cons k n s ar r _ ih=>
  intro p;by_cases h:k=3
  ·subst h;rw [Qcc];simp [Ts.length,ih]
  ·rw [Qbj _ _ _ _ _ h];simp [Ts.length,ih]
theorem QdR (s:ByteArray) (ar:Ts) (p:Nat):(QkB s ar p).length=1+ar.length+(Qbp ar (p+1+ar.length)).2.length:=by
 simp only [QkB,List.length_cons,List.length_append,QbV];omega
theorem Qm6 (D R:Ts):∀p,Qbp (D.app R) p=((Qbp D p).1++(Qbp R (p+(Qbp D p).2.length)).1,(Qbp D p).2++(Qbp R (p+(Qbp D p).2.length)).2):=by
 induction D with
 |nil=>intro p;simp [Ts.app,Qbp]
 |cons k n s ar r _ ih=>
  intro p;by_cases h:k=3
  ·subst h;rw [Ts.app,Qcc,Qcc,ih];simp only [List.length_append,List.cons_append,List.append_assoc,Nat.add_assoc]
  ·rw [Ts.app,Qbj _ _ _ _ _ h,Qbj _ _ _ _ _ h,ih];simp only [List.cons_append]
theorem Qp3 (T:Ts):∀p,(Qbp T p).2.length+T.length≤2*T.nodes:=by
 induction T with
 |nil=>intro p;simp [Qbp,Ts.length,Ts.nodes]
 |cons k n s ar r iha ihr=>
  intro p;by_cases h:k=3
  ·subst h;rw [Qcc];have h1:=iha (p+1+ar.length);have h2:=ihr (p+(QkB s ar p).length);have h3:=QdR s ar p;simp only [List.length_append,Ts.length,Ts.nodes];omega
  ·rw [Qbj _ _ _ _ _ h];have h2:=ihr p;simp only [Ts.length,Ts.nodes];omega
theorem QlU (k n:Int) (s:ByteArray) (ar:Ts) (p:Nat):(QbR k n s ar p).length≤1+2*ar.nodes:=by
 unfold QbR;split
 ·have:=Qp3 ar (p+1+ar.length);rw [QdR];omega
 ·simp
theorem Qm5 (D R:Ts):∀p,QaC (D.app R) p=((QaC D p).1++(QaC R (p+(QaC D p).1.length)).1,(QaC D p).2++(QaC R (p+(QaC D p).1.length)).2):=by
 induction D with
 |nil=>intro p;simp [Ts.app,QaC]
 |cons k n s ar r _ ih=>
  intro p;simp only [Ts.app,QaC,ih,List.length_append,List.cons_append,List.append_assoc,Nat.add_assoc]
theorem Qjb (T:Ts):∀p,(QaC T p).1.length≤2*T.nodes:=by
 induction T with
 |nil=>intro p;simp [QaC]
 |cons k n s ar r iha ihr=>
  intro p;have h1:=QlU k n s ar p;have h2:=ihr (p+(QbR k n s ar p).length);simp only [QaC,List.length_append,Ts.nodes];omega
theorem Qja (T:Ts):∀p,(QaC T p).2.length=T.length:=by
 induction T with
 |nil=>intro p;rfl
 |cons k n s ar r iha ihr=>intro p;simp only [QaC,List.length_cons,ihr,Ts.length]
def Qt (c:Cl):List HC:=QbM c.vars.toNat++(QbR c.k c.n c.s c.hd c.vars.toNat++(QaC c.bd (c.vars.toNat+(QbR c.k c.n c.s c.hd c.vars.toNat).length)).1)
def Qar (c:Cl):List Int:=(QaC c.bd (c.vars.toNat+(QbR c.k c.n c.s c.hd c.vars.toNat).length)).2
def Qae (vars:Int) (T:Ts):List HC:=QbM vars.toNat++(QaC T vars.toNat).1
def Qa9 (vars:Int) (T:Ts):List Int:=(QaC T vars.toNat).2
theorem Ts.goals_nodes (vars:Int):∀T:Ts,T.goals vars=true→T.nodes≤24*T.length
 | .nil,_=>by simp [Ts.nodes]
 | .cons k n s ar r,h=>by
  simp only [Ts.goals,Bool.and_eq_true,gB,decide_eq_true_eq] at h;have:=Ts.goals_nodes vars r h.2;simp only [Ts.nodes,Ts.length];omega
structure XL where
 g:Int
 o:Nat
 nx:Int
structure XC where
 at_:Nat
 cls:List Cl
 cells:Nat
 bound:Nat
structure XS where
 h:HH
 goals:Nat
 ln:List XL
 first:Int
 ch:List XC
 ev:List Ts
def lnk (L:List XL) (i:Nat):XL:=L.getD i ⟨0,0, -1⟩
def QbS (start:Nat) (o:Nat):List Int→Int→List XL→List XL×Int
 |[],nx,L=>(L,nx)
 |g::r,nx,L=>((QbS start o r nx L).1++[⟨start+g,o,(QbS start o r nx L).2⟩],((QbS start o r nx L).1.length:Nat))
def Qdy (h:HH) (b:Cl) (g:Int):HH×Bool×Int:=QV (Q7 h (Qt b)).1 ((Q7 h (Qt b)).2.1+b.vars) g
def XS.took (s:XS) (a:Nat) (b:Cl) (more:List Cl) (cells bound:Nat):XS:=
 ⟨(Qdy s.h b (lnk s.ln a).g).1,s.goals,(QbS (Q7 s.h (Qt b)).2.1 s.ch.length (Qar b) (lnk s.ln a).nx s.ln).1,(QbS (Q7 s.h (Qt b)).2.1 s.ch.length (Qar b) (lnk s.ln a).nx s.ln).2,
   match more with|[]=>s.ch|_::_=>⟨a,more,cells,bound⟩::s.ch,s.ev⟩
def QoA (k:XS→Int×XS) (a cells bound:Nat):List Cl→XS→Int×XS
 |[],s=>k s
 |b::more,s=>
  if (Qdy s.h b (lnk s.ln a).g).2.2≠0 then (4,s)
  else if (Qdy s.h b (lnk s.ln a).g).2.1=false then QoA k a cells bound more s
  else (0,s.took a b more cells bound)
def XS.back (s:XS) (c:XC) (cs:List XC):XS:=⟨(QkW (Qcv s.h (c.bound:Nat)).1 (c.cells:Nat)).1,s.goals,s.ln,s.first,cs,s.ev⟩
def Qid:List XC→XS→Int×XS
 |[],s=>(2,s)
 |c::cs,s=>QoA (Qid cs) c.at_ c.cells c.bound c.cls (s.back c cs)
def QdD (s:XS):Int×XS:=Qid s.ch s
def XS.setH (s:XS) (h:HH):XS:=⟨h,s.goals,s.ln,s.first,s.ch,s.ev⟩
def QeX (a b:Int) (s:XS):Int×XS:=
 if (QV s.h a b).2.2≠0 then (4,s.setH (QV s.h a b).1)
 else if (QV s.h a b).2.1=false then QdD (s.setH (QV s.h a b).1)
 else (0,s.setH (QV s.h a b).1)
def QX (h:HH) (a:Int):HC:=(hat h.cs (Qp h.cs a)).getD ⟨0,0,eS⟩
def QlT (a:Int) (s:XS):Int×XS:=
 if (QX s.h a).k≠2∨(QX s.h (a+1)).k≠2 then (5,s) else if (QX s.h (a+1)).n≤(QX s.h a).n then QdD s else (0,s)
def Qtm (a:Int) (s:XS):Int×XS:=
 if (QX s.h a).k≠2∨(QX s.h (a+1)).k≠2 then (5,s)
 else if (QX s.h a).n+(QX s.h (a+1)).n< -1099511627776∨1099511627776<(QX s.h a).n+(QX s.h (a+1)).n then (5,s)
 else QeX (a+2) (Q7 s.h [⟨2,(QX s.h a).n+(QX s.h (a+1)).n,eS⟩]).2.1 (s.setH (Q7 s.h [⟨2,(QX s.h a).n+(QX s.h (a+1)).n,eS⟩]).1)
def Qbc (h:HH) (g:Int):HC:=(hat h.cs g).getD ⟨0,0,eS⟩
def Qe1 (l:XL) (s:XS):Int×XS:=
 if (Qbc s.h l.g).s.toList=[33] then (0,⟨s.h,s.goals,s.ln,s.first,s.ch.drop (s.ch.length-l.o),s.ev⟩)
 else if (Qbc s.h l.g).s.toList=[116,114,117,101] then (0,s)
 else if (Qbc s.h l.g).s.toList=[101,113] then QeX (l.g+1) (l.g+1+1) s
 else if (Qbc s.h l.g).s.toList=[108,101,115,115] then QlT (l.g+1) s
 else if (Qbc s.h l.g).s.toList=[97,100,100] then Qtm (l.g+1) s
 else QdD s
def Qb3 (h:HH):Nat→Nat→Int→Option (Ts×Int)
 |0,_,l=>some (.nil,l)
 |m+1,v,l=>if (Qbb h (v:Nat) l).2.2≠0 then none else match Qb3 h m (v+1) (l-((Qbb h (v:Nat) l).2.1:Nat)) with
  |none=>none
  |some (T,l'')=>some (.cons (Qbb h (v:Nat) l).1.k (Qbb h (v:Nat) l).1.n (Qbb h (v:Nat) l).1.s (Qbb h (v:Nat) l).1.ar T,l'')
def XS.tell (s:XS) (T:Ts):XS:=⟨s.h,s.goals,s.ln,s.first,s.ch,s.ev++[T.tidy]⟩
def QcB (vars:Nat) (s:XS):Int×XS:=match Qb3 s.h vars 0 200 with
 |none=>(4,s)
 |some (T,_)=>if s.ev.length+1=12 then (6,s.tell T) else QdD (s.tell T)
def Qhe (c:Cl):HC:=if c.k=3 then ⟨3,(c.hd.length:Nat),c.s⟩ else Qc3 c.k c.n c.s
def Qjr (p:List Cl) (a:Nat) (s:XS):Int×XS:=match p.filter (fun c=>decide (Qhe c=Qbc s.h (lnk s.ln a).g)) with
 |[]=>(5,s)
 |b::more=>QoA (Qid s.ch) a s.h.cs.length s.h.tr.length (b::more) s
def Qav (L:List XL):Nat→Int→List Bool×List Nat→List Bool×List Nat
 |0,_,p=>p
 |f+1,i,p=>if i= -1 then p else if p.1[i.toNat]?=some true then p else Qav L f (lnk L i.toNat).nx (p.1.set i.toNat true,p.2++[i.toNat])
def QbP (L:List XL):List XC→List Bool×List Nat→List Bool×List Nat
 |[],p=>p
 |c::r,p=>QbP L r (Qav L (L.length+1) (c.at_:Nat) p)
def QbH (s:XS):List Nat:=(QbP s.ln s.ch.reverse (Qav s.ln (s.ln.length+1) s.first (List.replicate s.ln.length false,[]))).2
def QoF (L:List XL) (i:Nat) (g:Int):List XL:=L.modify i fun l=>⟨g,l.o,l.nx⟩
def Qc8:List Nat→List Int→List XL→List XL
 |i::r,g::q,L=>Qc8 r q (QoF L i g)
 |_,_,L=>L
def Qrb:List XC→List Int→List Int→List XC
 |c::r,t::T,k::K=>⟨c.at_,c.cls,t.toNat,k.toNat⟩::Qrb r T K
 |L,_,_=>L
def QQ (vars:Nat) (s:XS):List Int:=((List.range vars).map fun v=>((v:Nat):Int))++(QbH s).map fun i=>(lnk s.ln i).g
noncomputable def Qhn (vars:Nat) (s:XS):XS:=
 let r:=Qbn s.h (QQ vars s) (s.ch.reverse.map fun c=>((c.cells:Nat):Int)) (s.ch.reverse.map fun c=>((c.bound:Nat):Int))
 ⟨r.1,s.goals,Qc8 (QbH s) (r.2.1.drop vars) s.ln,s.first,(Qrb s.ch.reverse r.2.2.1 r.2.2.2.1).reverse,s.ev⟩
noncomputable def QG (vars every:Nat) (s:XS):XS:=if 0<every∧s.goals%every=0 then Qhn vars s else s
noncomputable def QaU (p:List Cl) (vars fuel every:Nat) (s:XS):Int×XS:=
 if s.first= -1 then QcB vars s
 else if s.goals=fuel then (3,s)
 else
  let t:=QG vars every s
  let u:XS:=⟨t.h,t.goals+1,t.ln,(lnk t.ln t.first.toNat).nx,t.ch,t.ev⟩
  if QK (Qbc u.h (lnk u.ln t.first.toNat).g).s.toList (Qbc u.h (lnk u.ln t.first.toNat).g).n.toNat=true then Qe1 (lnk u.ln t.first.toNat) u else Qjr p t.first.toNat u
noncomputable def Qrf (p:List Cl) (vars fuel every:Nat):Nat→XS→List Ev
 |0,_=>[]
 |n+1,s=>if (QaU p vars fuel every s).1=0 then Qrf p vars fuel every n (QaU p vars fuel every s).2 else Qce (QaU p vars fuel every s).2.ev++[((QaU p vars fuel every s).1,.nil)]
def Qdl (q:Ts) (vars:Int):XS:=
 ⟨(Q7 ⟨[],[]⟩ (Qae vars q)).1,0,(QbS (Q7 ⟨[],[]⟩ (Qae vars q)).2.1 0 (Qa9 vars q) (-1) []).1,(QbS (Q7 ⟨[],[]⟩ (Qae vars q)).2.1 0 (Qa9 vars q) (-1) []).2,[],[]⟩
theorem Qoj {n f f':Nat} {c:HC} (hf:f≤f') (h:Q9 n c f=true):Q9 n c f'=true:=by
 rcases QM h with ⟨k,a,b,s⟩|⟨k,a,s⟩|⟨k,s⟩|⟨k,a,b,d,s⟩
 ·unfold Q9;rw [if_pos k];simp [a,b,s]
 ·unfold Q9;rw [if_neg Ya,if_pos k];simp [a,s]
 ·unfold Q9;rw [if_neg Ya,if_neg Ya,if_pos k];simp [s]
 ·unfold Q9;rw [if_neg Ya,if_neg Ya,if_neg Ya,if_pos k];simp only [Bool.and_eq_true,decide_eq_true_eq,Bool.not_eq_true',decide_eq_false_iff_not];exact ⟨a,b,by omega,s⟩
theorem Qbk {n:Nat} {Y:List HC} (hY:QL n Y=true):∀{X:List HC},QL n X=true→QL n (X++Y)=true
 |[],_=>hY
 |c::r,h=>by
  simp only [QL,Bool.and_eq_true,List.cons_append] at h⊢;exact ⟨Qoj Yd h.1,Qbk hY h.2⟩
theorem Qkn {s:ByteArray} (h:Qa5 s=true):s≠eS:=by
 intro e;subst e;exact absurd h Yg
theorem QmB {s:ByteArray} (h:s.toList=[]):s=eS:=by
 apply QhU.1;rw [h];kernel_rfl
theorem QdL {vars k n:Int} {s:ByteArray} {l:Nat} (h:Qah vars k n s l=true):(k=0∧0≤n∧n<vars∧s=eS∧l=0)∨(k=1∧n=0∧s≠eS∧l=0)∨(k=2∧s=eS∧l=0)∨(k=3∧n=0∧s≠eS∧1≤l∧l≤4):=by
 unfold Qah at h;split at h
 ·simp only [Bool.and_eq_true,decide_eq_true_eq] at h;exact .inl ⟨‹_›,h.1.1.1,h.1.1.2,QmB h.1.2,h.2⟩
 split at h
 ·simp only [Bool.and_eq_true,decide_eq_true_eq] at h;exact .inr (.inl ⟨‹_›,h.1.1,Qkn h.1.2,h.2⟩)
 split at h
 ·simp only [Bool.and_eq_true,decide_eq_true_eq] at h;exact .inr (.inr (.inl ⟨‹_›,QmB h.1.2,h.2⟩))
 split at h
 ·simp only [Bool.and_eq_true,decide_eq_true_eq] at h;exact .inr (.inr (.inr ⟨‹_›,h.1.1.1.1,Qkn h.1.1.1.2,h.1.2,h.2⟩))
 ·cases h
theorem QbI {vars k n:Int} {s:ByteArray} {ar r:Ts} (h:(Ts.cons k n s ar r).good vars=true):Qah vars k n s ar.length=true∧ar.good vars=true∧r.good vars=true:=by
 simp only [Ts.good,Bool.and_eq_true] at h;exact ⟨h.1.1,h.1.2,h.2⟩
theorem Ts.good_ap (v:Int) (D R:Ts):(D.app R).good v=(D.good v&&R.good v):=by
 induction D with
 |nil=>rfl
 |cons k n b ar r _ ih=>simp only [Ts.app,Ts.good,ih,Bool.and_assoc]
theorem Qhi {n f:Nat} {i:Int} (h0:0≤i) (h:i<n):Q9 n ⟨0,i,eS⟩ f=true:=by unfold Q9;simp [h,h0]
theorem Qit {n f:Nat} {s:ByteArray} (h:s≠eS):Q9 n ⟨1,0,s⟩ f=true:=by unfold Q9;simp [h]
theorem QkN {n f:Nat} {i:Int}:Q9 n ⟨2,i,eS⟩ f=true:=by unfold Q9;simp
theorem Qhj {n f l:Nat} {s:ByteArray} (h:s≠eS) (h1:1≤l) (h2:l≤4) (h3:l≤f):Q9 n ⟨3,(l:Nat),s⟩ f=true:=by
 unfold Q9;simp [h];omega
theorem Qp4 {vars:Int} {all:Nat} (hv:vars≤all) (T:Ts):∀p,T.good vars=true→p+(Qbp T p).2.length≤all→QL all (Qbp T p).1=true∧QL all (Qbp T p).2=true:=by
 induction T with
 |nil=>intro p _ _;exact ⟨rfl,rfl⟩
 |cons k n s ar r iha ihr=>
  intro p hg hp;obtain ⟨hn,ha,hr⟩:=QbI hg;rcases QdL hn with ⟨rfl,h0,h1,h2,h3⟩|⟨rfl,h0,h1,h2⟩|⟨rfl,h0,h1⟩|⟨rfl,h0,h1,h2,h3⟩
  ·rw [Qbj _ _ _ _ _ Yg] at hp⊢;obtain ⟨i1,i2⟩:=ihr p hr hp;refine ⟨?_,i2⟩;simp only [QL,Bool.and_eq_true];exact ⟨Qhi h0 Ya,i1⟩
  ·rw [Qbj _ _ _ _ _ Yg] at hp⊢;obtain ⟨i1,i2⟩:=ihr p hr hp;refine ⟨?_,i2⟩;simp only [QL,Bool.and_eq_true];exact ⟨Qit h1,i1⟩
  ·rw [Qbj _ _ _ _ _ Yg] at hp⊢;obtain ⟨i1,i2⟩:=ihr p hr hp;refine ⟨?_,i2⟩;simp only [QL,Bool.and_eq_true];exact ⟨QkN,i1⟩
  ·rw [Qcc] at hp⊢;have hls:=QdR s ar p;simp only [List.length_append] at hp;obtain ⟨a1,a2⟩:=iha (p+1+ar.length) ha Ya;obtain ⟨i1,i2⟩:=ihr (p+(QkB s ar p).length) hr Ya;refine ⟨?_,Qbk i2 ?_⟩
   ·simp only [QL,Bool.and_eq_true];exact ⟨Qhi Ya Ya,i1⟩
   ·unfold QkB;simp only [QL,Bool.and_eq_true];exact ⟨Qhj h1 h2 h3 (by rw [List.length_append,QbV];omega),Qbk a2 a1⟩
theorem QkD {vars k n:Int} {s:ByteArray} {ar:Ts} {all p:Nat} (hv:vars≤all) (h:gB vars k n s ar=true) (hp:p+(QbR k n s ar p).length≤all):QL all (QbR k n s ar p)=true:=by
 simp only [gB,Qfv,Bool.and_eq_true,Bool.or_eq_true,decide_eq_true_eq] at h;obtain ⟨hn,ha,_⟩:=QbI h.1.2;rcases QdL hn with ⟨rfl,_⟩|⟨rfl,h0,h1,h2⟩|⟨rfl,_⟩|⟨rfl,h0,h1,h2,h3⟩
 ·rcases h.1.1 with h|h<;>omega
 ·unfold QbR;rw [if_neg Yg];simp only [QL,Bool.and_eq_true,and_true];exact Qit h1
 ·rcases h.1.1 with h|h<;>omega
 ·unfold QbR at hp⊢;rw [if_pos rfl] at hp⊢;have hls:=QdR s ar p;obtain ⟨a1,a2⟩:=Qp4 hv ar (p+1+ar.length) ha Ya;unfold QkB;simp only [QL,Bool.and_eq_true];exact ⟨Qhj h1 h2 h3 (by rw [List.length_append,QbV];omega),Qbk a2 a1⟩
theorem QkC {vars:Int} {all:Nat} (hv:vars≤all) (T:Ts):∀p,T.goals vars=true→p+(QaC T p).1.length≤all→QL all (QaC T p).1=true:=by
 induction T with
 |nil=>intro p _ _;rfl
 |cons k n s ar r _ ihr=>
  intro p hg hp;simp only [Ts.goals,Bool.and_eq_true] at hg;simp only [QaC,List.length_append] at hp⊢;exact Qbk (ihr _ hg.2 Ya) (QkD hv hg.1 Ya)
theorem Qfa {all:Nat}:∀m i,i+m≤all→QL all (Qcu m i)=true
 |0,i,_=>rfl
 |m+1,i,h=>by
  simp only [Qcu,QL,Bool.and_eq_true];exact ⟨Qhi Ya Ya,Qfa m (i+1) Ya⟩
theorem QfT {c:Cl} (h:cB c=true):0≤c.vars∧c.vars≤8∧c.bd.length≤5∧c.bd.goals c.vars=true∧gB c.vars c.k c.n c.s c.hd=true:=by
 simp only [cB,qB,Bool.and_eq_true,decide_eq_true_eq] at h;exact ⟨h.1.1.1.1.1,h.1.1.1.1.2,h.1.1.1.2,h.1.1.2,h.1.2⟩
theorem Qnh {vars k n:Int} {s:ByteArray} {ar:Ts} (h:gB vars k n s ar=true):ar.nodes+1≤24:=by
 simp only [gB,Bool.and_eq_true,decide_eq_true_eq] at h;exact h.2
theorem QcP {c:Cl} (h:cB c=true):(Qt c).length≤300:=by
 obtain ⟨h0,h1,h2,h3,h4⟩:=QfT h;have h5:=Qnh h4;have h6:=Ts.goals_nodes _ _ h3;have h7:=QlU c.k c.n c.s c.hd c.vars.toNat;have h8:=Qjb c.bd (c.vars.toNat+(QbR c.k c.n c.s c.hd c.vars.toNat).length);simp only [Qt,List.length_append,Qad];omega
theorem Qhr {c:Cl} (h:cB c=true):Q8 (Qt c)=true:=by
 obtain ⟨h0,h1,h2,h3,h4⟩:=QfT h;have hl:=QcP h;unfold Q8;simp only [Bool.and_eq_true,decide_eq_true_eq];refine ⟨by omega,?_⟩
 have he:(Qt c).length=c.vars.toNat+((QbR c.k c.n c.s c.hd c.vars.toNat).length+(QaC c.bd (c.vars.toNat+(QbR c.k c.n c.s c.hd c.vars.toNat).length)).1.length):=by
  simp only [Qt,List.length_append,Qad]
 unfold Qt;refine Qbk (Qbk (QkC (vars:=c.vars) Yao _ _ h3 Yao) (QkD (vars:=c.vars) Yao h4 Yao)) (Qfa _ _ Yao)
end Go.Proofs.YthliapbflkfdiacGreatDoor
