/- XColl3, XAll, HOps, HWalk1: texts that follow one another, laid into one file. -/
import Derived.Test.YthliapbflkfdiacGreatDoorZ0
import Derived.Test.YthliapbflkfdiacGreatDoorG30
import Derived.Test.YthliapbflkfdiacGreatDoorG28
import Derived.Test.YthliapbflkfdiacGreatDoorG21
import Derived.Test.YthliapbflkfdiacGreatDoorG18
import Derived.Test.YthliapbflkfdiacGreatDoorProg
import Derived.Test.YthliapbflkfdiacGreatDoorG1
import Derived.Laws.StructEq
namespace Go.Proofs.YthliapbflkfdiacGreatDoor
open Go.RowKit
set_option linter.unusedVariables false
set_option linter.unusedSimpArgs false
set_option maxRecDepth 8000
theorem Qfv {L:List XL} {P:Int→Prop} {Qk:Nat→Prop} (hP:∀i:Int,i≠-1→P i→Qk i.toNat∧P (lnk L i.toNat).nx):∀(f:Nat) (i:Int) (p:List Bool×List Nat),P i→(∀k∈p.2,Qk k)→∀k∈(Qay L f i p).2,Qk k
 |0,i,p,_,hq=>hq
 |f+1,i,p,hi,hq=>by
  simp only [Qay]
  by_cases h1:i= -1
  ·rw [if_pos h1];exact hq
  rw [if_neg h1]
  by_cases h2:p.1[i.toNat]?=some true
  ·rw [if_pos h2];exact hq
  rw [if_neg h2]
  obtain ⟨a1,a2⟩:=hP i h1 hi
  refine Qfv hP f _ _ a2 fun k hk=> ?_
  rcases List.mem_append.1 hk with hk|hk
  ·exact hq k hk
  ·rw [List.mem_singleton.1 hk];exact a1
theorem Qga {L:List XL} {P:Int→Prop} {Qk:Nat→Prop} (hP:∀i:Int,i≠-1→P i→Qk i.toNat∧P (lnk L i.toNat).nx):∀(C:List XC) (p:List Bool×List Nat),(∀c∈C,P (c.at_:Nat))→(∀k∈p.2,Qk k)→∀k∈(Qb2 L C p).2,Qk k
 |[],p,_,hq=>hq
 |c::r,p,hC,hq=>Qga hP r _ (fun c hc=>hC c (List.mem_cons_of_mem _ hc)) (Qfv hP _ _ p (hC c (List.mem_cons_self ..)) hq)
def Pl (L:List XL) (cs:List HC) (i:Int):Prop:=∃(R:Tm→Int→Prop) (G:List Gl),Qai R L i G∧∀t a,R t a→Qj cs a=true
theorem Pl.next {L:List XL} {cs:List HC} (i:Int) (hi:i≠-1) (h:Pl L cs i):Qj cs (lnk L i.toNat).g=true∧Pl L cs (lnk L i.toNat).nx:=by
 obtain ⟨R,G,hc,hR⟩:=h
 cases G with
 |nil=>exact absurd hc hi
 |cons g r=>
  obtain ⟨k,l,rfl,h2,h3,h4,h5,h6⟩:=hc
  rw [Int.toNat_natCast,Qjl h2]
  exact ⟨hR _ _ h3,R,r,h6,hR⟩
theorem QT.pl {q f:Nat} {L:List XL}:∀{B:Bnd} {h:HH} {cs:List Ch} {ds:List XC},QT q f L B h cs ds→∀d∈ds,Pl L h.cs (d.at_:Nat)
 |_,_,[],[],_,d,hd=>by cases hd
 |_,h,c::cs,e::ds,⟨R,g,b1,_,b3,b4,_,_,b7⟩,d,hd=>by
  have hl:=b1.len.1
  have ht:=b1.ht
  have up:∀a,Qj g.cs a=true→Qj h.cs a=true:=fun a ha=>by
   obtain ⟨a0,a1⟩:=Ql.1 ha
   exact Ql.2 ⟨a0,by omega⟩
  rcases List.mem_cons.1 hd with rfl|hd
  ·exact ⟨_,_,b4,fun t a ht=>up a (b3.bm.db ht.1)⟩
  ·obtain ⟨R',G,h1,h2⟩:=b7.pl d hd
   exact ⟨R',G,h1,fun t a ht=>up a (h2 t a ht)⟩
theorem QkZ:∀(I:List Nat) (V:List Int) (L:List XL),(Qdl I V L).length=L.length
 |[],V,L=>by cases V<;>rfl
 |i::r,[],L=>rfl
 |i::r,v::V,L=>by simp only [Qdl];rw [QkZ r V];simp [QpN]
theorem Qop {q F:Nat} {s:SS} {x:XS} (H:Qip q F s x):Qip q F s (Qib q x)∧(Qib q x).first=x.first∧(Qib q x).goals=x.goals:=by
 obtain ⟨R,hG,hC⟩:=H.cur
 have hb:=hC.bd
 obtain ⟨hI,hf,hcl⟩:=Qrd H.i.lnx hb.1 hb.2 H.i.ch.at_lt
 have hgd:=H.i.gd
 have ho:=H.i.ho
 have hlive:∀k∈QbR x,Qj x.h.cs (lnk x.ln k).g=true:=
  Qga (P:=Pl x.ln x.h.cs) (fun i hi hp=>hp.next i hi) _ _ (fun c hc=>H.i.ch.pl c (List.mem_reverse.1 hc)) (Qfv (P:=Pl x.ln x.h.cs) (fun i hi hp=>hp.next i hi) _ _ _ ⟨_,_,hC,fun t a ht=>hG.bm.db ht.1⟩ fun k hk=>by cases hk)
 have hroot:∀r∈QQ q x,Qj x.h.cs r=true:=by
  intro r hr
  unfold QQ at hr
  rcases List.mem_append.1 hr with hr|hr
  ·obtain ⟨v,hv,rfl⟩:=List.mem_map.1 hr
   exact hG.bm.db (hG.qv v (List.mem_range.1 hv))
  ·obtain ⟨k,hk,rfl⟩:=List.mem_map.1 hr
   exact hlive k hk
 have C:Cx x.h (QQ q x) (QI x.h.cs (QQ q x)):=⟨hgd,QhP _ _⟩
 have hrc:∀r∈QQ q x,Rc x.h.cs (QQ q x) r:=fun r hr=> .root hr (hroot r hr)
 have hmv:∀v:Nat,v<q→((v:Nat):Int)∈QQ q x:=fun v hv=>List.mem_append_left _ (List.mem_map.2 ⟨v,List.mem_range.2 hv,rfl⟩)
 have hml:∀k∈QbR x,(lnk x.ln k).g∈QQ q x:=fun k hk=>List.mem_append_right _ (List.mem_map.2 ⟨k,hk,rfl⟩)
 have hcol:Qbu x.h (QQ q x) (x.ch.reverse.map fun c=>((c.cells:Nat):Int)) (x.ch.reverse.map fun c=>((c.bound:Nat):Int))=(Qdn (QI x.h.cs (QQ q x)) x.h,(QQ q x).map (rkI (QI x.h.cs (QQ q x))),(x.ch.reverse.map fun c=>((c.cells:Nat):Int)).map (rkI (QI x.h.cs (QQ q x))),(x.ch.reverse.map fun c=>((c.bound:Nat):Int)).map (rkI (x.h.tr.map (Qr (QI x.h.cs (QQ q x))))),0):=by
  unfold Qbu
  rw [if_neg (by rw [hgd];decide),if_neg (by rw [List.all_eq_true.2 hroot];decide)]
  rfl
 have hfro:∀v,v<q→(QI x.h.cs (QQ q x))[v]?=some true:=fun v hv=>by
  have:=(C.rc (hrc _ (hmv v hv))).2.2
  rwa [Int.toNat_natCast] at this
 have hX:Qib q x=⟨Qdn (QI x.h.cs (QQ q x)) x.h,x.goals,Qdl (QbR x) ((QbR x).map fun k=>rkI (QI x.h.cs (QQ q x)) (lnk x.ln k).g) x.ln,x.first,x.ch.map fun d=>⟨d.at_,d.cls,rk (QI x.h.cs (QQ q x)) d.cells,rk (x.h.tr.map (Qr (QI x.h.cs (QQ q x)))) d.bound⟩,x.ev⟩:=by
  unfold Qib
  rw [hcol]
  dsimp only
  have e1:((QQ q x).map (rkI (QI x.h.cs (QQ q x)))).drop q=(QbR x).map fun k=>rkI (QI x.h.cs (QQ q x)) (lnk x.ln k).g:=by
   generalize QI x.h.cs (QQ q x)=M
   unfold QQ
   rw [List.map_append,List.map_map,List.map_map]
   rw [List.drop_left' Yd]
   rfl
  rw [e1,List.map_map,List.map_map,Qhm,←List.map_reverse,List.reverse_reverse]
  rfl
 rw [hX]
 generalize hM:QI x.h.cs (QQ q x)=M at*
 refine ⟨⟨⟨H.i.ev,H.i.fuel,H.i.f150,H.i.q8,?_,H.i.inv,C.kept_good,QgT C ho,?_,?_,?_⟩,⟨QuR M (QQ q x) x.h.cs R,?_,?_⟩,H.gs,?_,?_⟩,rfl,rfl⟩
 ·exact QT.coll hI hfro C ho (fun a _ _=>⟨rfl,rfl⟩) (fun n _=>rfl) (fun n _=>rfl) (fun k hk a e _=>by rw [e];exact (C.rc (hrc _ (hml k hk))).2.2) hcl H.i.ch
 ·intro d hd
  obtain ⟨c,hc,rfl⟩:=List.mem_map.1 hd
  obtain ⟨c1,c2⟩:=H.i.csz c hc
  have r1:=Qqt M c.cells
  have r2:=Qqt (x.h.tr.map (Qr M)) c.bound
  dsimp only
  omega
 ·dsimp only
  rw [QkZ];exact H.i.lsz
 ·intro i l hl
  dsimp only at hl
  rw [Qhl] at hl
  split at hl
  ·cases hq:x.ln[i]? with
   |none=>rw [hq] at hl;cases hl
   |some l'=>
    rw [hq] at hl
    simp only [Option.map_some,Option.some.injEq] at hl
    subst hl
    exact H.i.lnx i l' hq
  ·exact H.i.lnx i l hl
 ·exact hG.coll C fun v hv=>⟨hrc _ (hmv v hv),QnT hfro v Ya⟩
 ·exact Qai.coll hI (fun k hk t ht=>GR.coll C (hrc _ (hml k hk)) ht) hC hf
 ·have h1:=H.cs
  have h2:(Qa9 M x.h.cs).length≤x.h.cs.length:=by
   rw [C.len,C.mks.1];exact Qqt M _
  show (Qa9 M x.h.cs).length≤_
  dsimp only;omega
 ·have h1:=H.ts
  have h2:(Qbx M x.h.tr).length≤x.h.tr.length:=by
   unfold Qbx
   rw [List.length_map,Qaw];exact List.length_filter_le _ _
  show (Qbx M x.h.tr).length≤_
  dsimp only;omega
theorem QnM {P:List Cl} {q F every:Nat} (hp:pB P=true) {s:SS} {x:XS} (H:Qip q F s x) (hev:s.ev.length<12):Qsb q F (Qbc P q s) (Qa1 P q F every x):=by
 have hp2:P.length≤24∧∀x∈P,cB x=true:=by
  unfold pB at hp
  simp only [Bool.and_eq_true,decide_eq_true_eq,List.all_eq_true] at hp
  exact hp
 obtain ⟨hst,hstev⟩:=QjO (vars:=q) H.gs hev hp
 have hfu:=H.i.fuel
 cases hg:s.goals with
 |nil=>
  have hfirst:x.first= -1:=by
   obtain ⟨R,_,hC⟩:=H.cur
   rw [hg] at hC;exact hC
  unfold Qbc Qa1
  rw [hg,if_pos hfirst]
  exact QpH H
 |cons g rest=>
  have hne:x.first≠-1:=by
   obtain ⟨R,_,hC⟩:=H.cur
   rw [hg] at hC
   obtain ⟨k,l,e,_⟩:=hC
   omega
  by_cases hf0:s.fuel=0
  ·unfold Qbc Qa1
   rw [hg,if_neg hne,if_pos (show x.goals=F by omega)]
   dsimp only
   rw [if_pos hf0]
   exact ⟨rfl,H.i.ev,fun h=>by cases h⟩
  have hmb:Qip q F s (QF q every x)∧(QF q every x).first=x.first∧(QF q every x).goals=x.goals:=by
   unfold QF
   split
   ·exact Qop H
   ·exact ⟨H,rfl,rfl⟩
  obtain ⟨H',hfi,hgo⟩:=hmb
  have hstep:Qa1 P q F every x=if QaJ (Qbm (QF q every x).h (lnk (QF q every x).ln (QF q every x).first.toNat).g).s.toList (Qbm (QF q every x).h (lnk (QF q every x).ln (QF q every x).first.toNat).g).n.toNat=true
    then Qfx (lnk (QF q every x).ln (QF q every x).first.toNat) ⟨(QF q every x).h,(QF q every x).goals+1,(QF q every x).ln,(lnk (QF q every x).ln (QF q every x).first.toNat).nx,(QF q every x).ch,(QF q every x).ev⟩
    else Qks P (QF q every x).first.toNat ⟨(QF q every x).h,(QF q every x).goals+1,(QF q every x).ln,(lnk (QF q every x).ln (QF q every x).first.toNat).nx,(QF q every x).ch,(QF q every x).ev⟩:=by
   unfold Qa1
   rw [if_neg hne,if_neg (show¬x.goals=F by omega)]
  rw [hstep]
  have hgo':(QF q every x).goals+s.fuel=F:=H'.i.fuel
  clear hstep hfi hgo hne
  generalize QF q every x=y at*
  obtain ⟨R,hG,hC⟩:=H'.cur
  rw [hg] at hC
  obtain ⟨k,l,hk,h2,h3,h4,h5,h6⟩:=hC
  have hCk:Qai (GR R y.h) y.ln (k:Nat) (g::rest):=⟨k,l,rfl,h2,h3,h4,h5,h6⟩
  have hlk:=Qjl h2
  rw [hk,Int.toNat_natCast,hlk]
  obtain ⟨c1,c2,c3,c4,c5,c6,c7,c8⟩:=Qfp hG h3
  rw [c1,c2]
  obtain ⟨p1,p2,p3,p4,p5,p6,p7⟩:=QcO H.gs hg hf0
  have hlsz:=H'.i.lsz
  have hcs:=H'.cs
  have hts:=H'.ts
  have M:Qu0 q F ⟨s.B,s.fresh,s.fuel-1,rest,s.ch,s.ev⟩ ⟨y.h,y.goals+1,y.ln,l.nx,y.ch,y.ev⟩ R:=by
   refine ⟨⟨H'.i.ev,by show y.goals+1+(s.fuel-1)=F;omega,H'.i.f150,H'.i.q8,H'.i.ch,p1,H'.i.gd,H'.i.ho,fun d hd=> ?_,by dsimp only;omega,H'.i.lnx⟩,hG,h6,by dsimp only;omega,by dsimp only;omega⟩
   have:=H'.i.csz d hd
   dsimp only;omega
  have hS:Qbc P q s=if QaJ g.1.s.toList g.1.ar.length=true then QcC g ⟨s.B,s.fresh,s.fuel-1,rest,s.ch,s.ev⟩ else match P.filter (Qfq g.1) with
    |[]=>(5,⟨s.B,s.fresh,s.fuel-1,rest,s.ch,s.ev⟩)
    |c::cs=>Qa0 ⟨s.B,s.fresh,s.fuel-1,rest,⟨g,rest,c::cs,s.B.length⟩::s.ch,s.ev⟩:=by
   unfold Qbc
   rw [hg]
   dsimp only
   rw [if_neg hf0]
   by_cases hb:QaJ g.1.s.toList g.1.ar.length=true
   ·rw [if_pos hb,if_pos hb]
   ·rw [if_neg hb,if_neg hb]
    cases P.filter (Qfq g.1)<;>rfl
  rw [hS] at hst⊢
  by_cases hb:QaJ g.1.s.toList g.1.ar.length=true
  ·rw [if_pos hb] at hst⊢
   rw [if_pos hb]
   exact QrI M (by dsimp only;omega) h3 h4 p6 hb p2 fun h=>(hst.go h).1
  ·rw [if_neg hb,if_neg hb]
   refine Qtl (s:=⟨s.B,s.fresh,s.fuel-1,rest,s.ch,s.ev⟩) M (by dsimp only;omega) hp2.2 hCk fun c cs hcc=> ?_
   have hmem:∀x∈c::cs,x∈P:=fun x hx=>(List.mem_filter.1 (show x∈P.filter (Qfq g.1) by rw [hcc];exact hx)).1
   obtain ⟨i1,i2⟩:=QgO H.gs hg hf0 (fun x hx=>hp2.2 x (hmem x hx)) (by
    have:=List.length_filter_le (Qfq g.1) P
    rw [hcc] at this;omega)
   exact ⟨i1,by dsimp only;omega⟩
theorem Qqp {P:List Cl} {q F every:Nat} (hp:pB P=true):∀(n:Nat) (s:SS) (x:XS),Qip q F s x→s.ev.length<12→QsI P q F every n x=QsJ P q n s
 |0,s,x,_,_=>rfl
 |n+1,s,x,H,hev=>by
  obtain ⟨h1,h2,h3⟩:=QnM (every:=every) hp H hev
  have hok:=(QjO (vars:=q) H.gs hev hp).2
  simp only [QsI,QsJ]
  rw [←h1]
  by_cases h0:(Qbc P q s).1=0
  ·rw [if_pos h0,if_pos h0]
   exact Qqp hp n _ _ (h3 h0) (hok h0)
  ·rw [if_neg h0,if_neg h0,h2]
noncomputable def Qsk (P:List Cl) (q:Ts) (vars fuel every:Int):List Ev×Int:=
 if pB P=false∨qB vars q=false then ([],1)
 else if fuel<0∨150<fuel∨every<0 then ([],2)
 else (QsI P vars.toNat fuel.toNat every.toNat 4000 (Qdy q vars),0)
theorem QkX {q:Ts} {v F:Nat} (hq:qB (v:Nat) q=true) (hF:F≤150):Qip v F (Qcl q v F) (Qdy q (v:Nat)):=by
 have hq':=hq
 simp only [qB,Bool.and_eq_true,decide_eq_true_eq] at hq'
 obtain ⟨⟨⟨v0,v1⟩,v2⟩,v3⟩:=hq'
 obtain ⟨l1,l2,l3,l4,l5,l6⟩:=Qqw hq
 obtain ⟨hI,hmu⟩:=Qhh hq hF
 have hX:Qdy q (v:Nat)=⟨⟨(Qae (v:Nat) q).map (QX 0),[]⟩,0,(Qb6 0 0 (Qbj (v:Nat) q) (-1) []).1,(Qb6 0 0 (Qbj (v:Nat) q) (-1) []).2,[],[]⟩:=by
  unfold Qdy;rw [l1]
 rw [hX]
 generalize (Qae (v:Nat) q).map (QX 0)=L at*
 have hsh:∀t:Tm,QkD L 0 (v:Nat) 0 t=QkD L 0 (v:Nat) 0 t:=fun t=>rfl
 have hB:Bm QkF QeX (fun t a=>False∨QkD L 0 (v:Nat) 0 t a) [] ⟨L,[]⟩:=by
  refine Bm.ext (R:=fun _ _=>False) (h:=⟨[],[]⟩) (m:=0) (base:=0) ⟨trivial,⟨rfl,fun a ha=> ?_,fun a ha=>by cases ha⟩,fun h=>h.elim,fun h=>h.elim,fun h=>h.elim,fun h=>h.elim⟩ l3 (fun a ha=> ?_) (fun t a hn=> ?_) (fun t a u hr=>hr.elim) (fun t a u hr=>hr.elim)
  ·obtain ⟨a0,a1⟩:=Ql.1 ha
   simp at a1;omega
  ·obtain ⟨a0,a1⟩:=Ql.1 ha
   simp at a1;omega
  ·refine ⟨?_,?_⟩
   ·obtain ⟨u,hl,_⟩:=hn;exact hl.addr
   ·rcases QkD.look (T:=[]) (B:=[]) v1 (Int.le_refl 0) Ya (fun x hx=>by cases hx) hn with ⟨i,i0,i1,e1,e2⟩|hh
    ·exact .inl ⟨i,i0,e1,e2⟩
    ·exact .inr hh
 have hlow:∀t a,(False∨QkD L 0 (v:Nat) 0 t a)→QiC (v:Nat) t:=fun t a hr=>by
  rcases hr with hr|hr
  ·exact hr.elim
  ·have:=hr.low v1 (Int.le_refl 0) Ya
   rwa [Int.zero_add] at this
 have hqv:∀x:Nat,x<v→QkD L 0 (v:Nat) 0 ⟨0,(x:Nat),⟨#[]⟩,.nil⟩ (x:Nat):=fun x hx=>by
  have hc:=l5 (x:Nat) Ya Ya
  refine ⟨⟨0,(x:Nat),⟨#[]⟩,.nil⟩,⟨⟨(x:Nat),_,Qbb hc Yd,hc,.inl ⟨rfl,by show (0:Int)≤(x:Nat);omega,by show ((x:Nat):Int)<(v:Nat);omega,rfl,rfl,rfl,by show ((x:Nat):Int)=(x:Nat)+((0:Nat):Int);omega⟩⟩,trivial⟩,?_⟩
  unfold Tm.shift
  rw [QfP (n:=((x:Nat):Int)) (m:=0) Ya Ya Ya Ya,Int.add_zero]
  rfl
 obtain ⟨c1,⟨X,c2,c3⟩,c4,c5⟩:=Qnl (R:=GR (fun t a=>False∨QkD L 0 (v:Nat) 0 t a) ⟨L,[]⟩) (base:=0) (fun t a h hd=>⟨.inr h,hd,h.kind hd⟩) (o:=0) q (Qbj (v:Nat) q) (-1) [] [] l6 rfl Ya Yd
 have hnx:=(QrO (base:=0) (o:=0) (Qbj (v:Nat) q) (-1) [] Ya Yd (fun i l hl=>by simp at hl)).1
 refine ⟨⟨rfl,by show 0+F=F;omega,hF,by omega,trivial,hI.c,l2,l3,fun d hd=>(by cases hd),?_,hnx⟩,⟨_,⟨hB,fun x hx=>(by cases hx),hlow,fun x hx=> .inr (hqv x hx)⟩,c1⟩,hI,by dsimp only;omega,by dsimp only;simp⟩
 dsimp only
 rw [c2,List.nil_append,c3]
 omega
theorem QuX (P:List Cl) (q:Ts) (vars fuel every:Int) (he:0≤every):Qsk P q vars fuel every=Qg1 P q vars fuel:=by
 unfold Qsk Qg1
 by_cases h1:pB P=false∨qB vars q=false
 ·rw [if_pos h1,if_pos h1]
 rw [if_neg h1,if_neg h1]
 by_cases h2:fuel<0∨150<fuel
 ·rw [if_pos h2,if_pos Ya]
 rw [if_neg h2,if_neg Ya]
 have hp:pB P=true:=by cases hh:pB P with|true=>rfl|false=>exact absurd (.inl hh) h1
 have hq:qB vars q=true:=by cases hh:qB vars q with|true=>rfl|false=>exact absurd (.inr hh) h1
 have hq':=hq
 simp only [qB,Bool.and_eq_true,decide_eq_true_eq] at hq'
 obtain ⟨⟨⟨v0,v1⟩,v2⟩,v3⟩:=hq'
 obtain ⟨v,rfl⟩:∃v:Nat,vars=(v:Nat):=⟨vars.toNat,by omega⟩
 obtain ⟨f,rfl⟩:∃f:Nat,fuel=(f:Nat):=⟨fuel.toNat,by omega⟩
 simp only [Int.toNat_natCast]
 rw [Qqp hp 4000 _ _ (QkX hq Ya) (by simp [Qcl])]
theorem Qtt (P:List Cl) (q:Ts) (vars fuel every:Int) (he:every<0):Qsk P q vars fuel every=if pB P=false∨qB vars q=false then ([],1) else ([],2):=by
 unfold Qsk
 split
 ·rfl
 ·rw [if_pos Ya]
set_option maxRecDepth 100000
section
variable {P:Program} {n:Nat} {e:Env} {w:World} {ty:TypeId} {pos:String} {after:Array Edge} {dst:Option Nat} {x y:Operand} {t t2:TypeId}
theorem Qhs {vs:List Value} {v:Value} {o t:Nat} (hA:QeU P t=some false) (h:vs[o]?=some v) (w:World):(part t vs.toArray o).run P w= .ok v w:=by
 simp only [part,bind]
 rw [Sem.run_bind',Qcm hA]
 simp [Sem.run,h,pure]
theorem QhB (a b:HC) (w:World):(Op.equalIn 10000 104 (.agg (hcs a).toArray) (.agg (hcs b).toArray)).run Tryz.prog w= .ok (decide (a=b)) w:=by
 rw [run_equalIn_agg w 9999 _ _ _ Yc Yc]
 have hf:(Tryz.prog.fieldsOf 104).toList=[⟨ "Kind",3,0,false, "", "",0⟩,⟨ "N",3,1,false, "", "",8⟩,⟨ "S",9,2,false, "", "",16⟩]:=by kernel_rfl
 have p0:=fun (c:HC) w=>Qhs (P:=Tryz.prog) (vs:=hcs c) (v:= .int .i64 c.k) (o:=0) (t:=3) rfl rfl w
 have p1:=fun (c:HC) w=>Qhs (P:=Tryz.prog) (vs:=hcs c) (v:= .int .i64 c.n) (o:=1) (t:=3) rfl rfl w
 have p2:=fun (c:HC) w=>Qhs (P:=Tryz.prog) (vs:=hcs c) (v:= .string c.s) (o:=2) (t:=9) rfl rfl w
 have q0:∀(a b:Int) w,(Op.equalIn 9999 3 (.int .i64 a) (.int .i64 b)).run Tryz.prog w= .ok (a==b) w:=fun a b w=>run_equalIn_int w 9998 _ _ .i64 _ _ Yc
 have q2:∀(a b:ByteArray) w,(Op.equalIn 9999 9 (.string a) (.string b)).run Tryz.prog w= .ok (a.toList==b.toList) w:=fun a b w=>run_equalIn_string w 9998 _ _ _ Yc
 rw [hf]
 obtain ⟨ak,an,az⟩:=a
 obtain ⟨bk,bn,bz⟩:=b
 simp only [Op.eqFields,Sem.run_bind,p0,p1,p2,q0,q2,Result.andThen_ok,Sem.run_ite,Sem.run_pure,HC.mk.injEq]
 by_cases h0:ak=bk
 ·by_cases h1:an=bn
  ·by_cases h2:az=bz
   ·simp [h0,h1,h2,Sem.run]
   ·have h2':¬az.toList=bz.toList:=fun e=>h2 (QiR.1 e)
    simp [h0,h1,h2,h2',Sem.run]
  ·simp [h0,h1,Sem.run]
 ·simp [h0,Sem.run]
theorem Qk2 {a b:HC} (hx:ev n e x= .agg (hcs a).toArray) (hy:ev n e y= .agg (hcs b).toArray):
  (execOp (ev n e) ⟨dst,.binOp .neq 104 x y 104,ty,pos,after,none⟩).run Tryz.prog w= .ok (.value (.bool (!decide (a=b)))) w:=by
 simp only [execOp,hx,hy,bind,pure]
 rw [Sem.run_bind',Sem.run_bind',run_eqGuard_agg w _ _ _ _ _ _ Yc]
 simp only [Result.andThen_ok]
 rw [run_neq_struct,QhB]
 rfl
end
set_option maxHeartbeats 1000000
theorem QgV {L:List HC} {a:Int} (h0:0≤a) (h1:a<L.length):∃c,hat L a=some c∧L[a.toNat]?=some c:=by
 refine ⟨L[a.toNat]'Ya,?_,?_⟩
 ·unfold hat;rw [if_pos h0];exact List.getElem?_eq_getElem _
 ·exact List.getElem?_eq_getElem _
theorem Qoi {L:List HC} {a:Int} (h:¬(0≤a∧a<L.length)):hat L a=none:=by
 unfold hat
 split
 ·exact List.getElem?_eq_none Ya
 ·rfl
theorem QcI {L:List HC} {a:Int} {c:HC} (h:hat L a=some c):0≤a∧a<L.length∧L[a.toNat]?=some c:=by
 unfold hat at h
 split at h
 ·rename_i h0
  refine ⟨h0,?_,h⟩
  rcases Nat.lt_or_ge a.toNat L.length with hl|hl
  ·omega
  ·rw [List.getElem?_eq_none hl] at h;cases h
 ·cases h
theorem Qch {L:List HC} {a:Int}:Qj L a=true↔∃c,hat L a=some c:=by
 unfold Qj
 simp only [Bool.and_eq_true,decide_eq_true_eq]
 constructor
 ·rintro ⟨h0,h1⟩;obtain ⟨c,h,_⟩:=QgV h0 h1;exact ⟨c,h⟩
 ·rintro ⟨c,h⟩;have:=QcI h;exact ⟨this.1,this.2.1⟩
theorem Qbg (n c:Nat) (A B:Option Addr) (m d:Nat) (a:Int) (w:World):
  Calls Tryz.prog 142 #[Qkf A n c B m d,.int .i64 a] w fun e w'=>e= .returned (.bool (decide (0≤a)&&decide (a<n)))∧Below w.heap.size w w':=by
 have hS:=St.start w
 refine Qg Tryz.func142 rfl Tryz.ntmps142 rfl ?_
 by_cases h0:0≤a
 ·by_cases h1:a<n
  ·rw [decide_eq_true h0,decide_eq_true h1]
   refine Zd ?_
   clear hS
   intro b1 wx1 hS
   refine ZY ?_
   refine Zad ?_
   refine Zar ?_
   refine Zbl ?_
   refine Zec ?_
   refine Zq ?_
   refine ZI ?_
   refine Zfg ?_
   exact ⟨rfl,hS.ext.below⟩
  ·rw [decide_eq_true h0,decide_eq_false h1]
   refine Zd ?_
   clear hS
   intro b1 wx1 hS
   refine ZY ?_
   refine Zad ?_
   refine Zar ?_
   refine Zbl ?_
   refine Zec ?_
   refine Zq ?_
   refine ZI ?_
   refine Zfg ?_
   exact ⟨rfl,hS.ext.below⟩
 ·rw [decide_eq_false h0]
  refine Zd ?_
  clear hS
  intro b1 wx1 hS
  refine ZY ?_
  refine Zad ?_
  refine Z3 ?_
  refine Za4 ?_
  refine Zfg ?_
  exact ⟨rfl,hS.ext.below⟩
theorem Qoy (x:HC) (w:World):Calls Tryz.prog 192 #[.agg (hcs x).toArray] w fun e w'=>e= .returned (.int .i64 (QG x))∧Below w.heap.size w w':=by
 have hS:=St.start w
 refine Qe Tryz.func192 rfl Tryz.ntmps192 rfl ?_
 by_cases h:x.k=3
 ·rw [show QG x=x.n by unfold QG;rw [if_pos h]]
  refine Zd ?_
  clear hS
  intro b1 wx1 hS
  refine Zc3 ?_
  refine Zn ?_
  refine Zx ?_
  refine Zea ?_
  refine Zc ?_
  refine Qc Tryz.func192 rfl Yb ?_
  exact ⟨rfl,hS.ext.below⟩
 ·rw [show QG x=0 by unfold QG;rw [if_neg h]]
  refine Zd ?_
  clear hS
  intro b1 wx1 hS
  refine Zc3 ?_
  refine Zn ?_
  refine Zr ?_
  refine Zk ?_
  refine Qc Tryz.func192 rfl Yb ?_
  exact ⟨rfl,hS.ext.below⟩
theorem QlM (x:HC) (all follow:Nat) (w:World):Calls Tryz.prog 186 #[.agg (hcs x).toArray,.int .i64 (all:Nat),.int .i64 (follow:Nat)] w fun e w'=>e= .returned (.bool (Q4 all x follow))∧Below w.heap.size w w':=by
 have hS:=St.start w
 refine QZ Tryz.func186 rfl Tryz.ntmps186 rfl ?_
 by_cases h0:x.k=0
 ·have e0:Q4 all x follow=(decide (0≤x.n)&&(decide (x.n<all)&&decide (x.s=eS))):=by unfold Q4;rw [if_pos h0]
  rw [e0]
  by_cases h1:0≤x.n
  ·rw [decide_eq_true h1]
   by_cases h2:x.n<all
   ·rw [decide_eq_true h2]
    by_cases h3:x.s=eS
    ·rw [decide_eq_true h3]
     refine Zd ?_
     clear hS
     intro b1 wx1 hS
     refine Zct ?_
     refine ZcK ?_
     refine ZH ?_
     refine Zq ?_
     refine Z0 ?_
     refine Zdp ?_
     refine ZaL ?_
     refine Zdq ?_
     exact ⟨rfl,hS.ext.below⟩
    ·rw [decide_eq_false h3]
     have h3':x.s≠eS:=h3
     refine Zd ?_
     clear hS
     intro b1 wx1 hS
     refine Zct ?_
     refine ZcK ?_
     refine ZH ?_
     refine Zq ?_
     refine Z0 ?_
     refine Zdp ?_
     refine ZaL ?_
     refine Zdq ?_
     exact ⟨rfl,hS.ext.below⟩
   ·rw [decide_eq_false h2]
    refine Zd ?_
    clear hS
    intro b1 wx1 hS
    refine Zct ?_
    refine ZcK ?_
    refine ZH ?_
    refine Zq ?_
    refine ZaI ?_
    refine Zdr ?_
    exact ⟨rfl,hS.ext.below⟩
  ·rw [decide_eq_false h1]
   refine Zd ?_
   clear hS
   intro b1 wx1 hS
   refine Zct ?_
   refine ZfC ?_
   refine Z3 ?_
   refine ZaI ?_
   refine Zdr ?_
   exact ⟨rfl,hS.ext.below⟩
 by_cases h1:x.k=1
 ·have e0:Q4 all x follow=(decide (x.n=0)&& !decide (x.s=eS)):=by unfold Q4;rw [if_neg h0,if_pos h1]
  rw [e0]
  by_cases h2:x.n=0
  ·rw [decide_eq_true h2]
   by_cases h3:x.s=eS
   ·rw [decide_eq_true h3]
    refine Zd ?_
    clear hS
    intro b1 wx1 hS
    refine Zc4 ?_
    refine Zb5 ?_
    refine Zn ?_
    refine Zdp ?_
    refine Zbw ?_
    refine Zdq ?_
    exact ⟨rfl,hS.ext.below⟩
   ·rw [decide_eq_false h3]
    have h3':x.s≠eS:=h3
    refine Zd ?_
    clear hS
    intro b1 wx1 hS
    refine Zc4 ?_
    refine Zb5 ?_
    refine Zn ?_
    refine Zdp ?_
    refine Zbw ?_
    refine Zdq ?_
    exact ⟨rfl,hS.ext.below⟩
  ·rw [decide_eq_false h2]
   refine Zd ?_
   clear hS
   intro b1 wx1 hS
   refine Zc4 ?_
   refine Zb5 ?_
   refine Zn ?_
   refine Zan ?_
   refine Zdr ?_
   exact ⟨rfl,hS.ext.below⟩
 by_cases h2:x.k=2
 ·have e0:Q4 all x follow=decide (x.s=eS):=by unfold Q4;rw [if_neg h0,if_neg h1,if_pos h2]
  rw [e0]
  by_cases h3:x.s=eS
  ·rw [decide_eq_true h3]
   refine Zd ?_
   clear hS
   intro b1 wx1 hS
   refine Zcv ?_
   refine ZaF ?_
   refine ZcF ?_
   refine Zd9 ?_
   refine ZdM ?_
   exact ⟨rfl,hS.ext.below⟩
  ·rw [decide_eq_false h3]
   have h3':x.s≠eS:=h3
   refine Zd ?_
   clear hS
   intro b1 wx1 hS
   refine Zcv ?_
   refine ZaF ?_
   refine ZcF ?_
   refine Zd9 ?_
   refine ZdM ?_
   exact ⟨rfl,hS.ext.below⟩
 by_cases h3:x.k=3
 ·have e0:Q4 all x follow=(decide (1≤x.n)&&(decide (x.n≤4)&&(decide (x.n≤follow)&& !decide (x.s=eS)))):=by unfold Q4;rw [if_neg h0,if_neg h1,if_neg h2,if_pos h3]
  rw [e0]
  by_cases h4:1≤x.n
  ·rw [decide_eq_true h4]
   by_cases h5:x.n≤4
   ·rw [decide_eq_true h5]
    by_cases h6:x.n≤follow
    ·rw [decide_eq_true h6]
     by_cases h7:x.s=eS
     ·rw [decide_eq_true h7]
      refine Zd ?_
      clear hS
      intro b1 wx1 hS
      refine Zbo ?_
      refine ZcK ?_
      refine Zds ?_
      refine Zcx ?_
      refine ZH ?_
      refine Zds ?_
      refine Zdp ?_
      refine Zbw ?_
      refine Zdq ?_
      exact ⟨rfl,hS.ext.below⟩
     ·rw [decide_eq_false h7]
      have h7':x.s≠eS:=h7
      refine Zd ?_
      clear hS
      intro b1 wx1 hS
      refine Zbo ?_
      refine ZcK ?_
      refine Zds ?_
      refine Zcx ?_
      refine ZH ?_
      refine Zds ?_
      refine Zdp ?_
      refine Zbw ?_
      refine Zdq ?_
      exact ⟨rfl,hS.ext.below⟩
    ·rw [decide_eq_false h6]
     refine Zd ?_
     clear hS
     intro b1 wx1 hS
     refine Zbo ?_
     refine ZcK ?_
     refine Zds ?_
     refine Zcx ?_
     refine ZH ?_
     refine ZdN ?_
     refine ZaI ?_
     refine Zdr ?_
     exact ⟨rfl,hS.ext.below⟩
   ·rw [decide_eq_false h5]
    refine Zd ?_
    clear hS
    intro b1 wx1 hS
    refine Zbo ?_
    refine ZcK ?_
    refine Zds ?_
    refine Z3 ?_
    refine ZaI ?_
    refine Zdr ?_
    exact ⟨rfl,hS.ext.below⟩
  ·rw [decide_eq_false h4]
   refine Zd ?_
   clear hS
   intro b1 wx1 hS
   refine Zbo ?_
   refine ZfC ?_
   refine Zan ?_
   refine Zak ?_
   refine Z0 ?_
   refine Z3 ?_
   refine ZaI ?_
   refine Zdr ?_
   exact ⟨rfl,hS.ext.below⟩
 have e0:Q4 all x follow=false:=by unfold Q4;rw [if_neg h0,if_neg h1,if_neg h2,if_neg h3]
 rw [e0]
 refine Zd ?_
 clear hS
 intro b1 wx1 hS
 refine Zbo ?_
 refine Zc2 ?_
 refine Zbm ?_
 refine Zk ?_
 refine ZdM ?_
 exact ⟨rfl,hS.ext.below⟩
theorem QeM {all:Nat}:∀{D:List HC} {x:HC} {R:List HC},Q4 all x R.length=false→QL all (D++x::R)=false
 |[],x,R,h=>by simp [QL,h]
 |y::D,x,R,h=>by simp [QL,QeM (D:=D) h]
theorem Qfn (L:List HC) (A:Option Addr) (c:Nat) (w:World) (hL:Qz 3 (Q5 L) A L.length c w):
  Calls Tryz.prog 140 #[.slice A L.length c] w fun e w'=>e= .returned (.bool (Q3 L))∧Below w.heap.size w w':=by
 have hS:=(St.start w).flat (M:=[]) hL
 refine Qe Tryz.func140 rfl Tryz.ntmps140 rfl ?_
 by_cases hl:65536<L.length
 ·rw [show Q3 L=false by unfold Q3;rw [decide_eq_false Ya];rfl]
  refine ZQ ?_
  refine ZaC ?_
  refine Zai ?_
  refine Zfh ?_
  exact ⟨rfl,hS.ext.below⟩
 rw [show Q3 L=QL L.length L by unfold Q3;rw [decide_eq_true Ya];rfl]
 refine ZQ ?_
 refine ZaC ?_
 refine ZaQ ?_
 refine Z2 ?_
 refine Qo 10 (11::12::13::14::4::3::15::16::17::18::19::20::21::22::23::24::2::25::[]) (fun (R:List HC) v w'=>∃D,L=D++R∧v= .int .i64 (D.length:Nat)∧QL L.length L=QL L.length R∧St [] w [] [Qz 3 (Q5 L) A L.length c] w') (fun R=>R.length) (L) ?_ Yb ?_
 ·exact ⟨[],rfl,rfl,rfl,hS⟩
 clear hS
 rintro R _ w2 jv ⟨D,hD,rfl,hg,hS⟩ ih
 have hlen:L.length=D.length+R.length:=by rw [hD];simp
 cases R with
 |nil=>
  simp only [List.length_nil] at hlen
  refine Zdf ?_
  refine Zfh ?_
  rw [hg]
  exact ⟨rfl,hS.ext.below⟩
 |cons x R=>
  simp only [List.length_cons] at hlen
  obtain ⟨b,o,rfl⟩:=hL.some_ Ya
  have hx:L[D.length]?=some x:=by rw [hD];simp
  have hcc:∀{H'} w',St [] w H' [Qz 3 (Q5 L) (some ⟨b,o,none⟩) L.length c] w'→_:=fun w' hS=>(hS.fact (.head _)).cell hx
  have hf:((L.length:Int)-(D.length:Nat)-1)=((R.length:Nat):Int):=by omega
  refine ZaP ?_
  refine Zaa ?_
  refine Zce ?_
  clear hS
  intro b1 wx1 hS
  refine Zbp ?_
  clear hS
  intro wx2 hS
  refine ZaV ?_
  refine Ze5 ?_
  refine Zcf ?_
  refine Zcf ?_
  refine Zg ?_
  refine ZbR ?_
  refine ZbR ?_
  rw [hf]
  refine Zal ?_
  refine Calls.mono (QlM x L.length R.length _) ?_
  rintro _ w3 ⟨rfl,hb3⟩
  refine Za ?_
  replace hS:=hS.grow hb3
  cases hgc:Q4 L.length x R.length with
  |false=>
   refine Zbg ?_
   refine Zk ?_
   refine Zfh ?_
   rw [hg]
   refine ⟨?_,hS.ext.below⟩
   simp [QL,hgc]
  |true=>
   refine ZaA ?_
   refine Zbz ?_
   refine ih (R) _ _ _ ?_ ?_ Yb Yc
   ·simp
   ·refine ⟨D++[x],by rw [hD];simp,by simp,?_,hS.drop⟩
    rw [hg];simp [QL,hgc]
theorem Qm5 {L:List HC} {a:Int} (h:hat L a=none):∀f,QaR L f a= -1
 |0=>rfl
 |f+1=>by simp only [QaR,h]
end Go.Proofs.YthliapbflkfdiacGreatDoor
