/- XColl3, XAll, HOps, HWalk1: texts that follow one another, laid into one file. -/
import Derived.Test.YthliapbflkfdiacGreatDoorZ0
import Derived.Test.YthliapbflkfdiacGreatDoorG30
import Derived.Test.YthliapbflkfdiacGreatDoorG28
import Derived.Test.YthliapbflkfdiacGreatDoorG21
import Derived.Test.YthliapbflkfdiacGreatDoorG18
import Derived.Test.YthliapbflkfdiacGreatDoorProg
import Derived.Test.YthliapbflkfdiacGreatDoorG1
import Derived.Laws.StructEq
namespace Go.Proofs.YthliapbflkfdiacGreatDoor
open Go.RowKit
set_option linter.unusedVariables false
set_option linter.unusedSimpArgs false
set_option maxRecDepth 8000
theorem Qg4 {L:List XL} {P:Int→Prop} {Qk:Nat→Prop} (hP:∀i:Int,i≠-1→P i→Qk i.toNat∧P (lnk L i.toNat).nx):∀(f:Nat) (i:Int) (p:List Bool×List Nat),P i→(∀k∈p.2,Qk k)→∀k∈(QaY L f i p).2,Qk k
 |0,i,p,_,hq=>hq
 |f+1,i,p,hi,hq=>by
  simp only [QaY]
  by_cases h1:i= -1
  ·rw [if_pos h1];exact hq
  rw [if_neg h1]
  by_cases h2:p.1[i.toNat]?=some true
  ·rw [if_pos h2];exact hq
  rw [if_neg h2]
  obtain ⟨a1,a2⟩:=hP i h1 hi
  refine Qg4 hP f _ _ a2 fun k hk=> ?_
  rcases List.mem_append.1 hk with hk|hk
  ·exact hq k hk
  ·rw [List.mem_singleton.1 hk];exact a1
theorem QhS {L:List XL} {P:Int→Prop} {Qk:Nat→Prop} (hP:∀i:Int,i≠-1→P i→Qk i.toNat∧P (lnk L i.toNat).nx):∀(C:List XC) (p:List Bool×List Nat),(∀c∈C,P (c.at_:Nat))→(∀k∈p.2,Qk k)→∀k∈(QcX L C p).2,Qk k
 |[],p,_,hq=>hq
 |c::r,p,hC,hq=>QhS hP r _ (fun c hc=>hC c (List.mem_cons_of_mem _ hc)) (Qg4 hP _ _ p (hC c (List.mem_cons_self ..)) hq)
def Pl (L:List XL) (cs:List HC) (i:Int):Prop:=∃(R:Tm→Int→Prop) (G:List Gl),QaG R L i G∧∀t a,R t a→Qo cs a=true
theorem Pl.next {L:List XL} {cs:List HC} (i:Int) (hi:i≠-1) (h:Pl L cs i):Qo cs (lnk L i.toNat).g=true∧Pl L cs (lnk L i.toNat).nx:=by
 obtain ⟨R,G,hc,hR⟩:=h
 cases G with
 |nil=>exact absurd hc hi
 |cons g r=>
  obtain ⟨k,l,rfl,h2,h3,h4,h5,h6⟩:=hc
  rw [Int.toNat_natCast,QlF h2]
  exact ⟨hR _ _ h3,R,r,h6,hR⟩
theorem Qae.pl {q f:Nat} {L:List XL}:∀{B:Bnd} {h:HH} {cs:List Ch} {ds:List XC},Qae q f L B h cs ds→∀d∈ds,Pl L h.cs (d.at_:Nat)
 |_,_,[],[],_,d,hd=>by cases hd
 |_,h,c::cs,e::ds,⟨R,g,b1,_,b3,b4,_,_,b7⟩,d,hd=>by
  have hl:=b1.len.1
  have ht:=b1.ht
  have up:∀a,Qo g.cs a=true→Qo h.cs a=true:=fun a ha=>by
   obtain ⟨a0,a1⟩:=Qq.1 ha
   exact Qq.2 ⟨a0,by omega⟩
  rcases List.mem_cons.1 hd with rfl|hd
  ·exact ⟨_,_,b4,fun t a ht=>up a (b3.bm.db ht.1)⟩
  ·obtain ⟨R',G,h1,h2⟩:=b7.pl d hd
   exact ⟨R',G,h1,fun t a ht=>up a (h2 t a ht)⟩
theorem QnC:∀(I:List Nat) (V:List Int) (L:List XL),(QeH I V L).length=L.length
 |[],V,L=>by cases V<;>rfl
 |i::r,[],L=>rfl
 |i::r,v::V,L=>by simp only [QeH];rw [QnC r V];simp [Qtd]
theorem QrC {q F:Nat} {s:SS} {x:XS} (H:Qkw q F s x):Qkw q F s (Qki q x)∧(Qki q x).first=x.first∧(Qki q x).goals=x.goals:=by
 obtain ⟨R,hG,hC⟩:=H.cur
 have hb:=hC.bd
 obtain ⟨hI,hf,hcl⟩:=QuW H.i.lnx hb.1 hb.2 H.i.ch.at_lt
 have hgd:=H.i.gd
 have ho:=H.i.ho
 have hlive:∀k∈QcK x,Qo x.h.cs (lnk x.ln k).g=true:=
  QhS (P:=Pl x.ln x.h.cs) (fun i hi hp=>hp.next i hi) _ _ (fun c hc=>H.i.ch.pl c (List.mem_reverse.1 hc)) (Qg4 (P:=Pl x.ln x.h.cs) (fun i hi hp=>hp.next i hi) _ _ _ ⟨_,_,hC,fun t a ht=>hG.bm.db ht.1⟩ fun k hk=>by cases hk)
 have hroot:∀r∈Qab q x,Qo x.h.cs r=true:=by
  intro r hr
  unfold Qab at hr
  rcases List.mem_append.1 hr with hr|hr
  ·obtain ⟨v,hv,rfl⟩:=List.mem_map.1 hr
   exact hG.bm.db (hG.qv v (List.mem_range.1 hv))
  ·obtain ⟨k,hk,rfl⟩:=List.mem_map.1 hr
   exact hlive k hk
 have C:Cx x.h (Qab q x) (QW x.h.cs (Qab q x)):=⟨hgd,QjV _ _⟩
 have hrc:∀r∈Qab q x,Rc x.h.cs (Qab q x) r:=fun r hr=> .root hr (hroot r hr)
 have hmv:∀v:Nat,v<q→((v:Nat):Int)∈Qab q x:=fun v hv=>List.mem_append_left _ (List.mem_map.2 ⟨v,List.mem_range.2 hv,rfl⟩)
 have hml:∀k∈QcK x,(lnk x.ln k).g∈Qab q x:=fun k hk=>List.mem_append_right _ (List.mem_map.2 ⟨k,hk,rfl⟩)
 have hcol:Qcb x.h (Qab q x) (x.ch.reverse.map fun c=>((c.cells:Nat):Int)) (x.ch.reverse.map fun c=>((c.bound:Nat):Int))=(QeK (QW x.h.cs (Qab q x)) x.h,(Qab q x).map (rkI (QW x.h.cs (Qab q x))),(x.ch.reverse.map fun c=>((c.cells:Nat):Int)).map (rkI (QW x.h.cs (Qab q x))),(x.ch.reverse.map fun c=>((c.bound:Nat):Int)).map (rkI (x.h.tr.map (Qy (QW x.h.cs (Qab q x))))),0):=by
  unfold Qcb
  rw [if_neg (by rw [hgd];decide),if_neg (by rw [List.all_eq_true.2 hroot];decide)]
  rfl
 have hfro:∀v,v<q→(QW x.h.cs (Qab q x))[v]?=some true:=fun v hv=>by
  have:=(C.rc (hrc _ (hmv v hv))).2.2
  rwa [Int.toNat_natCast] at this
 have hX:Qki q x=⟨QeK (QW x.h.cs (Qab q x)) x.h,x.goals,QeH (QcK x) ((QcK x).map fun k=>rkI (QW x.h.cs (Qab q x)) (lnk x.ln k).g) x.ln,x.first,x.ch.map fun d=>⟨d.at_,d.cls,rk (QW x.h.cs (Qab q x)) d.cells,rk (x.h.tr.map (Qy (QW x.h.cs (Qab q x)))) d.bound⟩,x.ev⟩:=by
  unfold Qki
  rw [hcol]
  dsimp only
  have e1:((Qab q x).map (rkI (QW x.h.cs (Qab q x)))).drop q=(QcK x).map fun k=>rkI (QW x.h.cs (Qab q x)) (lnk x.ln k).g:=by
   generalize QW x.h.cs (Qab q x)=M
   unfold Qab
   rw [List.map_append,List.map_map,List.map_map]
   rw [List.drop_left' Yd]
   rfl
  rw [e1,List.map_map,List.map_map,Qjn,←List.map_reverse,List.reverse_reverse]
  rfl
 rw [hX]
 generalize hM:QW x.h.cs (Qab q x)=M at*
 refine ⟨⟨⟨H.i.ev,H.i.fuel,H.i.f150,H.i.q8,?_,H.i.inv,C.kept_good,QiM C ho,?_,?_,?_⟩,⟨QyT M (Qab q x) x.h.cs R,?_,?_⟩,H.gs,?_,?_⟩,rfl,rfl⟩
 ·exact Qae.coll hI hfro C ho (fun a _ _=>⟨rfl,rfl⟩) (fun n _=>rfl) (fun n _=>rfl) (fun k hk a e _=>by rw [e];exact (C.rc (hrc _ (hml k hk))).2.2) hcl H.i.ch
 ·intro d hd
  obtain ⟨c,hc,rfl⟩:=List.mem_map.1 hd
  obtain ⟨c1,c2⟩:=H.i.csz c hc
  have r1:=Qt8 M c.cells
  have r2:=Qt8 (x.h.tr.map (Qy M)) c.bound
  dsimp only
  omega
 ·dsimp only
  rw [QnC];exact H.i.lsz
 ·intro i l hl
  dsimp only at hl
  rw [Qjm] at hl
  split at hl
  ·cases hq:x.ln[i]? with
   |none=>rw [hq] at hl;cases hl
   |some l'=>
    rw [hq] at hl
    simp only [Option.map_some,Option.some.injEq] at hl
    subst hl
    exact H.i.lnx i l' hq
  ·exact H.i.lnx i l hl
 ·exact hG.coll C fun v hv=>⟨hrc _ (hmv v hv),QqU hfro v Ya⟩
 ·exact QaG.coll hI (fun k hk t ht=>GR.coll C (hrc _ (hml k hk)) ht) hC hf
 ·have h1:=H.cs
  have h2:(QbH M x.h.cs).length≤x.h.cs.length:=by
   rw [C.len,C.mks.1];exact Qt8 M _
  show (QbH M x.h.cs).length≤_
  dsimp only;omega
 ·have h1:=H.ts
  have h2:(Qcd M x.h.tr).length≤x.h.tr.length:=by
   unfold Qcd
   rw [List.length_map,QaV];exact List.length_filter_le _ _
  show (Qcd M x.h.tr).length≤_
  dsimp only;omega
theorem QqK {P:List Cl} {q F every:Nat} (hp:pB P=true) {s:SS} {x:XS} (H:Qkw q F s x) (hev:s.ev.length<12):Qv1 q F (Qag P q s) (Qby P q F every x):=by
 have hp2:P.length≤24∧∀x∈P,cB x=true:=by
  unfold pB at hp
  simp only [Bool.and_eq_true,decide_eq_true_eq,List.all_eq_true] at hp
  exact hp
 obtain ⟨hst,hstev⟩:=Qhq (vars:=q) H.gs hev hp
 have hfu:=H.i.fuel
 cases hg:s.goals with
 |nil=>
  have hfirst:x.first= -1:=by
   obtain ⟨R,_,hC⟩:=H.cur
   rw [hg] at hC;exact hC
  unfold Qag Qby
  rw [hg,if_pos hfirst]
  exact Qs8 H
 |cons g rest=>
  have hne:x.first≠-1:=by
   obtain ⟨R,_,hC⟩:=H.cur
   rw [hg] at hC
   obtain ⟨k,l,e,_⟩:=hC
   omega
  by_cases hf0:s.fuel=0
  ·unfold Qag Qby
   rw [hg,if_neg hne,if_pos (show x.goals=F by omega)]
   dsimp only
   rw [if_pos hf0]
   exact ⟨rfl,H.i.ev,fun h=>by cases h⟩
  have hmb:Qkw q F s (QT q every x)∧(QT q every x).first=x.first∧(QT q every x).goals=x.goals:=by
   unfold QT
   split
   ·exact QrC H
   ·exact ⟨H,rfl,rfl⟩
  obtain ⟨H',hfi,hgo⟩:=hmb
  have hstep:Qby P q F every x=if Q1 (Qb0 (QT q every x).h (lnk (QT q every x).ln (QT q every x).first.toNat).g).s.toList (Qb0 (QT q every x).h (lnk (QT q every x).ln (QT q every x).first.toNat).g).n.toNat=true
    then Qg6 (lnk (QT q every x).ln (QT q every x).first.toNat) ⟨(QT q every x).h,(QT q every x).goals+1,(QT q every x).ln,(lnk (QT q every x).ln (QT q every x).first.toNat).nx,(QT q every x).ch,(QT q every x).ev⟩
    else QmR P (QT q every x).first.toNat ⟨(QT q every x).h,(QT q every x).goals+1,(QT q every x).ln,(lnk (QT q every x).ln (QT q every x).first.toNat).nx,(QT q every x).ch,(QT q every x).ev⟩:=by
   unfold Qby
   rw [if_neg hne,if_neg (show¬x.goals=F by omega)]
  rw [hstep]
  have hgo':(QT q every x).goals+s.fuel=F:=H'.i.fuel
  clear hstep hfi hgo hne
  generalize QT q every x=y at*
  obtain ⟨R,hG,hC⟩:=H'.cur
  rw [hg] at hC
  obtain ⟨k,l,hk,h2,h3,h4,h5,h6⟩:=hC
  have hCk:QaG (GR R y.h) y.ln (k:Nat) (g::rest):=⟨k,l,rfl,h2,h3,h4,h5,h6⟩
  have hlk:=QlF h2
  rw [hk,Int.toNat_natCast,hlk]
  obtain ⟨c1,c2,c3,c4,c5,c6,c7,c8⟩:=QgZ hG h3
  rw [c1,c2]
  obtain ⟨p1,p2,p3,p4,p5,p6,p7⟩:=Qdg H.gs hg hf0
  have hlsz:=H'.i.lsz
  have hcs:=H'.cs
  have hts:=H'.ts
  have M:Qy0 q F ⟨s.B,s.fresh,s.fuel-1,rest,s.ch,s.ev⟩ ⟨y.h,y.goals+1,y.ln,l.nx,y.ch,y.ev⟩ R:=by
   refine ⟨⟨H'.i.ev,by show y.goals+1+(s.fuel-1)=F;omega,H'.i.f150,H'.i.q8,H'.i.ch,p1,H'.i.gd,H'.i.ho,fun d hd=> ?_,by dsimp only;omega,H'.i.lnx⟩,hG,h6,by dsimp only;omega,by dsimp only;omega⟩
   have:=H'.i.csz d hd
   dsimp only;omega
  have hS:Qag P q s=if Q1 g.1.s.toList g.1.ar.length=true then Qc2 g ⟨s.B,s.fresh,s.fuel-1,rest,s.ch,s.ev⟩ else match P.filter (QcV g.1) with
    |[]=>(5,⟨s.B,s.fresh,s.fuel-1,rest,s.ch,s.ev⟩)
    |c::cs=>Q9 ⟨s.B,s.fresh,s.fuel-1,rest,⟨g,rest,c::cs,s.B.length⟩::s.ch,s.ev⟩:=by
   unfold Qag
   rw [hg]
   dsimp only
   rw [if_neg hf0]
   by_cases hb:Q1 g.1.s.toList g.1.ar.length=true
   ·rw [if_pos hb,if_pos hb]
   ·rw [if_neg hb,if_neg hb]
    cases P.filter (QcV g.1)<;>rfl
  rw [hS] at hst⊢
  by_cases hb:Q1 g.1.s.toList g.1.ar.length=true
  ·rw [if_pos hb] at hst⊢
   rw [if_pos hb]
   exact Qvt M (by dsimp only;omega) h3 h4 p6 hb p2 fun h=>(hst.go h).1
  ·rw [if_neg hb,if_neg hb]
   refine Qxe (s:=⟨s.B,s.fresh,s.fuel-1,rest,s.ch,s.ev⟩) M (by dsimp only;omega) hp2.2 hCk fun c cs hcc=> ?_
   have hmem:∀x∈c::cs,x∈P:=fun x hx=>(List.mem_filter.1 (show x∈P.filter (QcV g.1) by rw [hcc];exact hx)).1
   obtain ⟨i1,i2⟩:=QgH H.gs hg hf0 (fun x hx=>hp2.2 x (hmem x hx)) (by
    have:=List.length_filter_le (QcV g.1) P
    rw [hcc] at this;omega)
   exact ⟨i1,by dsimp only;omega⟩
theorem QtW {P:List Cl} {q F every:Nat} (hp:pB P=true):∀(n:Nat) (s:SS) (x:XS),Qkw q F s x→s.ev.length<12→Qwy P q F every n x=Qlh P q n s
 |0,s,x,_,_=>rfl
 |n+1,s,x,H,hev=>by
  obtain ⟨h1,h2,h3⟩:=QqK (every:=every) hp H hev
  have hok:=(Qhq (vars:=q) H.gs hev hp).2
  simp only [Qwy,Qlh]
  rw [←h1]
  by_cases h0:(Qag P q s).1=0
  ·rw [if_pos h0,if_pos h0]
   exact QtW hp n _ _ (h3 h0) (hok h0)
  ·rw [if_neg h0,if_neg h0,h2]
noncomputable def Qpa (P:List Cl) (q:Ts) (vars fuel every:Int):List Ev×Int:=
 if pB P=false∨qB vars q=false then ([],1)
 else if fuel<0∨150<fuel∨every<0 then ([],2)
 else (Qwy P vars.toNat fuel.toNat every.toNat 4000 (QeY q vars),0)
theorem Qnv {q:Ts} {v F:Nat} (hq:qB (v:Nat) q=true) (hF:F≤150):Qkw v F (Qbx q v F) (QeY q (v:Nat)):=by
 have hq':=hq
 simp only [qB,Bool.and_eq_true,decide_eq_true_eq] at hq'
 obtain ⟨⟨⟨v0,v1⟩,v2⟩,v3⟩:=hq'
 obtain ⟨l1,l2,l3,l4,l5,l6⟩:=Qub hq
 obtain ⟨hI,hmu⟩:=QgB hq hF
 have hX:QeY q (v:Nat)=⟨⟨(QaC (v:Nat) q).map (Qaj 0),[]⟩,0,(Qc3 0 0 (QbX (v:Nat) q) (-1) []).1,(Qc3 0 0 (QbX (v:Nat) q) (-1) []).2,[],[]⟩:=by
  unfold QeY;rw [l1]
 rw [hX]
 generalize (QaC (v:Nat) q).map (Qaj 0)=L at*
 have hsh:∀t:Tm,Qm4 L 0 (v:Nat) 0 t=Qm4 L 0 (v:Nat) 0 t:=fun t=>rfl
 have hB:Bm Qgp Qgq (fun t a=>False∨Qm4 L 0 (v:Nat) 0 t a) [] ⟨L,[]⟩:=by
  refine Bm.ext (R:=fun _ _=>False) (h:=⟨[],[]⟩) (m:=0) (base:=0) ⟨trivial,⟨rfl,fun a ha=> ?_,fun a ha=>by cases ha⟩,fun h=>h.elim,fun h=>h.elim,fun h=>h.elim,fun h=>h.elim⟩ l3 (fun a ha=> ?_) (fun t a hn=> ?_) (fun t a u hr=>hr.elim) (fun t a u hr=>hr.elim)
  ·obtain ⟨a0,a1⟩:=Qq.1 ha
   simp at a1;omega
  ·obtain ⟨a0,a1⟩:=Qq.1 ha
   simp at a1;omega
  ·refine ⟨?_,?_⟩
   ·obtain ⟨u,hl,_⟩:=hn;exact hl.addr
   ·rcases Qm4.look (T:=[]) (B:=[]) v1 (Int.le_refl 0) Ya (fun x hx=>by cases hx) hn with ⟨i,i0,i1,e1,e2⟩|hh
    ·exact .inl ⟨i,i0,e1,e2⟩
    ·exact .inr hh
 have hlow:∀t a,(False∨Qm4 L 0 (v:Nat) 0 t a)→Qim (v:Nat) t:=fun t a hr=>by
  rcases hr with hr|hr
  ·exact hr.elim
  ·have:=hr.low v1 (Int.le_refl 0) Ya
   rwa [Int.zero_add] at this
 have hqv:∀x:Nat,x<v→Qm4 L 0 (v:Nat) 0 ⟨0,(x:Nat),⟨#[]⟩,.nil⟩ (x:Nat):=fun x hx=>by
  have hc:=l5 (x:Nat) Ya Ya
  refine ⟨⟨0,(x:Nat),⟨#[]⟩,.nil⟩,⟨⟨(x:Nat),_,QbL hc Yd,hc,.inl ⟨rfl,by show (0:Int)≤(x:Nat);omega,by show ((x:Nat):Int)<(v:Nat);omega,rfl,rfl,rfl,by show ((x:Nat):Int)=(x:Nat)+((0:Nat):Int);omega⟩⟩,trivial⟩,?_⟩
  unfold Tm.shift
  rw [Qhs (n:=((x:Nat):Int)) (m:=0) Ya Ya Ya Ya,Int.add_zero]
  rfl
 obtain ⟨c1,⟨X,c2,c3⟩,c4,c5⟩:=Qqc (R:=GR (fun t a=>False∨Qm4 L 0 (v:Nat) 0 t a) ⟨L,[]⟩) (base:=0) (fun t a h hd=>⟨.inr h,hd,h.kind hd⟩) (o:=0) q (QbX (v:Nat) q) (-1) [] [] l6 rfl Ya Yd
 have hnx:=(QvA (base:=0) (o:=0) (QbX (v:Nat) q) (-1) [] Ya Yd (fun i l hl=>by simp at hl)).1
 refine ⟨⟨rfl,by show 0+F=F;omega,hF,by omega,trivial,hI.c,l2,l3,fun d hd=>(by cases hd),?_,hnx⟩,⟨_,⟨hB,fun x hx=>(by cases hx),hlow,fun x hx=> .inr (hqv x hx)⟩,c1⟩,hI,by dsimp only;omega,by dsimp only;simp⟩
 dsimp only
 rw [c2,List.nil_append,c3]
 omega
theorem QmZ (P:List Cl) (q:Ts) (vars fuel every:Int) (he:0≤every):Qpa P q vars fuel every=QdU P q vars fuel:=by
 unfold Qpa QdU
 by_cases h1:pB P=false∨qB vars q=false
 ·rw [if_pos h1,if_pos h1]
 rw [if_neg h1,if_neg h1]
 by_cases h2:fuel<0∨150<fuel
 ·rw [if_pos h2,if_pos Ya]
 rw [if_neg h2,if_neg Ya]
 have hp:pB P=true:=by cases hh:pB P with|true=>rfl|false=>exact absurd (.inl hh) h1
 have hq:qB vars q=true:=by cases hh:qB vars q with|true=>rfl|false=>exact absurd (.inr hh) h1
 have hq':=hq
 simp only [qB,Bool.and_eq_true,decide_eq_true_eq] at hq'
 obtain ⟨⟨⟨v0,v1⟩,v2⟩,v3⟩:=hq'
 obtain ⟨v,rfl⟩:∃v:Nat,vars=(v:Nat):=⟨vars.toNat,by omega⟩
 obtain ⟨f,rfl⟩:∃f:Nat,fuel=(f:Nat):=⟨fuel.toNat,by omega⟩
 simp only [Int.toNat_natCast]
 rw [QtW hp 4000 _ _ (Qnv hq Ya) (by simp [Qbx])]
theorem QiX (P:List Cl) (q:Ts) (vars fuel every:Int) (he:every<0):Qpa P q vars fuel every=if pB P=false∨qB vars q=false then ([],1) else ([],2):=by
 unfold Qpa
 split
 ·rfl
 ·rw [if_pos Ya]
set_option maxRecDepth 100000
section
variable {P:Program} {n:Nat} {e:Env} {w:World} {ty:TypeId} {pos:String} {after:Array Edge} {dst:Option Nat} {x y:Operand} {t t2:TypeId}
theorem Qjr {vs:List Value} {v:Value} {o t:Nat} (hA:Qgn P t=some false) (h:vs[o]?=some v) (w:World):(part t vs.toArray o).run P w= .ok v w:=by
 simp only [part,bind]
 rw [Sem.run_bind',Qdm hA]
 simp [Sem.run,h,pure]
theorem QjC (a b:HC) (w:World):(Op.equalIn 10000 104 (.agg (hcs a).toArray) (.agg (hcs b).toArray)).run Tryz.prog w= .ok (decide (a=b)) w:=by
 rw [run_equalIn_agg w 9999 _ _ _ Yc Yc]
 have hf:(Tryz.prog.fieldsOf 104).toList=[⟨"Kind",3,0,false, "", "",0⟩,⟨"N",3,1,false, "", "",8⟩,⟨"S",9,2,false, "", "",16⟩]:=by kernel_rfl
 have p0:=fun (c:HC) w=>Qjr (P:=Tryz.prog) (vs:=hcs c) (v:= .int .i64 c.k) (o:=0) (t:=3) rfl rfl w
 have p1:=fun (c:HC) w=>Qjr (P:=Tryz.prog) (vs:=hcs c) (v:= .int .i64 c.n) (o:=1) (t:=3) rfl rfl w
 have p2:=fun (c:HC) w=>Qjr (P:=Tryz.prog) (vs:=hcs c) (v:= .string c.s) (o:=2) (t:=9) rfl rfl w
 have q0:∀(a b:Int) w,(Op.equalIn 9999 3 (.int .i64 a) (.int .i64 b)).run Tryz.prog w= .ok (a==b) w:=fun a b w=>run_equalIn_int w 9998 _ _ .i64 _ _ Yc
 have q2:∀(a b:ByteArray) w,(Op.equalIn 9999 9 (.string a) (.string b)).run Tryz.prog w= .ok (a.toList==b.toList) w:=fun a b w=>run_equalIn_string w 9998 _ _ _ Yc
 rw [hf]
 obtain ⟨ak,an,az⟩:=a
 obtain ⟨bk,bn,bz⟩:=b
 simp only [Op.eqFields,Sem.run_bind,p0,p1,p2,q0,q2,Result.andThen_ok,Sem.run_ite,Sem.run_pure,HC.mk.injEq]
 by_cases h0:ak=bk
 ·by_cases h1:an=bn
  ·by_cases h2:az=bz
   ·simp [h0,h1,h2,Sem.run]
   ·have h2':¬az.toList=bz.toList:=fun e=>h2 (QkY.1 e)
    simp [h0,h1,h2,h2',Sem.run]
  ·simp [h0,h1,Sem.run]
 ·simp [h0,Sem.run]
theorem QnF {a b:HC} (hx:ev n e x= .agg (hcs a).toArray) (hy:ev n e y= .agg (hcs b).toArray):
  (execOp (ev n e) ⟨dst,.binOp .neq 104 x y 104,ty,pos,after,none⟩).run Tryz.prog w= .ok (.value (.bool (!decide (a=b)))) w:=by
 simp only [execOp,hx,hy,bind,pure]
 rw [Sem.run_bind',Sem.run_bind',run_eqGuard_agg w _ _ _ _ _ _ Yc]
 simp only [Result.andThen_ok]
 rw [run_neq_struct,QjC]
 rfl
end
set_option maxHeartbeats 1000000
theorem QiO {L:List HC} {a:Int} (h0:0≤a) (h1:a<L.length):∃c,hat L a=some c∧L[a.toNat]?=some c:=by
 refine ⟨L[a.toNat]'Ya,?_,?_⟩
 ·unfold hat;rw [if_pos h0];exact List.getElem?_eq_getElem _
 ·exact List.getElem?_eq_getElem _
theorem Qrt {L:List HC} {a:Int} (h:¬(0≤a∧a<L.length)):hat L a=none:=by
 unfold hat
 split
 ·exact List.getElem?_eq_none Ya
 ·rfl
theorem QdN {L:List HC} {a:Int} {c:HC} (h:hat L a=some c):0≤a∧a<L.length∧L[a.toNat]?=some c:=by
 unfold hat at h
 split at h
 ·rename_i h0
  refine ⟨h0,?_,h⟩
  rcases Nat.lt_or_ge a.toNat L.length with hl|hl
  ·omega
  ·rw [List.getElem?_eq_none hl] at h;cases h
 ·cases h
theorem Qdh {L:List HC} {a:Int}:Qo L a=true↔∃c,hat L a=some c:=by
 unfold Qo
 simp only [Bool.and_eq_true,decide_eq_true_eq]
 constructor
 ·rintro ⟨h0,h1⟩;obtain ⟨c,h,_⟩:=QiO h0 h1;exact ⟨c,h⟩
 ·rintro ⟨c,h⟩;have:=QdN h;exact ⟨this.1,this.2.1⟩
theorem QbQ (n c:Nat) (A B:Option Addr) (m d:Nat) (a:Int) (w:World):
  Calls Tryz.prog 142 #[QmH A n c B m d,.int .i64 a] w fun e w'=>e= .returned (.bool (decide (0≤a)&&decide (a<n)))∧Below w.heap.size w w':=by
 have hS:=St.start w
 refine Qh Tryz.func142 rfl Tryz.ntmps142 rfl ?_
 by_cases h0:0≤a
 ·by_cases h1:a<n
  ·rw [decide_eq_true h0,decide_eq_true h1]
   refine Zi ?_
   clear hS
   intro b1 wx1 hS
   refine Zap ?_
   refine ZO ?_
   refine ZN ?_
   refine ZaK ?_
   refine ZbK ?_
   refine Zs ?_
   refine Zab ?_
   refine Ziu ?_
   exact ⟨rfl,hS.ext.below⟩
  ·rw [decide_eq_true h0,decide_eq_false h1]
   refine Zi ?_
   clear hS
   intro b1 wx1 hS
   refine Zap ?_
   refine ZO ?_
   refine ZN ?_
   refine ZaK ?_
   refine ZbK ?_
   refine Zs ?_
   refine Zab ?_
   refine Ziu ?_
   exact ⟨rfl,hS.ext.below⟩
 ·rw [decide_eq_false h0]
  refine Zi ?_
  clear hS
  intro b1 wx1 hS
  refine Zap ?_
  refine ZO ?_
  refine Zdk ?_
  refine Zab ?_
  refine Ziu ?_
  exact ⟨rfl,hS.ext.below⟩
theorem QrL (x:HC) (w:World):Calls Tryz.prog 192 #[.agg (hcs x).toArray] w fun e w'=>e= .returned (.int .i64 (QU x))∧Below w.heap.size w w':=by
 have hS:=St.start w
 refine Qg Tryz.func192 rfl Tryz.ntmps192 rfl ?_
 by_cases h:x.k=3
 ·rw [show QU x=x.n by unfold QU;rw [if_pos h]]
  refine Zi ?_
  clear hS
  intro b1 wx1 hS
  refine Zfe ?_
  refine Zr ?_
  refine Zb0 ?_
  refine ZU ?_
  refine Zd ?_
  refine Qd Tryz.func192 rfl Yb ?_
  exact ⟨rfl,hS.ext.below⟩
 ·rw [show QU x=0 by unfold QU;rw [if_neg h]]
  refine Zi ?_
  clear hS
  intro b1 wx1 hS
  refine Zfe ?_
  refine Zan ?_
  refine Zg ?_
  refine Qd Tryz.func192 rfl Yb ?_
  exact ⟨rfl,hS.ext.below⟩
theorem Qoy (x:HC) (all follow:Nat) (w:World):Calls Tryz.prog 186 #[.agg (hcs x).toArray,.int .i64 (all:Nat),.int .i64 (follow:Nat)] w fun e w'=>e= .returned (.bool (Qau all x follow))∧Below w.heap.size w w':=by
 have hS:=St.start w
 refine QQ Tryz.func186 rfl Tryz.ntmps186 rfl ?_
 by_cases h0:x.k=0
 ·have e0:Qau all x follow=(decide (0≤x.n)&&(decide (x.n<all)&&decide (x.s=eS))):=by unfold Qau;rw [if_pos h0]
  rw [e0]
  by_cases h1:0≤x.n
  ·rw [decide_eq_true h1]
   by_cases h2:x.n<all
   ·rw [decide_eq_true h2]
    by_cases h3:x.s=eS
    ·rw [decide_eq_true h3]
     refine Zi ?_
     clear hS
     intro b1 wx1 hS
     refine ZbI ?_
     refine Zed ?_
     refine ZO ?_
     refine Z3 ?_
     refine Zgd ?_
     refine ZfG ?_
     refine Zbz ?_
     refine Zer ?_
     refine ZZ ?_
     refine ZbQ ?_
     exact ⟨rfl,hS.ext.below⟩
    ·rw [decide_eq_false h3]
     have h3':x.s≠eS:=h3
     refine Zi ?_
     clear hS
     intro b1 wx1 hS
     refine ZbI ?_
     refine Zed ?_
     refine ZO ?_
     refine Z3 ?_
     refine Zgd ?_
     refine ZfG ?_
     refine Zbz ?_
     refine Zer ?_
     refine ZZ ?_
     refine ZbQ ?_
     exact ⟨rfl,hS.ext.below⟩
   ·rw [decide_eq_false h2]
    refine Zi ?_
    clear hS
    intro b1 wx1 hS
    refine ZbI ?_
    refine Zed ?_
    refine ZO ?_
    refine Z3 ?_
    refine Zgd ?_
    refine ZfG ?_
    refine ZQ ?_
    refine Zal ?_
    refine ZbQ ?_
    exact ⟨rfl,hS.ext.below⟩
  ·rw [decide_eq_false h1]
   refine Zi ?_
   clear hS
   intro b1 wx1 hS
   refine ZbI ?_
   refine Zed ?_
   refine ZO ?_
   refine ZaQ ?_
   refine ZQ ?_
   refine Zal ?_
   refine ZbQ ?_
   exact ⟨rfl,hS.ext.below⟩
 by_cases h1:x.k=1
 ·have e0:Qau all x follow=(decide (x.n=0)&& !decide (x.s=eS)):=by unfold Qau;rw [if_neg h0,if_pos h1]
  rw [e0]
  by_cases h2:x.n=0
  ·rw [decide_eq_true h2]
   by_cases h3:x.s=eS
   ·rw [decide_eq_true h3]
    refine Zi ?_
    clear hS
    intro b1 wx1 hS
    refine ZbI ?_
    refine Zcp ?_
    refine ZcZ ?_
    refine Zer ?_
    refine ZaZ ?_
    refine ZbQ ?_
    exact ⟨rfl,hS.ext.below⟩
   ·rw [decide_eq_false h3]
    have h3':x.s≠eS:=h3
    refine Zi ?_
    clear hS
    intro b1 wx1 hS
    refine ZbI ?_
    refine Zcp ?_
    refine ZcZ ?_
    refine Zer ?_
    refine ZaZ ?_
    refine ZbQ ?_
    exact ⟨rfl,hS.ext.below⟩
  ·rw [decide_eq_false h2]
   refine Zi ?_
   clear hS
   intro b1 wx1 hS
   refine ZbI ?_
   refine Zcp ?_
   refine Zif ?_
   refine ZbQ ?_
   exact ⟨rfl,hS.ext.below⟩
 by_cases h2:x.k=2
 ·have e0:Qau all x follow=decide (x.s=eS):=by unfold Qau;rw [if_neg h0,if_neg h1,if_pos h2]
  rw [e0]
  by_cases h3:x.s=eS
  ·rw [decide_eq_true h3]
   refine Zi ?_
   clear hS
   intro b1 wx1 hS
   refine Za7 ?_
   refine Zfi ?_
   refine Zam ?_
   refine ZZ ?_
   refine Zd ?_
   refine Zho ?_
   exact ⟨rfl,hS.ext.below⟩
  ·rw [decide_eq_false h3]
   have h3':x.s≠eS:=h3
   refine Zi ?_
   clear hS
   intro b1 wx1 hS
   refine Za7 ?_
   refine Zfi ?_
   refine Zam ?_
   refine ZZ ?_
   refine Zd ?_
   refine Zho ?_
   exact ⟨rfl,hS.ext.below⟩
 by_cases h3:x.k=3
 ·have e0:Qau all x follow=(decide (1≤x.n)&&(decide (x.n≤4)&&(decide (x.n≤follow)&& !decide (x.s=eS)))):=by unfold Qau;rw [if_neg h0,if_neg h1,if_neg h2,if_pos h3]
  rw [e0]
  by_cases h4:1≤x.n
  ·rw [decide_eq_true h4]
   by_cases h5:x.n≤4
   ·rw [decide_eq_true h5]
    by_cases h6:x.n≤follow
    ·rw [decide_eq_true h6]
     by_cases h7:x.s=eS
     ·rw [decide_eq_true h7]
      refine Zi ?_
      clear hS
      intro b1 wx1 hS
      refine Za7 ?_
      refine Zcp ?_
      refine ZO ?_
      refine ZcX ?_
      refine ZeS ?_
      refine Zbz ?_
      refine Zgd ?_
      refine Zdu ?_
      refine Zbz ?_
      refine Zer ?_
      refine ZaZ ?_
      refine ZbQ ?_
      exact ⟨rfl,hS.ext.below⟩
     ·rw [decide_eq_false h7]
      have h7':x.s≠eS:=h7
      refine Zi ?_
      clear hS
      intro b1 wx1 hS
      refine Za7 ?_
      refine Zcp ?_
      refine ZO ?_
      refine ZcX ?_
      refine ZeS ?_
      refine Zbz ?_
      refine Zgd ?_
      refine Zdu ?_
      refine Zbz ?_
      refine Zer ?_
      refine ZaZ ?_
      refine ZbQ ?_
      exact ⟨rfl,hS.ext.below⟩
    ·rw [decide_eq_false h6]
     refine Zi ?_
     clear hS
     intro b1 wx1 hS
     refine Za7 ?_
     refine Zcp ?_
     refine ZO ?_
     refine ZcX ?_
     refine ZeS ?_
     refine Zbz ?_
     refine Zgd ?_
     refine Zdu ?_
     refine ZQ ?_
     refine Zal ?_
     refine ZbQ ?_
     exact ⟨rfl,hS.ext.below⟩
   ·rw [decide_eq_false h5]
    refine Zi ?_
    clear hS
    intro b1 wx1 hS
    refine Za7 ?_
    refine Zcp ?_
    refine ZO ?_
    refine ZcX ?_
    refine ZeS ?_
    refine ZQ ?_
    refine ZaQ ?_
    refine ZQ ?_
    refine Zal ?_
    refine ZbQ ?_
    exact ⟨rfl,hS.ext.below⟩
  ·rw [decide_eq_false h4]
   refine Zi ?_
   clear hS
   intro b1 wx1 hS
   refine Za7 ?_
   refine Zcp ?_
   refine ZO ?_
   refine Zal ?_
   refine ZQ ?_
   refine ZaQ ?_
   refine ZQ ?_
   refine Zal ?_
   refine ZbQ ?_
   exact ⟨rfl,hS.ext.below⟩
 have e0:Qau all x follow=false:=by unfold Qau;rw [if_neg h0,if_neg h1,if_neg h2,if_neg h3]
 rw [e0]
 refine Zi ?_
 clear hS
 intro b1 wx1 hS
 refine Za7 ?_
 refine ZcM ?_
 refine Zek ?_
 refine Zho ?_
 exact ⟨rfl,hS.ext.below⟩
theorem Qgi {all:Nat}:∀{D:List HC} {x:HC} {R:List HC},Qau all x R.length=false→Q2 all (D++x::R)=false
 |[],x,R,h=>by simp [Q2,h]
 |y::D,x,R,h=>by simp [Q2,Qgi (D:=D) h]
theorem QgW (L:List HC) (A:Option Addr) (c:Nat) (w:World) (hL:QG 3 (Qav L) A L.length c w):
  Calls Tryz.prog 140 #[.slice A L.length c] w fun e w'=>e= .returned (.bool (Qat L))∧Below w.heap.size w w':=by
 have hS:=(St.start w).flat (M:=[]) hL
 refine Qg Tryz.func140 rfl Tryz.ntmps140 rfl ?_
 by_cases hl:65536<L.length
 ·rw [show Qat L=false by unfold Qat;rw [decide_eq_false Ya];rfl]
  refine Zac ?_
  refine ZaJ ?_
  refine Z6 ?_
  refine Ziv ?_
  exact ⟨rfl,hS.ext.below⟩
 rw [show Qat L=Q2 L.length L by unfold Qat;rw [decide_eq_true Ya];rfl]
 refine Zac ?_
 refine ZaJ ?_
 refine Zo ?_
 refine ZF ?_
 refine ZX ?_
 refine Qp 10 (11::12::13::14::4::3::15::16::17::18::19::20::21::22::23::24::2::25::[]) (fun (R:List HC) v w'=>∃D,L=D++R∧v= .int .i64 (D.length:Nat)∧Q2 L.length L=Q2 L.length R∧St [] w [] [QG 3 (Qav L) A L.length c] w') (fun R=>R.length) (L) ?_ Yb ?_
 ·exact ⟨[],rfl,rfl,rfl,hS⟩
 clear hS
 rintro R _ w2 jv ⟨D,hD,rfl,hg,hS⟩ ih
 have hlen:L.length=D.length+R.length:=by rw [hD];simp
 cases R with
 |nil=>
  simp only [List.length_nil] at hlen
  refine Zdw ?_
  refine Ziv ?_
  rw [hg]
  exact ⟨rfl,hS.ext.below⟩
 |cons x R=>
  simp only [List.length_cons] at hlen
  obtain ⟨b,o,rfl⟩:=hL.some_ Ya
  have hx:L[D.length]?=some x:=by rw [hD];simp
  have hcc:∀{H'} w',St [] w H' [QG 3 (Qav L) (some ⟨b,o,none⟩) L.length c] w'→_:=fun w' hS=>(hS.fact (.head _)).cell hx
  have hf:((L.length:Int)-(D.length:Nat)-1)=((R.length:Nat):Int):=by omega
  refine Zb1 ?_
  refine ZaD ?_
  refine ZdQ ?_
  clear hS
  intro b1 wx1 hS
  refine Zct ?_
  clear hS
  intro wx2 hS
  refine Za2 ?_
  refine Zig ?_
  refine ZdR ?_
  refine ZdR ?_
  refine Zf ?_
  refine Zbf ?_
  refine Zbf ?_
  rw [hf]
  refine ZaY ?_
  refine Calls.mono (Qoy x L.length R.length _) ?_
  rintro _ w3 ⟨rfl,hb3⟩
  refine Za ?_
  replace hS:=hS.grow hb3
  cases hgc:Qau L.length x R.length with
  |false=>
   refine ZL ?_
   refine Z6 ?_
   refine Ziv ?_
   rw [hg]
   refine ⟨?_,hS.ext.below⟩
   simp [Q2,hgc]
  |true=>
   refine Z1 ?_
   refine Z9 ?_
   refine ih (R) _ _ _ ?_ ?_ Yb Yc
   ·simp
   ·refine ⟨D++[x],by rw [hD];simp,by simp,?_,hS.drop⟩
    rw [hg];simp [Q2,hgc]
theorem QpY {L:List HC} {a:Int} (h:hat L a=none):∀f,Qbi L f a= -1
 |0=>rfl
 |f+1=>by simp only [Qbi,h]
end Go.Proofs.YthliapbflkfdiacGreatDoor
