/- Solves, RefS15, PSim5, PSim6, Alike, SameR, SEv, SolvesL, LSAll, HSet, HPure, HChain, HOne: texts that follow one another, laid into one file. -/
import Derived.Test.YthliapbflkfdiacGreatDoorZ0
import Derived.Test.YthliapbflkfdiacGreatDoorG14
import Derived.Test.YthliapbflkfdiacGreatDoorG27
import Derived.KernelRfl
import Derived.Test.YthliapbflkfdiacGreatDoorG21
import Derived.Test.YthliapbflkfdiacGreatDoorG1
import Derived.Test.YthliapbflkfdiacGreatDoorRows
import Derived.Deep.LoopGhost
import Derived.StillTailTactics
namespace Go.Proofs.YthliapbflkfdiacGreatDoor
open Go.RowKit
set_option linter.unusedVariables false
set_option linter.unusedSimpArgs false
set_option maxRecDepth 100000
set_option maxHeartbeats 1000000
theorem QkP.segC {w:World} {b:Nat}:∀{L:List LC} {o:Nat},QkP w b L o→(∀x∈L,QzF x w)→Qqj w (fun _=>True) (L.map LC.cl) b o
 |[],_,_,_=>trivial
 |c::r,o,⟨h0,h1,h2,h3,h4,h5,h6⟩,hr=>⟨trivial,h0,h1,h2,⟨_,h3,(hr c (.head _)).1.sl⟩,⟨_,h4,(hr c (.head _)).2.sl⟩,h5,h6.segC fun x hx=>hr x (.tail _ hx)⟩
theorem Qit.slC {L:List LC} {A:Option Addr} {c:Nat} {w:World} (h:Qit L A c w):SlC w (fun _=>True) (.slice A L.length c) (L.map LC.cl):=by
 refine ⟨A,c,by simp,by simpa using h.1,fun hl=> ?_⟩
 obtain ⟨b,o,e,hs⟩:=h.2.1 (by simpa using hl)
 exact ⟨b,o,e,hs.segC h.2.2⟩
section
variable {M:List Nat} {w0:World} {H:List (Nat×Obj)} {F:List (World→Prop)}
end
def OE.ke (x:OE):KE:=⟨x.k,x.A,x.c,x.T⟩
theorem QxB:∀L:List OE,oeL L=keL (L.map OE.ke)
 |[]=>rfl
 |x::r=>by simp only [oeL,List.map_cons,keL,QxB r];rfl
theorem Qf6 {v:Int} (hv:v≤8):∀T:Ts,T.good v=true→T.shift 0=T
 | .nil,_=>rfl
 | .cons k n s ar r,h=>by
  simp only [Ts.good,Bool.and_eq_true] at h
  rw [Ts.shift_cons,Qf6 hv ar h.1.2,Qf6 hv r h.2]
  have:Qbl k n 0=n:=by
   unfold Qbl
   split
   ·rename_i hk
    have hn:=h.1.1
    unfold QaH at hn
    rw [if_pos hk] at hn
    simp only [Bool.and_eq_true,decide_eq_true_eq] at hn
    rw [QfW hn.1.1.1 Ya,QfW (n:=0) Ya Ya];omega
   ·rfl
  rw [this]
theorem Qsf {v:Int} (hv:v≤8) {k n:Int} {s:ByteArray} {T:Ts} (h:(Ts.cons k n s T .nil).good v=true):Tm.shift ⟨k,n,s,T⟩ 0=⟨k,n,s,T⟩:=by
 have:=Qf6 hv _ h
 rw [Ts.shift_cons] at this
 injection this with h1 h2 h3 h4
 unfold Tm.shift
 dsimp only
 rw [h2,h4]
section
variable {M:List Nat} {w0:World} {H:List (Nat×Obj)} {F:List (World→Prop)}
theorem Qr9 (X:List LC) (pA:Option Addr) (pc:Nat) (T:TA) (qA:Option Addr) (qc:Nat) (vars fuel:Int) (w:World) (hX:Und F (Qit X pA pc)) (hT:Und F (ArA qA qc T)) (hn:QcG (X.map LC.cl)≤1048576) (hn2:T.ts.nodes≤1048576) (hS:St M w0 H F w):
  Calls Tryz.prog 34 #[.slice pA X.length pc,.slice qA T.len qc,.int .i64 vars,.int .i64 fuel] w fun e w'=>∃(A:Option Addr) (c:Nat) (L:List KE) (F':List (World→Prop)),e= .returned (.tuple #[.slice A L.length c,.int .i64 (Qjj (X.map LC.cl) T.ts vars fuel).2])∧L.map KE.ev=(Qjj (X.map LC.cl) T.ts vars fuel).1∧(∀φ∈F,φ∈F')∧Und F' (KER L A c)∧St M w0 H F' w':=by
 have hnil:∀w:World,KER [] none 0 w:=fun w=>⟨Nat.le_refl _,fun h=>by simp at h,fun x hx=>by cases hx⟩
 have hgp:=fun (w':World) (hS:St M w0 H F w')=>QmE (X.map LC.cl) (.slice pA X.length pc) w' (hS.und hX).slC hn
 have hgq:=fun (w':World) (hS:St M w0 H F w')=>Qgh vars T.ts (.slice qA T.len qc) w' (hS.und hT).sl hn2
 unfold Qjj
 refine Qcq Tryz.func34 rfl Tryz.ntmps34 rfl ?_
 refine Zaa ?_
 refine ZF ?_
 refine Zj ?_
 refine Calls.mono (hgp _ hS) ?_
 rintro _ w3 ⟨rfl,hb3⟩
 refine Za ?_
 replace hS:=hS.grow hb3
 cases hpB:pB (X.map LC.cl) with
 |false=>
  rw [if_pos (.inl rfl)]
  refine ZL ?_
  refine ZaQ ?_
  refine ZaT ?_
  refine Ze3 ?_
  exact ⟨none,0,[],F,rfl,rfl,fun _ h=>h,fun w _=>hnil w,hS⟩
 |true=>
 refine ZL ?_
 refine Zfq ?_
 refine Ze ?_
 refine Calls.mono (hgq _ hS) ?_
 rintro _ w4 ⟨rfl,hb4⟩
 refine Za ?_
 replace hS:=hS.grow hb4
 cases hqB:qB vars T.ts with
 |false=>
  rw [if_pos (.inr rfl)]
  refine ZbH ?_
  refine ZaT ?_
  refine Ze3 ?_
  exact ⟨none,0,[],F,rfl,rfl,fun _ h=>h,fun w _=>hnil w,hS⟩
 |true=>
 rw [if_neg Yd]
 by_cases hf1:fuel<0
 ·rw [if_pos (.inl hf1)]
  refine Zbm ?_
  refine Zdp ?_
  refine Zai ?_
  refine ZaT ?_
  refine Ze3 ?_
  exact ⟨none,0,[],F,rfl,rfl,fun _ h=>h,fun w _=>hnil w,hS⟩
 by_cases hf2:150<fuel
 ·rw [if_pos (.inr hf2)]
  refine Zbm ?_
  refine Zc1 ?_
  refine Zw ?_
  refine ZaT ?_
  refine Ze3 ?_
  exact ⟨none,0,[],F,rfl,rfl,fun _ h=>h,fun w _=>hnil w,hS⟩
 rw [if_neg (by rintro (h|h)<;>contradiction)]
 obtain ⟨fuel,rfl⟩:∃f:Nat,fuel=f:=⟨fuel.toNat,by omega⟩
 have hqB2:=hqB
 simp only [qB,Bool.and_eq_true,decide_eq_true_eq] at hqB2
 obtain ⟨vars,rfl⟩:∃v:Nat,vars=v:=⟨vars.toNat,by omega⟩
 simp only [Int.toNat_natCast]
 have hpB2:=hpB
 unfold pB at hpB2
 simp only [Bool.and_eq_true,decide_eq_true_eq,List.all_eq_true,List.length_map] at hpB2
 have hXc:∀x∈X,cB x.cl=true:=fun x hx=>hpB2.2 _ (List.mem_map.2 ⟨x,hx,rfl⟩)
 have hnq:=goals_nodes _ hqB2.2
 have hTl:T.len≤5:=by have:=TA.len_ts T;have:=hqB2.1.2;omega
 refine Zbm ?_
 refine Zc1 ?_
 refine Zw ?_
 refine ZC ?_
 refine Zdm ?_
 refine Qa (QD (cells:=[_,_,_,_,_,_,_]) (.cons Yb (.cons Yb (.cons Yb (.cons Yb .nil)))) rfl) rfl ?_
 refine ZaX ?_
 clear hS
 intro b1 wx1 hS
 refine Zd ?_
 refine Zac ?_
 refine ZdH ?_
 refine Qx 12 11 (37::38::41::42::43::44::45::46::47::39::40::[]) (fun (j:Nat) v u w'=>∃(D2 R2:TA) (gs:List GN) (F3:List (World→Prop)),T=D2.app R2∧D2.len=j∧v= .int .i64 ((j:Nat)-1)∧u=Qe6 gs∧Qam gs=QaX R2.ts 0 0 []∧(∀φ∈F,φ∈F3)∧Und F3 (TdR gs)∧St M w0 ((b1,.cells (QfK pA X.length pc vars ⟨fuel,vars,0,[],false⟩ none 0 0).toArray 109)::H) F3 w') (fun j=>j) (T.len) ?_ Yb Yb ?_
 ·exact ⟨T,.nil,[],F,by rw [TA.app_nil],rfl,rfl,rfl,rfl,fun _ h=>h,fun _ _=>trivial,hS⟩
 clear hS
 rintro j _ _ w10 jy ⟨D2,R2,gs,F3,hDR2,hDj,rfl,rfl,hgs,hF3,hpr3,hS⟩ ih2
 have hlen2:T.len=D2.len+R2.len:=by rw [hDR2,TA.len_app]
 cases j with
 |succ j=>
  obtain ⟨D',k1,n1,s1,A1,c1',a1,rfl,hD'⟩:=TA.snoc D2 j hDj
  have hDR':T=D'.app (.cons k1 n1 s1 A1 c1' a1 R2):=by rw [hDR2,TA.app_assoc];rfl
  have hT':=hT.mono hF3
  rw [hDR'] at hT'
  have hnod:(TA.cons k1 n1 s1 A1 c1' a1 .nil).ts.goals ((vars:Nat):Int)=true:=by
   have:=hqB2.2
   rw [hDR',TA.app_ts] at this
   have key:∀(a b:Ts),(a.app b).goals ((vars:Nat):Int)=true→b.goals ((vars:Nat):Int)=true:=by
    intro a b
    induction a with
    |nil=>exact id
    |cons k n s x r _ ih=>intro h;simp only [Ts.app,Ts.goals,Bool.and_eq_true] at h;exact ih h.2
   have:=key _ _ this
   simp only [TA.ts,Ts.goals,Bool.and_eq_true] at this⊢
   exact ⟨this.1,trivial⟩
  have hz0:(Tm.shift ⟨k1,n1,s1,a1.ts⟩ 0)=⟨k1,n1,s1,a1.ts⟩:=by
   simp only [TA.ts,Ts.goals,Bool.and_eq_true] at hnod
   have hg:=hnod.1
   simp only [gB,Bool.and_eq_true] at hg
   exact Qsf (v:=((vars:Nat):Int)) Ya hg.1.2
  have hsub:Und F3 (LRd ⟨k1,n1,s1,A1,c1',a1⟩):=hT'.imp fun w h=>h.sub
  obtain ⟨b7,o7,hba⟩:=(hS.und hT').some_ (by rw [TA.len_app];simp only [TA.len];omega)
  subst hba
  obtain ⟨z0,z1,z2,z3⟩:=(hS.und hT').cells
  rw [show o7+D'.len*4=o7+(((j+1:Nat):Int)-1).toNat*4 by omega] at z0 z1 z2 z3
  refine ZdJ ?_
  refine ZaS ?_
  refine ZkB ?_
  refine Zf ?_
  refine ZgF ?_
  refine ZaX ?_
  clear hS
  intro b2 wx2 hS
  refine ZeD ?_
  replace hS:=hS.freeze
  refine ih2 j _ _ _ _ ?_ ?_ Yb Yb Yc
  ·omega
  ·refine ⟨D',.cons k1 n1 s1 A1 c1' a1 R2,⟨⟨k1,n1,s1,A1,c1',a1⟩,0,_⟩::gs,_,hDR',hD',?_,rfl,?_,fun φ h=> .tail _ (hF3 φ h),?_,hS⟩
   ·congr 1;omega
   ·show (Tm.mk k1 n1 s1 a1.ts,0)::Qam gs=(Tm.shift ⟨k1,n1,s1,a1.ts⟩ 0,0)::QaX R2.ts 0 0 []
    rw [hz0,hgs]
   ·exact fun w hw=>⟨hw _ (.head _),(hsub.tail) w hw,hpr3 w fun φ hφ=>hw φ (.tail _ hφ)⟩
 |zero=>
  have hD2:D2= .nil:=by cases D2 with
   |nil=>rfl
   |cons _ _ _ _ _ _ _=>simp [TA.len] at hDj
  subst hD2
  have hRx:R2=T:=by rw [hDR2];rfl
  subst hRx
  clear ih2
  have hpr:=Qlo (X:=X) (pA:=pA) (pc:=pc) (q:=vars) (C:=vars+8*(fuel+12)) (D:=fuel) hpB2.1 hXc Ya Ya Ya fuel Ya
  have hcall:=hpr M w0 H F3 gs [] b1 ⟨fuel,vars,0,[],false⟩
  have hgd2:∀y∈gs,tgd y.t.tm:=by
   have:=Qkk (v:=((vars:Nat):Int)) (m:=0) (o:=0) (rest:=[]) Ya Ya Ya (fun y hy=>(by cases hy)) R2.ts hqB2.2
   rw [←Qvx,←hgs] at this
   intro y hy
   exact this (y.t.tm,y.o) (List.mem_map.2 ⟨y,hy,rfl⟩)
  have hP24:∀c∈X.map LC.cl,c.vars.toNat≤8:=fun c hc=>by
   obtain ⟨x,hx,rfl⟩:=List.mem_map.1 hc
   have:=(Qez (hXc x hx)).2.1
   omega
  have hBI:BdI (vars+8*(fuel+12)) fuel ⟨fuel,vars,0,[],false⟩:=⟨by show vars+8*(fuel+12)≤vars+8*(fuel+12)+8*0;omega,by show 0+fuel≤fuel;omega,by show 0<12;omega,rfl⟩
  have hbdo:=Qmj (q:=vars) (C:=vars+8*(fuel+12)) (D:=fuel) hP24 fuel (Qam gs) (QK []) _ hBI
  rw [hgs] at hcall hbdo
  have hend:∀(pq:Qa0) (F':List (World→Prop)) (w':World),PSt M w0 H F' b1 pA X.length pc vars pq w'→pq.out.length≤100→Calls Tryz.prog 63 #[.pointer (some ⟨b1,0,none⟩),.int .i64 2] w' fun e w2=>e= .returned (.int .i64 (-1))∧PSt M w0 H F' b1 pA X.length pc vars (QfZ 2 pq) w2:=fun pq F' w' hP ho=>Qew b1 pA X.length pc vars pq 2 w' ho hP
  rw [show QK []=([]:Bnd) from rfl] at hcall hbdo
  generalize Qn (X.map LC.cl) vars fuel (QaX R2.ts 0 0 []) [] ⟨fuel,vars,0,[],false⟩=Q at*
  obtain ⟨kq,pq⟩:=Q
  dsimp only at hcall hbdo⊢
  have hfin:∀(pr:Qa0) (F':List (World→Prop)) (w':World) (K4:List OE) (oA4:Option Addr) (oc4:Nat) (O4:List (Nat×Obj)),(∀φ∈F,φ∈F')→K4.map OE.ev=pr.out→(∀x∈K4,Und F' (ArA x.A x.c x.T))→Rw 34 2 (.slice oA4 K4.length oc4) K4.length (oeL K4) O4→St M w0 ((b1,.cells (QfK pA X.length pc vars pr oA4 K4.length oc4).toArray 109)::(O4++H)) F' w'→
    ∃(A:Option Addr) (c:Nat) (L:List KE) (F':List (World→Prop)),Value.slice oA4 K4.length oc4= .slice A L.length c∧L.map KE.ev=pr.out∧(∀φ∈F,φ∈F')∧Und F' (KER L A c)∧St M w0 H F' w':=by
   intro pr F' w' K4 oA4 oc4 O4 hF' e1 e2 e3 h
   have h2:=St.freezeR e3 h.drop
   refine ⟨oA4,oc4,K4.map OE.ke,_,by rw [List.length_map],by rw [List.map_map];exact e1,fun φ h=> .tail _ (hF' φ h),fun w2 hw=> ?_,h2⟩
   have hfl:=hw _ (.head _)
   refine ⟨by rw [List.length_map];exact hfl.2.1,fun hl=> ?_,fun x hx=> ?_⟩
   ·rw [List.length_map] at hl
    obtain ⟨b,o,e,hs⟩:=hfl.2.2 hl
    exact ⟨b,o,e,QpV fun j u hu=>hs j u (by rw [QxB];exact hu)⟩
   ·obtain ⟨y,hy,rfl⟩:=List.mem_map.1 hx
    exact e2 y hy w2 fun φ hφ=>hw φ (.tail _ hφ)
  refine ZdI ?_
  refine Zu ?_
  refine ZaY ?_
  refine Calls.mono (hcall _ (hX.mono hF3) hpr3 hgd2 ⟨fun w _=>trivial,trivial,fun x hx=>(by cases hx)⟩ (by show fuel≤fuel;omega) hBI ⟨[],none,0,[],rfl,fun x hx=>(by cases hx),Rw.zero_,hS⟩) ?_
  rintro _ w12 ⟨F4,rfl,hF4,hP4⟩
  refine Za ?_
  clear hS
  have hFF4:∀φ∈F,φ∈F4:=fun φ h=>hF4 φ (hF3 φ h)
  have hbo:=hbdo.o
  obtain ⟨K4,oA4,oc4,O4,hK4,hKr4,hrow4,hS⟩:=hP4
  cases he4:pq.ended with
  |true=>
   rw [if_pos rfl]
   simp only [QfK,he4] at hS
   refine Zey ?_
   refine ZaN ?_
   refine Zq ?_
   refine Z1 ?_
   refine Z0 ?_
   refine Za0 ?_
   refine Zq ?_
   refine Zn ?_
   refine Ze3 ?_
   obtain ⟨A,c,L,F',g1,g2,g3,g4,g5⟩:=hfin pq F4 _ K4 oA4 oc4 O4 hFF4 hK4 hKr4 hrow4 (by simp only [QfK,he4];exact hS)
   exact ⟨A,c,L,F',by rw [g1],g2,g3,g4,g5⟩
  |false=>
   rw [if_neg Yf]
   simp only [QfK,he4] at hS
   refine Zey ?_
   refine ZaN ?_
   refine Zq ?_
   refine ZL ?_
   refine Za5 ?_
   refine Ze ?_
   refine Calls.mono (hend pq F4 _ ⟨K4,oA4,oc4,O4,hK4,hKr4,hrow4,by simp only [QfK,he4];exact hS⟩ Ya) ?_
   rintro _ w13 ⟨rfl,hP5⟩
   refine Za ?_
   clear hS
   obtain ⟨K5,oA5,oc5,O5,hK5,hKr5,hrow5,hS⟩:=hP5
   refine Zbv ?_
   refine Za0 ?_
   refine Zq ?_
   refine Zn ?_
   refine Ze3 ?_
   obtain ⟨A,c,L,F',g1,g2,g3,g4,g5⟩:=hfin (QfZ 2 pq) F4 _ K5 oA5 oc5 O5 hFF4 hK5 hKr5 hrow5 hS
   exact ⟨A,c,L,F',by rw [g1],g2,g3,g4,g5⟩
end
section
variable {P:List Cl} {q:Nat}
theorem Rl.next {ρ:Int→Int→Prop} {h:Nat→Nat} {s:SS} {g:Gl} {rest:List Gl} {g':Tg} {r':List Tg} {e:Bnd} {p:Qa0} (hR:Rl ρ h q s (g'::r') e p) (hg:s.goals=g::rest) (hf:s.fuel≠0) {B' e':Bnd} {C:List Ch}
  (bm:Bm Qgp Qdl (QeA ρ) B' e') (fb:FB s.fresh B') (fe:FB p.vars e') (hC:∀a∈r',h a.2≤C.length) (hI:Inv ⟨B',s.fresh,s.fuel-1,rest,C,s.ev⟩):
  Rl ρ h q ⟨B',s.fresh,s.fuel-1,rest,C,s.ev⟩ r' e' ⟨p.fuel-1,p.vars,p.calls,p.out,p.ended⟩:=by
 have hgl:=hR.gl
 rw [hg] at hgl
 cases hgl with
 |cons h1 h2=>
  exact ⟨by simp only;rw [hR.fuel],hR.out,hR.ev,hR.ne,bm,fb,fe,hR.rho,hR.le,hR.qv,h2,(List.pairwise_cons.1 hR.srt).2,fun a ha b hb=>hR.mono a (List.mem_cons_of_mem _ ha) b (List.mem_cons_of_mem _ hb),fun a ha=>⟨hC a ha,(hR.ht a (List.mem_cons_of_mem _ ha)).2⟩,hI⟩
theorem Rs.step {K K':List Ev→Prop} {B0:Bnd} {fr0:Nat} {C:List Ch} {p p1 p':Qa0} (h:Rs P q K B0 fr0 C p1 p') (hv:p.vars≤p1.vars) (hc:p.calls≤p1.calls) (hf:p1.fuel≤p.fuel) {B1:Bnd} (hB:∃N,B0=N++B1) (hk:∀L,K L→K' L):Rs P q K' B1 fr0 C p p':=by
 obtain ⟨a1,a2,a3,a4,a5⟩:=h
 refine ⟨by omega,by omega,by omega,fun hh=>hk _ (a4 hh),fun hh=> ?_⟩
 obtain ⟨t,b1,b2,b3,b4,b5,⟨X,b6⟩,b7,b8,b9⟩:=a5 hh
 obtain ⟨N,hN⟩:=hB
 exact ⟨t,b1,b2,b3,b4,b5,⟨X++N,by rw [b6,hN,List.append_assoc]⟩,b7,b8,fun L hL=>hk _ (b9 L hL)⟩
theorem Rs.back {s t:SS} {p p1:Qa0} {B1:Bnd} (hst:Qag P q s=Q9 t) (hI:QfM t) (hf:t.fuel=p1.fuel) (ho:p1.out=Qdc t.ev) (hev:t.ev.length<12) (hB:∃X,t.B=X++B1) (hfr:p1.vars≤t.fresh) (hne:p1.ended=false) (hv:p.vars≤p1.vars) (hc:p.calls≤p1.calls) (hfu:p1.fuel≤p.fuel) {fr0:Nat} (h0:fr0≤t.fresh):Rs P q (Qch P q s) B1 fr0 t.ch p p1:=
 ⟨hv,hc,hfu,fun hh=>(by rw [hne] at hh;cases hh),fun _=>⟨t,hI,rfl,hf,ho,hev,hB,h0,hfr,fun L hL=>QhF hst hL⟩⟩
theorem Rs.stop {s s':SS} {p p1:Qa0} {B1:Bnd} {C:List Ch} {fr0:Nat} {k:Int} (hst:Qag P q s=(k,s')) (hk:k≠0) (ho:p1.out=Qdc s'.ev) (hv:p.vars≤p1.vars) (hc:p.calls≤p1.calls) (hfu:p1.fuel≤p.fuel):Rs P q (Qch P q s) B1 fr0 C p (QfZ k p1):=
 ⟨hv,hc,hfu,fun _=>by show Qch P q s (p1.out++[(k,.nil)]);rw [ho];exact QgX hst hk,fun hh=>(by cases hh)⟩
theorem Que (hp : pB P = true) (hq : q ≤ 8) : ∀ f, QzC P q f := by
 have hp2:P.length≤24∧∀x∈P,cB x=true:=by
  unfold pB at hp
  simp only [Bool.and_eq_true,decide_eq_true_eq,List.all_eq_true] at hp
  exact hp
 intro f
 induction f with
 |zero=>
  intro ρ h s g e p hR hfl
  cases g with
  |nil=>
   have:=QqF (P:=P) hq hR
   exact ⟨this.1,fun hh=> .inl (this.2 hh)⟩
  |cons g' r'=>
   have hgl:=hR.gl
   cases hs:s.goals with
   |nil=>rw [hs] at hgl;cases hgl
   |cons g rest=>
    have h0:s.fuel=0:=by rw [hR.fuel];omega
    have hst:Qag P q s=(3,s):=by unfold Qag;rw [hs];simp only;rw [if_pos h0]
    exact ⟨Rs.stop hst Yf hR.out (Nat.le_refl _) (Nat.le_refl _) (Nat.le_refl _),fun hh=>(by cases hh)⟩
 | succ f ih =>
  intro ρ h s g e p hR hfl
  cases g with
  |nil=>
   have:=QqF (P:=P) hq hR
   exact ⟨this.1,fun hh=> .inl (this.2 hh)⟩
  | cons g' r' =>
   have hgl:=hR.gl
   cases hs:s.goals with
   |nil=>rw [hs] at hgl;cases hgl
   |cons g rest=>
    rw [hs] at hgl
    obtain ⟨hg1,hg2⟩:QeA ρ g.1 g'.1∧g.2=h g'.2:=by cases hgl with|cons h1 _=>exact h1
    have hgl2:Al (GlR ρ h) rest r':=by cases hgl with|cons _ h2=>exact h2
    by_cases h0:s.fuel=0
    ·have hst:Qag P q s=(3,s):=by unfold Qag;rw [hs];simp only;rw [if_pos h0]
     have e1:Qn P q (f+1) (g'::r') e p=(-1,QfZ 3 p):=by rw [Qn,if_pos (by rw [←hR.fuel];exact h0)]
     rw [e1]
     exact ⟨Rs.stop hst Yf hR.out (Nat.le_refl _) (Nat.le_refl _) (Nat.le_refl _),fun hh=>(by cases hh)⟩
    have hp0:p.fuel≠0:=by rw [←hR.fuel];exact h0
    obtain ⟨ts,tl,tr⟩:=hg1.top
    obtain ⟨i1,i2,i3,i4,i5,i6,i7⟩:=Qdg hR.inv hs h0
    have hsok:=(Qhq (vars:=q) hR.inv hR.ev hp).1.go
    have hle:=hR.le
    have hht:=hR.ht g' (List.mem_cons_self ..)
    have hlow:∀a∈r',a.2≤g'.2:=(List.pairwise_cons.1 hR.srt).1
    have hmn:∀a∈r',h a.2≤h g'.2:=fun a ha=>hR.mono a (List.mem_cons_of_mem _ ha) g' (List.mem_cons_self ..) (hlow a ha)
    by_cases hb:Q1 g.1.s.toList g.1.ar.length=true
    ·have hb':Q1 g'.1.s.toList g'.1.ar.length=true:=by rw [←ts,←tl];exact hb
     have hst:Qag P q s=Qc2 g ⟨s.B,s.fresh,s.fuel-1,rest,s.ch,s.ev⟩:=by
      unfold Qag;rw [hs];simp only;rw [if_neg h0,if_pos hb]
     have e1:Qn P q (f+1) (g'::r') e p=Qcl (Qn P q f) g' r' e ⟨p.fuel-1,p.vars,p.calls,p.out,p.ended⟩:=by rw [Qn,if_neg hp0,if_pos hb']
     rw [e1]
     have hon:∀{s1:SS} {e':Bnd},Rl ρ h q s1 r' e' ⟨p.fuel-1,p.vars,p.calls,p.out,p.ended⟩→Qag P q s=(0,s1)→(∃N,s1.B=N++s.B)→s1.fresh=s.fresh→s1.ch=s.ch→
       Rs P q (Qch P q s) s.B s.fresh (Qm9 h s.ch (Qn P q f r' e' ⟨p.fuel-1,p.vars,p.calls,p.out,p.ended⟩).1) p (Qn P q f r' e' ⟨p.fuel-1,p.vars,p.calls,p.out,p.ended⟩).2∧((Qn P q f r' e' ⟨p.fuel-1,p.vars,p.calls,p.out,p.ended⟩).2.ended=false→(Qn P q f r' e' ⟨p.fuel-1,p.vars,p.calls,p.out,p.ended⟩).1= -1∨∃a∈g'::r',(Qn P q f r' e' ⟨p.fuel-1,p.vars,p.calls,p.out,p.ended⟩).1=(a.2:Nat)):=by
      intro s1 e' hR1 hs1 hN hfr hch
      obtain ⟨c1,c2⟩:=ih ρ h s1 r' e' _ hR1 (by simp only;omega)
      rw [hfr,hch] at c1
      refine ⟨c1.step (p:=p) (Nat.le_refl _) (Nat.le_refl _) (by simp only;omega) hN (fun L hL=>Qka hs1 hL),fun hh=> ?_⟩
      rcases c2 hh with c|⟨a,ha,c⟩
      ·exact .inl c
      ·exact .inr ⟨a,List.mem_cons_of_mem _ ha,c⟩
     have hplain:Qag P q s=(0,⟨s.B,s.fresh,s.fuel-1,rest,s.ch,s.ev⟩)→Rl ρ h q ⟨s.B,s.fresh,s.fuel-1,rest,s.ch,s.ev⟩ r' e ⟨p.fuel-1,p.vars,p.calls,p.out,p.ended⟩:=fun hs1=>by
      have hI:=hsok (by rw [hs1])
      rw [hs1] at hI
      exact hR.next hs h0 hR.bm hR.fb hR.fe (fun a ha=>Nat.le_trans (hmn a ha) hht.1) hI.1
     have hfail:Qag P q s=Q9 ⟨s.B,s.fresh,s.fuel-1,rest,s.ch,s.ev⟩→Rs P q (Qch P q s) s.B s.fresh (Qm9 h s.ch (-1)) p ⟨p.fuel-1,p.vars,p.calls,p.out,p.ended⟩:=fun hs1=>
      Rs.back (p:=p) (p1:=⟨p.fuel-1,p.vars,p.calls,p.out,p.ended⟩) (t:=⟨s.B,s.fresh,s.fuel-1,rest,s.ch,s.ev⟩) hs1 i1 (by simp only;rw [hR.fuel]) hR.out hR.ev ⟨[],rfl⟩ hle hR.ne (Nat.le_refl _) (Nat.le_refl _) (by simp only;omega) (Nat.le_refl _)
     have hequal:∀(a b a' b':Tm),tgd a→tgd b→QeA ρ a a'→QeA ρ b b'→Qag P q s=QbG a b ⟨s.B,s.fresh,s.fuel-1,rest,s.ch,s.ev⟩→
       Rs P q (Qch P q s) s.B s.fresh (Qm9 h s.ch (Qm5 (Qn P q f) r' e ⟨p.fuel-1,p.vars,p.calls,p.out,p.ended⟩ a' b').1) p (Qm5 (Qn P q f) r' e ⟨p.fuel-1,p.vars,p.calls,p.out,p.ended⟩ a' b').2∧((Qm5 (Qn P q f) r' e ⟨p.fuel-1,p.vars,p.calls,p.out,p.ended⟩ a' b').2.ended=false→(Qm5 (Qn P q f) r' e ⟨p.fuel-1,p.vars,p.calls,p.out,p.ended⟩ a' b').1= -1∨∃x∈g'::r',(Qm5 (Qn P q f) r' e ⟨p.fuel-1,p.vars,p.calls,p.out,p.ended⟩ a' b').1=(x.2:Nat)):=by
      intro a b a' b' ta tb ra rb hs1
      obtain ⟨u1,u2,u3,u4,u5⟩:=Qqy hR.bm hR.fb hR.fe hR.rho ra rb
      have hup:=(QeW 401 a b s.B 0 ta.small tb.small hR.inv.c.bok hR.inv.c.sm Ya).ext
      have hei:=Qea i1 i2 ta tb
      unfold QbG at hs1
      simp only at hs1
      unfold Qm5
      by_cases hw:400<(QbY a' b' e).w
      ·rw [if_pos hw]
       rw [if_pos (by rw [u2];exact hw)] at hs1
       exact ⟨Rs.stop hs1 Yf hR.out (Nat.le_refl _) (Nat.le_refl _) (by simp only;omega),fun hh=>(by cases hh)⟩
      rw [if_neg hw]
      rw [if_neg (by rw [u2];exact hw)] at hs1
      by_cases hok:(QbY a' b' e).ok=true
      ·rw [if_pos hok]
       rw [if_pos (by rw [u1];exact hok)] at hs1
       have hI:=hsok (by rw [hs1])
       rw [hs1] at hI
       exact hon (hR.next hs h0 u3 u4 u5 (fun a ha=>Nat.le_trans (hmn a ha) hht.1) hI.1) hs1 hup rfl rfl
      ·rw [if_neg hok]
       rw [if_neg (by rw [u1];exact hok)] at hs1
       exact ⟨Rs.back (p:=p) (p1:=⟨p.fuel-1,p.vars,p.calls,p.out,p.ended⟩) hs1 hei (by show s.fuel-1=p.fuel-1;rw [hR.fuel]) hR.out hR.ev hup hle hR.ne (Nat.le_refl _) (Nat.le_refl _) (by simp only;omega) (Nat.le_refl _),fun _=> .inl rfl⟩
     have hd:=Qax _ i6
     unfold Qcl
     unfold Qc2 at hst
     rw [←ts]
     unfold Q1 at hb
     by_cases k1:g.1.s.toList=[33]
     ·rw [if_pos k1] at hst ⊢
      have hI:=hsok (by rw [hst])
      rw [hst] at hI
      have hcl:(s.ch.drop (s.ch.length-g.2)).length=h g'.2:=by rw [List.length_drop,hg2];omega
      obtain ⟨c1,c2⟩:=ih ρ h _ r' e _ (hR.next (C:=s.ch.drop (s.ch.length-g.2)) hs h0 hR.bm hR.fb hR.fe (fun a ha=>by rw [hcl];exact hmn a ha) hI.1) (by simp only;omega)
      simp only at c1
      generalize Qn P q f r' e ⟨p.fuel-1,p.vars,p.calls,p.out,p.ended⟩=res at c1 c2⊢
      have c3:=c1.step (p:=p) (Nat.le_refl _) (Nat.le_refl _) (by simp only;omega) ⟨[],rfl⟩ (fun L hL=>Qka hst hL)
      cases hen:res.2.ended with
      |true=>
       split
       ·exact ⟨⟨c3.vm,c3.cm,c3.fm,c3.en,fun hh=>(by rw [hen] at hh;cases hh)⟩,fun hh=>(by rw [hen] at hh;cases hh)⟩
       ·exact ⟨⟨c3.vm,c3.cm,c3.fm,c3.en,fun hh=>(by have hh:res.2.ended=false:=hh;rw [hen] at hh;cases hh)⟩,fun hh=>(by have hh:res.2.ended=false:=hh;rw [hen] at hh;cases hh)⟩
      |false=>
       have hkey:∀k:Nat,k≤h g'.2→(s.ch.drop (s.ch.length-g.2)).drop ((s.ch.drop (s.ch.length-g.2)).length-k)=s.ch.drop (s.ch.length-k):=fun k hk=>by
        rw [hcl,List.drop_drop,hg2];congr 1;omega
       have hself:s.ch.drop (s.ch.length-g.2)=Qm9 h s.ch ((g'.2:Nat):Int):=by
        unfold Qm9;rw [if_neg Ya,hg2];rfl
       rcases c2 hen with c|⟨a,ha,c⟩
       ·rw [if_neg (by rw [c];omega)]
        refine ⟨?_,fun _=> .inr ⟨g',List.mem_cons_self ..,rfl⟩⟩
        have:Qm9 h (s.ch.drop (s.ch.length-g.2)) res.1=Qm9 h s.ch ((g'.2:Nat):Int):=by
         rw [←hself,c];unfold Qm9;rw [if_pos Yf]
        rw [this] at c3;exact c3
       ·have hal:=hlow a ha
        have hc4:Qm9 h (s.ch.drop (s.ch.length-g.2)) res.1=Qm9 h s.ch res.1:=by
         rw [c];unfold Qm9;rw [if_neg Ya,if_neg Ya]
         exact hkey _ (by rw [Int.toNat_natCast];exact hmn a ha)
        by_cases hlt:a.2<g'.2
        ·rw [if_pos ⟨by omega,by omega⟩]
         refine ⟨?_,fun _=> .inr ⟨a,List.mem_cons_of_mem _ ha,c⟩⟩
         rw [hc4] at c3;exact c3
        ·have heq:a.2=g'.2:=by omega
         rw [if_neg (by rw [c];omega)]
         refine ⟨?_,fun _=> .inr ⟨g',List.mem_cons_self ..,rfl⟩⟩
         rw [hc4,c,heq] at c3;exact c3
     rw [if_neg k1] at hst hb⊢
     by_cases k2:g.1.s.toList=[116,114,117,101]
     ·rw [if_pos k2] at hst⊢
      exact hon (hplain hst) hst ⟨[],rfl⟩ rfl rfl
     rw [if_neg k2] at hst hb⊢
     by_cases k3:g.1.s.toList=[102,97,105,108]
     ·rw [if_pos k3]
      rw [if_neg (by rw [k3];decide),if_neg (by rw [k3];decide),if_neg (by rw [k3];decide)] at hst
      exact ⟨hfail hst,fun _=> .inl rfl⟩
     rw [if_neg k3] at hb⊢
     by_cases k4:g.1.s.toList=[101,113]
     ·rw [if_pos k4] at hst hb⊢
      have hl:g.1.ar.length=2:=by simpa using hb
      exact hequal _ _ _ _ (hd _ (Ts.at_mem Ya)) (hd _ (Ts.at_mem Ya)) (tr.at_ Ya) (tr.at_ Ya) hst
     rw [if_neg k4] at hst hb⊢
     have hl2:2≤g.1.ar.length:=by
      split at hb
      ·have:g.1.ar.length=2:=by simpa using hb
       omega
      split at hb
      ·have:g.1.ar.length=3:=by simpa using hb
       omega
      ·cases hb
     have la:=Qok hR.bm (tr.at_ (i:=0) Ya)
     have lb:=Qok hR.bm (tr.at_ (i:=1) Ya)
     by_cases k5:g.1.s.toList=[108,101,115,115]
     ·rw [if_pos k5] at hst
      unfold QjZ at hst
      simp only at hst
      by_cases hkk:(Qc s.B (g.1.ar.at_ 0)).k≠2∨(Qc s.B (g.1.ar.at_ 1)).k≠2
      ·rw [if_pos hkk] at hst
       rw [if_pos (by rcases hkk with hk|hk<;>rcases la with la|la<;>rcases lb with lb|lb<;>omega)]
       exact ⟨Rs.stop hst Yf hR.out (Nat.le_refl _) (Nat.le_refl _) (by simp only;omega),fun hh=>(by cases hh)⟩
      ·rw [if_neg hkk] at hst
       have hna:¬g.1.s.toList=[97,100,100]:=by rw [k5];decide
       rw [if_neg (by rintro (hk|hk|hk);(rcases la with la|la<;>omega);(rcases lb with lb|lb<;>omega);exact hna hk.1),if_pos k5]
       have ea:(Qc s.B (g.1.ar.at_ 0)).n=(Qc e (g'.1.ar.at_ 0)).n:=by rcases la with la|la<;>omega
       have eb:(Qc s.B (g.1.ar.at_ 1)).n=(Qc e (g'.1.ar.at_ 1)).n:=by rcases lb with lb|lb<;>omega
       by_cases hlt:(Qc e (g'.1.ar.at_ 0)).n<(Qc e (g'.1.ar.at_ 1)).n
       ·rw [if_pos hlt]
        rw [if_neg Ya] at hst
        exact hon (hplain hst) hst ⟨[],rfl⟩ rfl rfl
       ·rw [if_neg hlt]
        rw [if_pos Ya] at hst
        exact ⟨hfail hst,fun _=> .inl rfl⟩
     ·rw [if_neg k5] at hst hb
      have k6:g.1.s.toList=[97,100,100]:=by
       by_cases k6:g.1.s.toList=[97,100,100]
       ·exact k6
       ·rw [if_neg k6] at hb;cases hb
      rw [if_pos k6] at hst hb
      have hl3:g.1.ar.length=3:=by simpa using hb
      unfold QvV at hst
      simp only at hst
      by_cases hkk:(Qc s.B (g.1.ar.at_ 0)).k≠2∨(Qc s.B (g.1.ar.at_ 1)).k≠2
      ·rw [if_pos hkk] at hst
       rw [if_pos (by rcases hkk with hk|hk<;>rcases la with la|la<;>rcases lb with lb|lb<;>omega)]
       exact ⟨Rs.stop hst Yf hR.out (Nat.le_refl _) (Nat.le_refl _) (by simp only;omega),fun hh=>(by cases hh)⟩
      rw [if_neg hkk] at hst
      have ea:(Qc s.B (g.1.ar.at_ 0)).n=(Qc e (g'.1.ar.at_ 0)).n:=by rcases la with la|la<;>omega
      have eb:(Qc s.B (g.1.ar.at_ 1)).n=(Qc e (g'.1.ar.at_ 1)).n:=by rcases lb with lb|lb<;>omega
      rw [ea,eb] at hst
      by_cases hrg:(Qc e (g'.1.ar.at_ 0)).n+(Qc e (g'.1.ar.at_ 1)).n< -1099511627776∨1099511627776<(Qc e (g'.1.ar.at_ 0)).n+(Qc e (g'.1.ar.at_ 1)).n
      ·rw [if_pos hrg] at hst
       rw [if_pos (.inr (.inr ⟨k6,hrg.symm⟩))]
       exact ⟨Rs.stop hst Yf hR.out (Nat.le_refl _) (Nat.le_refl _) (by simp only;omega),fun hh=>(by cases hh)⟩
      ·rw [if_neg hrg] at hst
       rw [if_neg (by rintro (hk|hk|hk);(rcases la with la|la<;>omega);(rcases lb with lb|lb<;>omega);exact hrg hk.2.symm),if_neg k5]
       refine hequal _ _ _ _ (hd _ (Ts.at_mem Ya)) ?_ (tr.at_ Ya) (.node (show (2:Int)≠0 by decide) .nil .nil) hst
       refine ⟨?_,by simp [Ts.nodes]⟩
       simp only [Ts.good,Bool.and_eq_true,and_true]
       unfold QaH
       rw [if_neg Yf,if_neg Yf,if_pos rfl]
       simp only [Bool.and_eq_true,decide_eq_true_eq]
       exact ⟨⟨⟨by omega,by omega⟩,Qap []⟩,rfl⟩
    ·have hb':¬Q1 g'.1.s.toList g'.1.ar.length=true:=by rw [←ts,←tl];exact hb
     have hfit:QcV g'.1=QcV g.1:=by funext c;unfold QcV;rw [ts,tl]
     cases hfl2:P.filter (QcV g.1) with
     |nil=>
      have hst:Qag P q s=(5,⟨s.B,s.fresh,s.fuel-1,rest,s.ch,s.ev⟩):=by
       unfold Qag;rw [hs];simp only;rw [if_neg h0,if_neg hb,hfl2]
      have e1:Qn P q (f+1) (g'::r') e p=(-1,QfZ 5 ⟨p.fuel-1,p.vars,p.calls,p.out,p.ended⟩):=by rw [Qn,if_neg hp0,if_neg hb',hfit,hfl2]
      rw [e1]
      exact ⟨Rs.stop hst Yf hR.out (Nat.le_refl _) (Nat.le_refl _) (by simp only;omega),fun hh=>(by cases hh)⟩
     |cons c cs=>
      have hst:Qag P q s=Q9 ⟨s.B,s.fresh,s.fuel-1,rest,⟨g,rest,c::cs,s.B.length⟩::s.ch,s.ev⟩:=by
       unfold Qag;rw [hs];simp only;rw [if_neg h0,if_neg hb,hfl2]
      have e1:Qn P q (f+1) (g'::r') e p=Qgx (Qn P q f) g' r' e (p.calls+1) (c::cs) ⟨p.fuel-1,p.vars,p.calls+1,p.out,p.ended⟩:=by rw [Qn,if_neg hp0,if_neg hb',hfit,hfl2]
      rw [e1]
      have hmemP:∀x∈c::cs,x∈P:=fun x hx=>(List.mem_filter.1 (show x∈P.filter (QcV g.1) by rw [hfl2];exact hx)).1
      have hlenP:(c::cs).length≤24:=by
       have:=List.length_filter_le (QcV g.1) P
       rw [hfl2] at this;omega
      have hpush:=(QgH hR.inv hs h0 (fun x hx=>hp2.2 x (hmemP x hx)) hlenP).1
      obtain ⟨c1,c2⟩:=Qye ih (C:=s.ch) (call:=p.calls+1) hR.bm hg1 hgl2 (List.pairwise_cons.1 hR.srt).2 (fun a ha b hb=>hR.mono a (List.mem_cons_of_mem _ ha) b (List.mem_cons_of_mem _ hb))
       (fun a ha=>⟨Nat.le_trans (hmn a ha) hht.1,by have:=(hR.ht a (List.mem_cons_of_mem _ ha)).2;omega⟩) hR.qv (c::cs) _ ⟨p.fuel-1,p.vars,p.calls+1,p.out,p.ended⟩ hpush rfl ⟨[],rfl⟩ (by simp only;rw [hR.fuel]) hR.out hR.ev hR.ne hle hR.fb hR.fe hR.rho (Nat.le_refl _) (by simp only;omega) (fun x hx=>hp2.2 x (hmemP x hx))
      refine ⟨c1.step (p:=p) (Nat.le_refl _) (by simp only;omega) (by simp only;omega) ⟨[],rfl⟩ (fun L hL=>QhF hst hL),fun hh=> ?_⟩
      rcases c2 hh with c|⟨a,ha,c⟩
      ·exact .inl c
      ·exact .inr ⟨a,List.mem_cons_of_mem _ ha,c⟩
end
theorem Qxu {P:List Cl} {q:Nat} (hp:pB P=true):∀(n:Nat) (s:SS),Inv s→s.ev.length<12→mu s<n→Qlh P q n s≠[]
 |0,s,_,_,h=>by omega
 |n+1,s,hI,hev,hm=>by
  obtain ⟨h1,h2⟩:=Qhq (vars:=q) hI hev hp
  simp only [Qlh]
  by_cases h0:(Qag P q s).1=0
  ·rw [if_pos h0]
   exact Qxu hp n _ (h1.go h0).1 (h2 h0) (by have:=(h1.go h0).2;omega)
  ·rw [if_neg h0];simp
theorem QqP {P:List Cl} {q:Nat}:∀(n m:Nat) (s:SS),Qlh P q n s≠[]→Qlh P q m s≠[]→Qlh P q n s=Qlh P q m s
 |0,_,_,h,_=>absurd rfl h
 |_,0,_,_,h=>absurd rfl h
 |n+1,m+1,s,hn,hm=>by
  simp only [Qlh] at hn hm⊢
  by_cases h0:(Qag P q s).1=0
  ·rw [if_pos h0] at hn hm⊢
   rw [if_pos h0]
   exact QqP n m _ hn hm
  ·rw [if_neg h0,if_neg h0]
theorem Bm.start (V:Int):Bm Qgp Qdl (QeA (QrV (fun _ _=>False) 0 0 V)) [] []:=by
 have hl:∀t:Tm,Qc [] t=t:=fun t=>rfl
 refine ⟨trivial,trivial,fun _=>trivial,fun _=>trivial,fun {x y} hr=> ?_,?_⟩
 ·show VwR _ (tvw x) (tvw y)
  by_cases hk:x.k=0
  ·rcases hr.cases with ⟨a,b,_⟩|h
   ·unfold tvw;rw [if_pos a,if_pos b];trivial
   ·exact absurd hk h.1
  ·exact hr.node_vw hk
 ·intro x y x' y' u u' v v' hr hr' e1 e2 e3 e4
  have key:∀{x y:Tm} {u v:Int},QeA (QrV (fun _ _=>False) 0 0 V) x y→Qbg [] x= .var u→Qbg [] y= .var v→u=v:=by
   intro x y u v hr e1 e3
   obtain ⟨a1,a2⟩:=Qao.1 e1
   obtain ⟨b1,b2⟩:=Qao.1 e3
   rw [hl] at a1 a2
   rw [hl] at b1 b2
   rcases hr.cases with ⟨_,_,hv,_⟩|h
   ·rcases hv with hv|⟨i,_,_,h1,h2⟩
    ·exact hv.elim
    ·omega
   ·exact absurd a1 h.1
  have k1:=key hr e1 e3
  have k2:=key hr' e2 e4
  omega
theorem QtP (P:List Cl) (q:Ts) (vars fuel:Int):Qjj P q vars fuel=QdU P q vars fuel:=by
 unfold Qjj QdU
 by_cases h1:pB P=false∨qB vars q=false
 ·rw [if_pos h1,if_pos h1]
 rw [if_neg h1,if_neg h1]
 by_cases h2:fuel<0∨150<fuel
 ·rw [if_pos h2,if_pos h2]
 rw [if_neg h2,if_neg h2]
 have hp:pB P=true:=by cases hh:pB P with|true=>rfl|false=>exact absurd (.inl hh) h1
 have hq:qB vars q=true:=by cases hh:qB vars q with|true=>rfl|false=>exact absurd (.inr hh) h1
 have hq':=hq
 simp only [qB,Bool.and_eq_true,decide_eq_true_eq] at hq'
 obtain ⟨⟨⟨v0,v1⟩,v2⟩,v3⟩:=hq'
 obtain ⟨v,rfl⟩:∃v:Nat,vars=(v:Nat):=⟨vars.toNat,by omega⟩
 obtain ⟨f,rfl⟩:∃f:Nat,fuel=(f:Nat):=⟨fuel.toNat,by omega⟩
 simp only [Int.toNat_natCast]
 have hq8:v≤8:=by omega
 obtain ⟨hI,hmu⟩:=QgB hq (show f≤150 by omega)
 have hne:=Qxu (q:=v) hp 4000 (Qbx q v f) hI (by simp [Qbx]) Ya
 have hgoes:∀L,Qch P v (Qbx q v f) L→L=Qlh P v 4000 (Qbx q v f):=fun L ⟨n,e1,e2⟩=>by
  rw [←e1];exact QqP n 4000 _ (by rw [e1];exact e2) hne
 have hmem:∀a∈QaX q 0 0 [],a.2=0:=fun a ha=>by
  rcases QdE q ha with e|e
  ·exact e
  ·cases e
 have hgl:Al (GlR (QrV (fun _ _=>False) 0 0 (v:Nat)) (fun _=>0)) (QeL q 0 0 []) (QaX q 0 0 []):=QmT Ya Ya Ya Ya v1 rfl .nil q v3
 have hRl:Rl (QrV (fun _ _=>False) 0 0 (v:Nat)) (fun _=>0) v (Qbx q v f) (QaX q 0 0 []) [] ⟨f,v,0,[],false⟩:=by
  refine ⟨rfl,rfl,by simp [Qbx],rfl,Bm.start _,fun x hx=>(by cases hx),fun x hx=>(by cases hx),?_,Nat.le_refl _,fun x hx=> .inr ⟨x,by omega,by omega,by omega,by omega⟩,hgl,QmS .nil (fun a ha=>(by cases ha)) q,fun _ _ _ _ _=>Nat.le_refl _,fun a ha=>⟨Nat.zero_le _,by rw [hmem a ha];exact Nat.le_refl _⟩,hI⟩
  rintro u w (hh|⟨i,i0,i1,rfl,rfl⟩)
  ·exact hh.elim
  ·show i+0<((v:Nat):Int)∧i+0<((v:Nat):Int);omega
 obtain ⟨hRs,hm⟩:=Que hp hq8 f _ _ _ _ _ _ hRl (Nat.le_refl _)
 generalize Qn P v f (QaX q 0 0 []) [] ⟨f,v,0,[],false⟩=r at hRs hm⊢
 cases hen:r.2.ended with
 |true=>
  rw [if_pos rfl,hgoes _ (hRs.en hen)]
 |false=>
  rw [if_neg Yf]
  obtain ⟨t,b1,b2,b3,b4,b5,b6,b7,b8,b9⟩:=hRs.go hen
  have hch:t.ch=[]:=by
   rw [b2];unfold Qm9
   split
   ·rfl
   ·simp [Qbx]
  have ha:Q9 t=(2,t):=by
   unfold Q9 QaN
   rw [hch]
  have hr:QkO P v t (Qdc t.ev++[(2,.nil)]):= .inr ⟨by rw [ha];show (2:Int)≠0;decide,by rw [ha]⟩
  rw [b4,hgoes _ (b9 _ hr)]
end Go.Proofs.YthliapbflkfdiacGreatDoor
namespace Go.Proofs.YthliapbflkfdiacGreatDoor.R
open Go.RowKit
set_option maxRecDepth 100000
end Go.Proofs.YthliapbflkfdiacGreatDoor.R
namespace Go.Proofs.YthliapbflkfdiacGreatDoor
set_option linter.unusedVariables false
set_option linter.unusedSimpArgs false
set_option maxHeartbeats 1000000
theorem QyX (p:List Cl) (q:Ts) (vars fuel:Int):(QdU p q vars fuel).1.length≤1000∧∀x∈(QdU p q vars fuel).1,x.2.nodes≤1073741824:=by
 by_cases h:(QdU p q vars fuel).2=0
 ·obtain ⟨l,k,h1⟩:=QhW h
  rw [h1.eq]
  have h6:=h1.six.2
  refine ⟨by simp [Qdc];omega,fun x hx=> ?_⟩
  rcases List.mem_append.1 hx with hx|hx
  ·obtain ⟨T,hT,rfl⟩:=List.mem_map.1 hx
   have:=(h1.ans T hT).2.1
   show T.nodes≤_;omega
  ·rw [List.mem_singleton.1 hx];simp [Ts.nodes]
 ·rw [Qqh h]
  exact ⟨by simp,fun x hx=>by cases hx⟩
theorem QjM {l:List Value} {v:Value}:∀{i:Nat},i<l.length→Put l i v (l.set i v):=by
 induction l with
 |nil=>intro i h;simp at h
 |cons u l ih=>
  intro i h
  cases i with
  |zero=>exact .z
  |succ i=>exact .s (ih (by simpa using h))
theorem Qjl (c:HC) (r:List HC) (i:Nat) (x:Int):QfJ (c::r) (i+1) x=c::QfJ r i x:=by simp [QfJ]
theorem Qjk (c:HC) (r:List HC) (x:Int):QfJ (c::r) 0 x=⟨c.k,x,c.s⟩::r:=by simp [QfJ]
theorem QqN (i:Nat) (x:Int):QfJ [] i x=[]:=by simp [QfJ]
theorem Qcr (L:List HC) (i:Nat) (x:Int):(QfJ L i x).length=L.length:=by simp [QfJ]
theorem Qrr:∀(L:List HC) (i:Nat) (x:Int),(Qav L).set (i*3+1) (.int .i64 x)=Qav (QfJ L i x)
 |[],i,x=>by simp [QqN,Qav]
 |c::r,0,x=>by rw [Qjk];rfl
 |c::r,i+1,x=>by
  rw [Qjl,show (i+1)*3+1=(i*3+1)+3 by omega]
  show _::_::_::(Qav r).set (i*3+1) _=_
  rw [Qrr r i x];rfl
theorem QmI (L:List HC) (sp:List Value) (i:Nat) (x:Int) (hi:i<L.length):Put (Qav L++sp) (i*3+1) (.int .i64 x) (Qav (QfJ L i x)++sp):=by
 have hl:=Qaz L
 have:=QjM (l:=Qav L++sp) (v:= .int .i64 x) (i:=i*3+1) Yg
 rwa [List.set_append_left _ _ Ya,Qrr] at this
theorem Qwu (P:List HC) (x:HC) (R:List HC) (v:Int):QfJ (P++x::R) P.length v=P++⟨x.k,v,x.s⟩::R:=by
 induction P with
 |nil=>exact Qjk _ _ _
 |cons p P ih=>rw [List.cons_append,List.length_cons,Qjl,ih];rfl
theorem QiD (L:List HC) (i j:Nat) (x:Int):(QfJ L i x)[j]?=if i=j then (L[j]?).map (fun c=>⟨c.k,x,c.s⟩) else L[j]?:=by
 simp only [QfJ,List.getElem?_modify]
 by_cases h:i=j
 ·simp [h]
 ·simp [h]
theorem QbP {L:List HC} {a:Int} {c:HC}:hat L a=some c↔0≤a∧a<L.length∧L[a.toNat]?=some c:=by
 unfold hat
 constructor
 ·intro h
  split at h
  ·rename_i h0
   refine ⟨h0,?_,h⟩
   rcases Nat.lt_or_ge a.toNat L.length with hl|hl
   ·omega
   ·rw [List.getElem?_eq_none hl] at h;cases h
  ·cases h
 ·rintro ⟨h0,h1,h2⟩;rw [if_pos h0];exact h2
theorem QxI {L:List HC} {a:Int} (h0:0≤a) (h1:a<L.length):∃c,hat L a=some c:=⟨L[a.toNat]'Ya,QbP.2 ⟨h0,h1,List.getElem?_eq_getElem _⟩⟩
theorem Qox {n:Nat}:∀{L:List HC} {i:Nat} {c:HC},Q2 n L=true→L[i]?=some c→Qau n c (L.length-i-1)=true
 |[],i,c,_,h=>by simp at h
 |x::r,0,c,hg,h=>by
  obtain rfl:x=c:=by simpa using h
  simp only [Q2,Bool.and_eq_true] at hg
  simpa using hg.1
 |x::r,i+1,c,hg,h=>by
  simp only [Q2,Bool.and_eq_true] at hg
  have:=Qox (i:=i) (c:=c) hg.2 (by simpa using h)
  rw [List.length_cons,show r.length+1-(i+1)-1=r.length-i-1 by omega];exact this
theorem Q4 {n f:Nat} {c:HC} (h:Qau n c f=true):(c.k=0∧0≤c.n∧c.n<n∧c.s=eS)∨(c.k=1∧c.n=0∧c.s≠eS)∨(c.k=2∧c.s=eS)∨(c.k=3∧1≤c.n∧c.n≤4∧c.n≤f∧c.s≠eS):=by
 unfold Qau at h
 split at h
 ·simp only [Bool.and_eq_true,decide_eq_true_eq] at h;exact .inl ⟨‹_›,h.1,h.2.1,h.2.2⟩
 ·split at h
  ·simp only [Bool.and_eq_true,decide_eq_true_eq,Bool.not_eq_true',decide_eq_false_iff_not] at h;exact .inr (.inl ⟨‹_›,h.1,h.2⟩)
  ·split at h
   ·simp only [decide_eq_true_eq] at h;exact .inr (.inr (.inl ⟨‹_›,h⟩))
   ·split at h
    ·simp only [Bool.and_eq_true,decide_eq_true_eq,Bool.not_eq_true',decide_eq_false_iff_not] at h;exact .inr (.inr (.inr ⟨‹_›,h.1,h.2.1,h.2.2.1,h.2.2.2⟩))
    ·cases h
theorem QaM {n:Nat} {L:List HC} {a:Int} {c:HC} (hg:Q2 n L=true) (h:hat L a=some c):Qau n c (L.length-a.toNat-1)=true:=Qox hg (QbP.1 h).2.2
theorem Qj6 {n:Nat} {L:List HC} {a:Int} (hg:Q2 n L=true):QaZ L a≤4∧(QaZ L a=0∨(0≤a∧a+QaZ L a<L.length)):=by
 unfold QaZ
 cases h:hat L a with
 |none=>exact ⟨by simp,.inl rfl⟩
 |some c=>
  obtain ⟨h0,h1,_⟩:=QbP.1 h
  have hc:=Q4 (QaM hg h)
  simp only [QU]
  split
  ·rcases hc with hc|hc|hc|hc
   ·omega
   ·omega
   ·omega
   ·refine ⟨by omega,.inr ⟨h0,?_⟩⟩
    omega
  ·exact ⟨by simp,.inl rfl⟩
theorem QiP {n:Nat} {L:List HC} {a:Int} {c:HC} (hg:Q2 n L=true) (h:hat L a=some c) (hk:c.k=0):0≤c.n∧c.n<n:=by
 rcases Q4 (QaM hg h) with hc|hc|hc|hc<;>omega
theorem QgD {n:Nat} {x:Int} (h0:0≤x) (h1:x<n):∀{L:List HC} {i:Nat},Q2 n L=true→(∀c,L[i]?=some c→c.k=0)→Q2 n (QfJ L i x)=true
 |[],i,hg,_=>by rw [QqN];rfl
 |y::r,0,hg,hk=>by
  rw [Qjk]
  simp only [Q2,Bool.and_eq_true] at hg⊢
  refine ⟨?_,hg.2⟩
  have hk0:=hk y Yd
  have:=hg.1
  unfold Qau at this⊢
  simp only [hk0,if_true] at this⊢
  simp only [Bool.and_eq_true,decide_eq_true_eq] at this⊢
  exact ⟨h0,h1,this.2.2⟩
 |y::r,i+1,hg,hk=>by
  rw [Qjl]
  simp only [Q2,Bool.and_eq_true] at hg⊢
  rw [Qcr]
  exact ⟨hg.1,QgD h0 h1 hg.2 fun c hc=>hk c (by simpa using hc)⟩
theorem Qd7 {L:List HC}:∀(f:Nat) (a:Int),Qbi L f a= -1∨∃c,hat L (Qbi L f a)=some c∧(c.k=0→c.n=Qbi L f a)
 |0,a=> .inl rfl
 |f+1,a=>by
  cases h:hat L a with
  |none=>left;simp only [Qbi,h]
  |some c=>
   by_cases hb:c.k=0∧c.n≠a
   ·simp only [Qbi,h,if_pos hb];exact Qd7 f c.n
   ·right
    simp only [Qbi,h,if_neg hb]
    exact ⟨c,rfl,fun hk=>Classical.byContradiction fun hn=>hb ⟨hk,hn⟩⟩
theorem Qd6 {L:List HC} {a:Int} (h:¬Qw L a<0):∃c,hat L (Qw L a)=some c∧(c.k=0→c.n=Qw L a):=by
 rcases Qd7 (L:=L) L.length a with h1|h1
 ·exact absurd (show Qw L a<0 by unfold Qw;rw [h1];decide) h
 ·exact h1
structure GU (n:Nat) (u:HU):Prop where
 len:u.cs.length=n
 good:Q2 n u.cs=true
 wk:u.lg=false→u.w≤400
 trl:u.tr.length≤65536+u.w
theorem GU.step {n:Nat} {u:HU} (h:GU n u):GU n u.step:=by
 refine ⟨h.len,h.good,fun hl=> ?_,?_⟩
 ·simp only [HU.step,Bool.or_eq_false_iff,decide_eq_false_iff_not] at hl⊢;omega
 ·have:=h.trl;simp only [HU.step];omega
theorem GU.look {n:Nat} {u:HU} (h:GU n u) (a:Int):GU n (u.look a).2:=by
 unfold HU.look
 split
 ·exact h
 ·rename_i hl;exact ⟨h.len,h.good,fun _=>h.wk (by simpa using hl),h.trl⟩
theorem QeG (u:HU) (a:Int):(u.look a).2.w=u.w∧(u.look a).2.cs=u.cs∧(u.look a).2.tr=u.tr:=by
 unfold HU.look
 split<;>exact ⟨rfl,rfl,rfl⟩
theorem QdM {u:HU} {a:Int} (h:(u.look a).2.lg=false):u.lg=false∧(u.look a).1=Qw u.cs a∧¬Qw u.cs a<0:=by
 unfold HU.look at h⊢
 split at h
 ·rename_i hl;rw [hl] at h;cases h
 ·rename_i hl
  rw [if_neg hl]
  exact ⟨by simpa using hl,rfl,by simpa using h⟩
theorem GU.bind {n:Nat} {u:HU} (h:GU n u) {a x:Int} {c:HC} (ha:hat u.cs a=some c) (hk:c.k=0) (h0:0≤x) (h1:x<n) (ht:u.tr.length<65536+u.w):GU n (u.bind a x):=by
 refine ⟨by simp only [HU.bind];rw [Qcr];exact h.len,?_,h.wk,by simp only [HU.bind,List.length_append,List.length_cons,List.length_nil];omega⟩
 refine QgD h0 h1 h.good fun c' hc'=> ?_
 rw [(QbP.1 ha).2.2] at hc'
 obtain rfl:=Option.some.inj hc'
 exact hk
structure OU (n f:Nat) (u v:HU):Prop where
 cs:v.cs=u.cs
 tr:v.tr=u.tr
 lt:u.w<v.w
 le:v.w≤max (u.w+1) (401+4*f)
 wk:v.lg=false→v.w≤400
 lg:u.lg=true→v.lg=true
theorem QxT {n f:Nat} {g:Int→HU→Bool×HU} {cs:List HC} (hg:∀x u,u.cs=cs→(u.lg=false→u.w≤400)→OU n f u (g x u).2):
  ∀(m:Nat) (x:Int) (u:HU),u.cs=cs→(u.lg=false→u.w≤400)→(QmY g m x u).2.cs=u.cs∧(QmY g m x u).2.tr=u.tr∧u.w≤(QmY g m x u).2.w∧(QmY g m x u).2.w≤max (u.w+m) (401+4*f+m)∧((QmY g m x u).2.lg=false→(QmY g m x u).2.w≤400)∧(u.lg=true→(QmY g m x u).2.lg=true)
 |0,x,u,hcs,hu=>⟨rfl,rfl,Nat.le_refl _,by simp only [QmY];omega,hu,fun h=>h⟩
 |m+1,x,u,hcs,hu=>by
  have h1:=hg x u hcs hu
  simp only [QmY]
  split
  ·exact ⟨h1.cs,h1.tr,Nat.le_of_lt h1.lt,by have:=h1.le;omega,h1.wk,h1.lg⟩
  ·obtain ⟨a1,a2,a3,a4,a5,a6⟩:=QxT hg m (x+1) (g x u).2 (h1.cs.trans hcs) h1.wk
   refine ⟨a1.trans h1.cs,a2.trans h1.tr,Nat.le_trans (Nat.le_of_lt h1.lt) a3,?_,a5,fun h=>a6 (h1.lg h)⟩
   have:=h1.le
   omega
theorem Qn1 {n:Nat} (a:Int):∀(f:Nat) (b:Int) (u:HU),Q2 n u.cs=true→(u.lg=false→u.w≤400)→OU n f u (Qdw a f b u).2
 |f,b,u,hgd,hu=>by
  have hs:OU n f u (u.step.look b).2:=by
   have hw:=QeG u.step b
   refine ⟨hw.2.1,hw.2.2,?_,?_,fun h=> ?_,fun h=> ?_⟩
   ·rw [hw.1];exact Nat.lt_succ_self _
   ·rw [hw.1];show u.w+1≤_;omega
   ·rw [hw.1]
    have:=(QdM h).1
    simp only [HU.step,Bool.or_eq_false_iff,decide_eq_false_iff_not] at this
    show u.w+1≤400
    omega
   ·cases hq:(u.step.look b).2.lg with
    |true=>rfl
    |false=>
     have:=(QdM hq).1
     simp only [HU.step,Bool.or_eq_false_iff] at this
     rw [h] at this;cases this.1
  cases f with
  |zero=>exact hs
  |succ f=>
   simp only [Qdw]
   split
   ·exact hs
   ·split
    ·exact hs
    ·rename_i hl _
     have hl':(u.step.look b).2.lg=false:=by simpa using hl
     have hcs0:(u.step.look b).2.cs=u.cs:=(QeG u.step b).2.1
     have hA:=(Qj6 (a:=(u.step.look b).1) hgd).1
     obtain ⟨a1,a2,a3,a4,a5,a6⟩:=QxT (n:=n) (f:=f) (g:=Qdw a f) (cs:=u.cs) (fun x v hv hw=>Qn1 a f x v (by rw [hv];exact hgd) hw) (QaZ u.cs (u.step.look b).1) ((u.step.look b).1+1) (u.step.look b).2 hcs0 hs.wk
     refine ⟨a1.trans hs.cs,a2.trans hs.tr,Nat.lt_of_lt_of_le hs.lt a3,?_,a5,fun h=>a6 (hs.lg h)⟩
     have hwl:=hs.wk hl'
     omega
structure UU (n:Nat) (u:HU) (r:Bool×HU):Prop where
 gu:GU n r.2
 lt:u.w<r.2.w
 le:r.2.w≤3000
 ok:r.1=true→r.2.lg=false
 ext:u.tr.length+r.2.w≤r.2.tr.length+r.2.w∧r.2.tr.length≤u.tr.length+(r.2.w-u.w)
theorem QxN {n:Nat} {u:HU} (h:GU n u) (hl:u.lg=false) {a b:Int} {c:HC} (ha:hat u.cs a=some c) (hk:c.k=0) (h0:0≤b) (h1:b<n):UU n u (Qqf a b u):=by
 have ho:=Qn1 (n:=n) a 401 b u h.good h.wk
 have hw:=h.wk hl
 have hle:=ho.le
 have hlt:=ho.lt
 have ht:=h.trl
 have hgu:GU n (Qdw a 401 b u).2:=⟨by rw [ho.cs];exact h.len,by rw [ho.cs];exact h.good,ho.wk,by rw [ho.tr];omega⟩
 unfold Qqf
 split
 ·exact ⟨hgu,hlt,(by show (Qdw a 401 b u).2.w≤3000;omega),fun h=>(by cases h),(by dsimp only;rw [ho.tr];constructor<;>omega)⟩
 ·rename_i hn
  have hlg:(Qdw a 401 b u).2.lg=false:=by
   cases hq:(Qdw a 401 b u).2.lg with
   |false=>rfl
   |true=>exact absurd (.inr hq) hn
  refine ⟨hgu.bind (by rw [ho.cs];exact ha) hk h0 h1 (by rw [ho.tr];omega),hlt,by show (Qdw a 401 b u).2.w≤3000;omega,fun _=>hlg,?_⟩
  show u.tr.length+(Qdw a 401 b u).2.w≤((Qdw a 401 b u).2.tr++[a]).length+(Qdw a 401 b u).2.w∧((Qdw a 401 b u).2.tr++[a]).length≤u.tr.length+((Qdw a 401 b u).2.w-u.w)
  rw [ho.tr]
  simp only [List.length_append,List.length_cons,List.length_nil]
  omega
theorem QxV {n:Nat} {g:Int→Int→HU→Bool×HU} (hg:∀x y u,GU n u→u.lg=false→UU n u (g x y u)):
  ∀(m:Nat) (x y:Int) (u:HU),GU n u→u.lg=false→GU n (Qkv g m x y u).2∧u.w≤(Qkv g m x y u).2.w∧(Qkv g m x y u).2.w≤3000∧((Qkv g m x y u).1=true→(Qkv g m x y u).2.lg=false)∧u.tr.length≤(Qkv g m x y u).2.tr.length∧(Qkv g m x y u).2.tr.length≤u.tr.length+((Qkv g m x y u).2.w-u.w)
 |0,x,y,u,h,hl=>⟨h,Nat.le_refl _,by have:=h.wk hl;simp only [Qkv];omega,fun _=>hl,Nat.le_refl _,by simp only [Qkv];omega⟩
 |m+1,x,y,u,h,hl=>by
  have h1:=hg x y u h hl
  have hx:=h1.ext
  simp only [Qkv]
  split
  ·rename_i hok
   obtain ⟨a1,a2,a3,a4,a5,a6⟩:=QxV hg m (x+1) (y+1) (g x y u).2 h1.gu (h1.ok hok)
   have:=h1.lt
   exact ⟨a1,by omega,a3,a4,by omega,by omega⟩
  ·exact ⟨h1.gu,Nat.le_of_lt h1.lt,h1.le,h1.ok,by omega,by omega⟩
theorem Qnl {n : Nat} : ∀ (f : Nat) (a b : Int) (u : HU), GU n u → u.lg = false → UU n u (Qdz f a b u)
 | f, a, b, u, h, hl => by
  have hw0:=h.wk hl
  have hwa:=QeG u.step a
  have hwb:=QeG (u.step.look a).2 b
  have hg2:GU n ((u.step.look a).2.look b).2:=(h.step.look a).look b
  have hw2:((u.step.look a).2.look b).2.w=u.w+1:=by rw [hwb.1,hwa.1];rfl
  have hcs2:((u.step.look a).2.look b).2.cs=u.cs:=by rw [hwb.2.1,hwa.2.1];rfl
  have htr2:((u.step.look a).2.look b).2.tr=u.tr:=by rw [hwb.2.2,hwa.2.2];rfl
  have hfail:UU n u (false,((u.step.look a).2.look b).2):=⟨hg2,(by show u.w<((u.step.look a).2.look b).2.w;rw [hw2];omega),(by show ((u.step.look a).2.look b).2.w≤3000;rw [hw2];omega),fun h=>(by cases h),(by dsimp only;rw [htr2,hw2];constructor<;>omega)⟩
  cases f with
  |zero=>exact hfail
  |succ f=>
   simp only [Qdz]
   split
   ·exact hfail
   rename_i hl2
   have hl2':((u.step.look a).2.look b).2.lg=false:=by simpa using hl2
   obtain ⟨hla,hb1,hb2⟩:=QdM hl2'
   obtain ⟨_,ha1,ha2⟩:=QdM hla
   rw [hwa.2.1] at hb1 hb2
   obtain ⟨x,hx,hxe⟩:=Qd6 ha2
   obtain ⟨y,hy,hye⟩:=Qd6 hb2
   rw [←ha1] at hx hxe
   rw [←hb1] at hy hye
   replace hx:hat u.cs (u.step.look a).1=some x:=hx
   replace hy:hat u.cs ((u.step.look a).2.look b).1=some y:=hy
   obtain ⟨x0,x1,_⟩:=QbP.1 hx
   obtain ⟨y0,y1,_⟩:=QbP.1 hy
   rw [h.len] at x1 y1
   have hkx:QbE u.cs (u.step.look a).1=x.k:=by unfold QbE;rw [hx]
   have hky:QbE u.cs ((u.step.look a).2.look b).1=y.k:=by unfold QbE;rw [hy]
   rw [hkx,hky]
   have hstep:∀{r:Bool×HU},UU n ((u.step.look a).2.look b).2 r→UU n u r:=fun {r} hr=>by
    have h1:=hr.lt
    have h2:=hr.ext
    rw [hw2] at h1 h2
    rw [htr2] at h2
    exact ⟨hr.gu,by omega,hr.le,hr.ok,by omega,by omega⟩
   split
   ·rename_i hk0
    split
    ·rename_i hk1
     split
     ·exact ⟨hg2,by show u.w<((u.step.look a).2.look b).2.w;rw [hw2];omega,by show ((u.step.look a).2.look b).2.w≤3000;rw [hw2];omega,fun _=>hl2',by dsimp only;rw [htr2,hw2];constructor<;>omega⟩
     ·have ht:=h.trl
      have hbd:GU n (((u.step.look a).2.look b).2.bind (max (u.step.look a).1 ((u.step.look a).2.look b).1) (min (u.step.look a).1 ((u.step.look a).2.look b).1)):=by
       rcases Int.le_total (u.step.look a).1 ((u.step.look a).2.look b).1 with hle|hle
       ·rw [Int.max_eq_right hle,Int.min_eq_left hle]
        exact hg2.bind (by rw [hcs2];exact hy) hk1 x0 x1 (by rw [htr2,hw2];omega)
       ·rw [Int.max_eq_left hle,Int.min_eq_right hle]
        exact hg2.bind (by rw [hcs2];exact hx) hk0 y0 y1 (by rw [htr2,hw2];omega)
      refine ⟨hbd,by show u.w<((u.step.look a).2.look b).2.w;rw [hw2];omega,by show ((u.step.look a).2.look b).2.w≤3000;rw [hw2];omega,fun _=>hl2',?_⟩
      simp only [HU.bind,List.length_append,List.length_cons,List.length_nil]
      rw [htr2,hw2]
      constructor<;>omega
    ·exact hstep (QxN hg2 hl2' (by rw [hcs2];exact hx) hk0 y0 y1)
   ·split
    ·rename_i hk1
     exact hstep (QxN hg2 hl2' (by rw [hcs2];exact hy) hk1 x0 x1)
    ·unfold QeE
     split
     ·obtain ⟨a1,a2,a3,a4,a5,a6⟩:=QxV (fun x y v hv hlv=>Qnl f x y v hv hlv) (QaZ ((u.step.look a).2.look b).2.cs (u.step.look a).1) ((u.step.look a).1+1) (((u.step.look a).2.look b).1+1) _ hg2 hl2'
      rw [hw2] at a2 a6
      rw [htr2] at a5 a6
      exact ⟨a1,by omega,a3,a4,by omega,by omega⟩
     ·exact hfail
inductive Qdv (L:List HC):Nat→Int→Int→Prop
 |here {a:Int} {c:HC}:hat L a=some c→¬(c.k=0∧c.n≠a)→Qdv L 0 a a
 |there {n:Nat} {a x:Int} {c:HC}:hat L a=some c→c.k=0→c.n≠a→Qdv L n c.n x→Qdv L (n+1) a x
def End (L:List HC) (a x:Int):Prop:=∃n,Qdv L n a x
theorem Qdv.det {L:List HC} {n m:Nat} {a x y:Int} (h:Qdv L n a x):Qdv L m a y→n=m∧x=y:=by
 induction h generalizing m with
 |here h0 h1=>
  intro g
  cases g with
  |here g0 g1=>exact ⟨rfl,rfl⟩
  |there g0 g1 g2 _=>rw [h0] at g0;cases g0;exact absurd ⟨g1,g2⟩ h1
 |there h0 h1 h2 _ ih=>
  intro g
  cases g with
  |here g0 g1=>rw [h0] at g0;cases g0;exact absurd ⟨h1,h2⟩ g1
  |there g0 g1 g2 g3=>
   rw [h0] at g0;cases g0
   obtain ⟨e1,e2⟩:=ih g3
   exact ⟨by omega,e2⟩
theorem End.det {L:List HC} {a x y:Int} (h:End L a x) (g:End L a y):x=y:=by
 obtain ⟨_,h⟩:=h
 obtain ⟨_,g⟩:=g
 exact (h.det g).2
theorem Qdv.last {L:List HC} {n:Nat} {a x:Int} (h:Qdv L n a x):∃c,hat L x=some c∧¬(c.k=0∧c.n≠x):=by
 induction h with
 |here h0 h1=>exact ⟨_,h0,h1⟩
 |there _ _ _ _ ih=>exact ih
theorem End.last {L:List HC} {a x:Int} (h:End L a x):∃c,hat L x=some c∧¬(c.k=0∧c.n≠x):=by
 obtain ⟨_,h⟩:=h;exact h.last
theorem End.self {L:List HC} {a x:Int} (h:End L a x):End L x x:=by
 obtain ⟨c,h0,h1⟩:=h.last
 exact ⟨0,.here h0 h1⟩
theorem End.first {L:List HC} {a x:Int} (h:End L a x):∃c,hat L a=some c:=by
 obtain ⟨_,h⟩:=h
 cases h with
 |here h0 _=>exact ⟨_,h0⟩
 |there h0 _ _ _=>exact ⟨_,h0⟩
theorem QjS:∀(n:Nat) (l:List Nat),l.Nodup→(∀y∈l,y<n)→l.length≤n
 |0,l,_,h=>by
  cases l with
  |nil=>simp
  |cons y l=>exact absurd (h y Yd) Ya
 |n+1,l,hn,h=>by
  by_cases hm:n∈l
  ·have h1:=QjS n (l.erase n) (hn.erase n) fun y hy=>by
    have h2:=(hn.mem_erase_iff).1 hy
    have h3:=h y h2.2
    have h4:=h2.1
    omega
   rw [List.length_erase_of_mem hm] at h1
   omega
  ·have:=QjS n l hn fun y hy=>by
    have h3:=h y hy
    have h4:y≠n:=fun e=>hm (e ▸ hy)
    omega
   omega
theorem Qdv.list {L:List HC} {n:Nat} {a x:Int} (h:Qdv L n a x):∃l:List Nat,l.length=n+1∧l.Nodup∧(∀y∈l,y<L.length)∧∀y∈l,∃j,j≤n∧Qdv L j (y:Int) x:=by
 induction h with
 | @here a c h0 h1=>
  obtain ⟨g0,g1,_⟩:=QbP.1 h0
  refine ⟨[a.toNat],rfl,by simp,fun y hy=> ?_,fun y hy=>⟨0,Nat.le_refl _,?_⟩⟩
  ·simp at hy;omega
  ·simp at hy
   rw [show ((y:Nat):Int)=a by omega]
   exact .here h0 h1
 | @there n a x c h0 h1 h2 h3 ih=>
  obtain ⟨g0,g1,_⟩:=QbP.1 h0
  obtain ⟨l,l1,l2,l3,l4⟩:=ih
  have ha:((a.toNat:Nat):Int)=a:=by omega
  refine ⟨a.toNat::l,by simp [l1],List.nodup_cons.2 ⟨fun hm=> ?_,l2⟩,fun y hy=> ?_,fun y hy=> ?_⟩
  ·obtain ⟨j,hj,he⟩:=l4 _ hm
   rw [ha] at he
   have:=(he.det (.there h0 h1 h2 h3)).1
   omega
  ·rcases List.mem_cons.1 hy with rfl|hy
   ·omega
   ·exact l3 y hy
  ·rcases List.mem_cons.1 hy with rfl|hy
   ·rw [ha];exact ⟨n+1,Nat.le_refl _,.there h0 h1 h2 h3⟩
   ·obtain ⟨j,hj,he⟩:=l4 y hy
    exact ⟨j,by omega,he⟩
theorem Qdv.lt {L:List HC} {n:Nat} {a x:Int} (h:Qdv L n a x):n<L.length:=by
 obtain ⟨l,l1,l2,l3,_⟩:=h.list
 have:=QjS L.length l l2 l3
 omega
theorem Qu7 {L:List HC} {n:Nat} {a x:Int} (h:Qdv L n a x):∀f,n<f→Qbi L f a=x:=by
 induction h with
 |here h0 h1=>
  intro f hf
  obtain ⟨f,rfl⟩:∃g,f=g+1:=⟨f-1,by omega⟩
  simp only [Qbi,h0,if_neg h1]
 |there h0 h1 h2 _ ih=>
  intro f hf
  obtain ⟨f,rfl⟩:∃g,f=g+1:=⟨f-1,by omega⟩
  simp only [Qbi,h0,if_pos (And.intro h1 h2)]
  exact ih f Ya
theorem Qg1 {L:List HC}:∀(f:Nat) (a:Int),¬Qbi L f a<0→∃n,Qdv L n a (Qbi L f a)
 |0,a,h=>absurd (show Qbi L 0 a<0 by simp [Qbi]) h
 |f+1,a,h=>by
  cases hc:hat L a with
  |none=>simp only [Qbi,hc] at h;exact absurd Yf h
  |some c=>
   by_cases hb:c.k=0∧c.n≠a
   ·simp only [Qbi,hc,if_pos hb] at h⊢
    obtain ⟨n,hn⟩:=Qg1 f c.n h
    exact ⟨n+1,.there hc hb.1 hb.2 hn⟩
   ·simp only [Qbi,hc,if_neg hb]
    exact ⟨0,.here hc hb⟩
theorem End.look {L:List HC} {a x:Int} (h:End L a x):Qw L a=x:=by
 obtain ⟨n,h⟩:=h
 exact Qu7 h _ h.lt
theorem QmN {L:List HC} {a:Int} (h:¬Qw L a<0):End L a (Qw L a):=Qg1 _ _ h
theorem End.nonneg {L:List HC} {a x:Int} (h:End L a x):0≤x:=by
 obtain ⟨c,h0,_⟩:=h.last;exact (QbP.1 h0).1
theorem QhE {L:List HC} {a:Int} (h:¬∃x,End L a x):Qw L a= -1:=by
 rcases Qd7 (L:=L) L.length a with h1|⟨c,h1,_⟩
 ·exact h1
 ·refine absurd ⟨Qw L a,QmN ?_⟩ h
  have:=(QbP.1 h1).1
  unfold Qw;omega
theorem Qdb {L:List HC} {r:Int} {c:HC} (hr:hat L r=some c) (y a:Int):hat (QfJ L r.toNat y) a=if a=r then some ⟨c.k,y,c.s⟩ else hat L a:=by
 obtain ⟨r0,r1,r2⟩:=QbP.1 hr
 unfold hat
 by_cases ha:0≤a
 ·rw [if_pos ha,if_pos ha,QiD]
  by_cases he:a=r
  ·rw [if_pos he,if_pos (by rw [he]),he,r2];rfl
  ·rw [if_neg he,if_neg Ya]
 ·rw [if_neg ha,if_neg ha,if_neg Ya]
structure Up (L L':List HC):Prop where
 ends:∀a x,End L a x→∃y,End L' a y∧End L' x y
 cell:∀a c,hat L a=some c→c.k≠0→hat L' a=some c
theorem Qxb {L:List HC} {r y:Int} {c:HC} (hr:hat L r=some c) (hk:c.k=0) (hn:c.n=r) (hy:End L y y) (hne:y≠r):
  (∀a x,End L a x→x≠r→End (QfJ L r.toNat y) a x)∧(∀a,End L a r→End (QfJ L r.toNat y) a y):=by
 have hyy:End (QfJ L r.toNat y) y y:=by
  obtain ⟨d,d0,d1⟩:=hy.last
  exact ⟨0,.here (by rw [Qdb hr,if_neg hne];exact d0) d1⟩
 have key:∀n a x,Qdv L n a x→End (QfJ L r.toNat y) a (if x=r then y else x):=by
  intro n a x h
  induction h with
  | @here a d h0 h1=>
   by_cases ha:a=r
   ·rw [if_pos ha]
    obtain ⟨m,hm⟩:=hyy
    exact ⟨m+1,.there (c:=⟨c.k,y,c.s⟩) (by rw [Qdb hr,if_pos ha]) hk (by rw [ha];exact hne) hm⟩
   ·rw [if_neg ha]
    exact ⟨0,.here (by rw [Qdb hr,if_neg ha];exact h0) h1⟩
  | @there n a x d h0 h1 h2 _ ih=>
   have ha:a≠r:=fun e=>by
    rw [e,hr] at h0;cases h0
    rw [e] at h2;exact h2 hn
   obtain ⟨m,hm⟩:=ih
   exact ⟨m+1,.there (by rw [Qdb hr,if_neg ha];exact h0) h1 h2 hm⟩
 refine ⟨fun a x ⟨n,h⟩ hx=> ?_,fun a ⟨n,h⟩=> ?_⟩
 ·have:=key n a x h;rwa [if_neg hx] at this
 ·have:=key n a r h;rwa [if_pos rfl] at this
def Bis (L:List HC) (R:Int→Int→Prop):Prop:=∀a b,R a b→a=b∨∃x y,End L a x∧End L b y∧(x=y∨∃c,hat L x=some c∧hat L y=some c∧c.k≠0∧∀i:Int,0≤i→i<QU c→R (x+1+i) (y+1+i))
def Sm (L:List HC) (a b:Int):Prop:=∃R,Bis L R∧R a b
theorem QwR {u:HU} {a b:Int} (h:((u.step.look a).2.look b).2.lg=false):
  u.step.lg=false∧(u.step.look a).1=Qw u.cs a∧((u.step.look a).2.look b).1=Qw u.cs b∧End u.cs a (Qw u.cs a)∧End u.cs b (Qw u.cs b)∧((u.step.look a).2.look b).2.cs=u.cs∧((u.step.look a).2.look b).2.tr=u.tr∧((u.step.look a).2.look b).2.w=u.w+1:=by
 have hwa:=QeG u.step a
 have hwb:=QeG (u.step.look a).2 b
 obtain ⟨hla,hb1,hb2⟩:=QdM h
 obtain ⟨hls,ha1,ha2⟩:=QdM hla
 rw [hwa.2.1] at hb1 hb2
 exact ⟨hls,ha1,hb1,QmN ha2,QmN hb2,by rw [hwb.2.1,hwa.2.1];rfl,by rw [hwb.2.2,hwa.2.2];rfl,by rw [hwb.1,hwa.1];rfl⟩
structure One (a b:Int) (u:HU) (v:HU):Prop where
 up:Up u.cs v.cs
 sm:∀L,Up v.cs L→Sm L a b
end Go.Proofs.YthliapbflkfdiacGreatDoor
