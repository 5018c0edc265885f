/- Steps of the proof. -/
import Derived.Test.YthliapbflkfdiacGreatDoorG18
namespace Go.Proofs.YthliapbflkfdiacGreatDoor
open Go.RowKit
set_option linter.unusedVariables false
set_option linter.unusedSimpArgs false
set_option maxRecDepth 100000
set_option maxHeartbeats 1000000
def OE.ke (x:OE):KE:=⟨x.k,x.A,x.c,x.T⟩
theorem Qr9:∀L:List OE,oeL L=keL (L.map OE.ke)
 |[]=>rfl
 |x::r=>by simp only [oeL,List.map_cons,keL,Qr9 r];rfl
theorem Qed {v:Int} (hv:v≤8):∀T:Ts,T.good v=true→T.shift 0=T
 | .nil,_=>rfl
 | .cons k n s ar r,h=>by
  simp only [Ts.good,Bool.and_eq_true] at h;rw [Ts.shift_cons,Qed hv ar h.1.2,Qed hv r h.2]
  have:QaN k n 0=n:=by
   unfold QaN;split
   ·rename_i hk;have hn:=h.1.1;unfold Qai at hn;rw [if_pos hk] at hn;simp only [Bool.and_eq_true,decide_eq_true_eq] at hn;rw [Qd9 hn.1.1.1 Ya,Qd9 (n:=0) Ya Ya];omega
   ·rfl
  rw [this]
theorem QnT {v:Int} (hv:v≤8) {k n:Int} {s:ByteArray} {T:Ts} (h:(Ts.cons k n s T .nil).good v=true):Tm.shift ⟨k,n,s,T⟩ 0=⟨k,n,s,T⟩:=by
 have:=Qed hv _ h;rw [Ts.shift_cons] at this;injection this with h1 h2 h3 h4;unfold Tm.shift;dsimp only;rw [h2,h4]
section
variable {M:List Nat} {w0:World} {H:List (Nat×Obj)} {F:List (World→Prop)}
theorem QnP (X:List LC) (pA:Option Addr) (pc:Nat) (T:TA) (qA:Option Addr) (qc:Nat) (vars fuel:Int) (w:World) (hX:Und F (Qes X pA pc)) (hT:Und F (ArA qA qc T)) (hn:QaI (X.map LC.cl)≤1048576) (hn2:T.ts.nodes≤1048576) (hS:St M w0 H F w):
  Calls Tryz.prog 34 #[.slice pA X.length pc,.slice qA T.len qc,.int .i64 vars,.int .i64 fuel] w fun e w'=>∃(A:Option Addr) (c:Nat) (L:List KE) (F':List (World→Prop)),e= .returned (.tuple #[.slice A L.length c,.int .i64 (QgB (X.map LC.cl) T.ts vars fuel).2])∧L.map KE.ev=(QgB (X.map LC.cl) T.ts vars fuel).1∧(∀φ∈F,φ∈F')∧Und F' (KER L A c)∧St M w0 H F' w':=by
 have hnil:∀w:World,KER [] none 0 w:=fun w=>⟨Nat.le_refl _,fun h=>by simp at h,fun x hx=>by cases hx⟩
 have hgp:=fun (w':World) (hS:St M w0 H F w')=>Qjj (X.map LC.cl) (.slice pA X.length pc) w' (hS.und hX).slC hn;have hgq:=fun (w':World) (hS:St M w0 H F w')=>Qhg vars T.ts (.slice qA T.len qc) w' (hS.und hT).sl hn2;unfold QgB;refine Qem Tryz.func34 rfl Tryz.ntmps34 rfl ?_;refine Zf ?_;refine Zbi ?_;refine Zs ?_;refine Calls.mono (hgp _ hS) ?_;rintro _ w3 ⟨rfl,hb3⟩;refine Za ?_;replace hS:=hS.grow hb3
 cases hpB:pB (X.map LC.cl) with
 |false=>
  rw [if_pos (.inl rfl)];refine ZE ?_;refine Zbh ?_;refine Zbo ?_;refine Zdi ?_;exact ⟨none,0,[],F,rfl,rfl,fun _ h=>h,fun w _=>hnil w,hS⟩
 |true=>
 refine ZdW ?_;refine ZA ?_;refine Zj ?_;refine Calls.mono (hgq _ hS) ?_;rintro _ w4 ⟨rfl,hb4⟩;refine Za ?_;replace hS:=hS.grow hb4
 cases hqB:qB vars T.ts with
 |false=>
  rw [if_pos (.inr rfl)];refine ZbF ?_;refine Zbo ?_;refine Zdi ?_;exact ⟨none,0,[],F,rfl,rfl,fun _ h=>h,fun w _=>hnil w,hS⟩
 |true=>
 rw [if_neg Yd];by_cases hf1:fuel<0
 ·rw [if_pos (.inl hf1)];refine Zcm ?_;refine ZeK ?_;refine ZaP ?_;refine Zbo ?_;refine Zdi ?_;exact ⟨none,0,[],F,rfl,rfl,fun _ h=>h,fun w _=>hnil w,hS⟩
 by_cases hf2:150<fuel
 ·rw [if_pos (.inr hf2)];refine Zcm ?_;refine ZbP ?_;refine Z5 ?_;refine Zbo ?_;refine Zdi ?_;exact ⟨none,0,[],F,rfl,rfl,fun _ h=>h,fun w _=>hnil w,hS⟩
 rw [if_neg (by rintro (h|h)<;>contradiction)]
 obtain ⟨fuel,rfl⟩:∃f:Nat,fuel=f:=⟨fuel.toNat,by omega⟩
 have hqB2:=hqB;simp only [qB,Bool.and_eq_true,decide_eq_true_eq] at hqB2
 obtain ⟨vars,rfl⟩:∃v:Nat,vars=v:=⟨vars.toNat,by omega⟩
 simp only [Int.toNat_natCast];have hpB2:=hpB;unfold pB at hpB2;simp only [Bool.and_eq_true,decide_eq_true_eq,List.all_eq_true,List.length_map] at hpB2;have hXc:∀x∈X,cB x.cl=true:=fun x hx=>hpB2.2 _ (List.mem_map.2 ⟨x,hx,rfl⟩);have hnq:=goals_nodes _ hqB2.2
 have hTl:T.len≤5:=by have:=TA.len_ts T;have:=hqB2.1.2;omega
 refine Zcm ?_;refine ZbP ?_;refine Z5 ?_;refine ZU ?_;refine Zt ?_;refine ZK ?_;refine Qa (QB (cells:=[_,_,_,_,_,_,_]) (.cons Yb (.cons Yb (.cons Yb (.cons Yb .nil)))) rfl) rfl ?_;refine ZaX ?_;clear hS;intro b1 wx1 hS;refine Zd ?_;refine Zx ?_;refine Zcd ?_;refine Qy 12 11 (37::38::41::42::43::44::45::46::47::39::40::[]) (fun (j:Nat) v u w'=>∃(D2 R2:TA) (gs:List GN) (F3:List (World→Prop)),T=D2.app R2∧D2.len=j∧v= .int .i64 ((j:Nat)-1)∧u=Qdr gs∧Q3 gs=Qau R2.ts 0 0 []∧(∀φ∈F,φ∈F3)∧Und F3 (TdR gs)∧St M w0 ((b1,.cells (Qd2 pA X.length pc vars ⟨fuel,vars,0,[],false⟩ none 0 0).toArray 109)::H) F3 w') (fun j=>j) (T.len) ?_ Yb Yb ?_
 ·exact ⟨T,.nil,[],F,by rw [TA.app_nil],rfl,rfl,rfl,rfl,fun _ h=>h,fun _ _=>trivial,hS⟩
 clear hS;rintro j _ _ w10 jy ⟨D2,R2,gs,F3,hDR2,hDj,rfl,rfl,hgs,hF3,hpr3,hS⟩ ih2;have hlen2:T.len=D2.len+R2.len:=by rw [hDR2,TA.len_app]
 cases j with
 |succ j=>
  obtain ⟨D',k1,n1,s1,A1,c1',a1,rfl,hD'⟩:=TA.snoc D2 j hDj
  have hDR':T=D'.app (.cons k1 n1 s1 A1 c1' a1 R2):=by rw [hDR2,TA.app_assoc];rfl
  have hT':=hT.mono hF3;rw [hDR'] at hT'
  have hnod:(TA.cons k1 n1 s1 A1 c1' a1 .nil).ts.goals ((vars:Nat):Int)=true:=by
   have:=hqB2.2;rw [hDR',TA.app_ts] at this
   have key:∀(a b:Ts),(a.app b).goals ((vars:Nat):Int)=true→b.goals ((vars:Nat):Int)=true:=by
    intro a b
    induction a with
    |nil=>exact id
    |cons k n s x r _ ih=>intro h;simp only [Ts.app,Ts.goals,Bool.and_eq_true] at h;exact ih h.2
   have:=key _ _ this;simp only [TA.ts,Ts.goals,Bool.and_eq_true] at this⊢;exact ⟨this.1,trivial⟩
  have hz0:(Tm.shift ⟨k1,n1,s1,a1.ts⟩ 0)=⟨k1,n1,s1,a1.ts⟩:=by
   simp only [TA.ts,Ts.goals,Bool.and_eq_true] at hnod;have hg:=hnod.1;simp only [gB,Bool.and_eq_true] at hg;exact QnT (v:=((vars:Nat):Int)) Ya hg.1.2
  have hsub:Und F3 (LRd ⟨k1,n1,s1,A1,c1',a1⟩):=hT'.imp fun w h=>h.sub;obtain ⟨b7,o7,hba⟩:=(hS.und hT').some_ YH;subst hba;obtain ⟨z0,z1,z2,z3⟩:=(hS.und hT').cells;rw [show o7+D'.len*4=o7+(((j+1:Nat):Int)-1).toNat*4 by omega] at z0 z1 z2 z3;refine Zcf ?_;refine ZcX ?_;refine Zar ?_;refine ZaB ?_;refine Ze ?_;refine Zek ?_;refine ZaX ?_;clear hS;intro b2 wx2 hS;refine ZdG ?_;replace hS:=hS.freeze;refine ih2 j _ _ _ _ ?_ ?_ Yb Yb Yc
  ·omega
  ·refine ⟨D',.cons k1 n1 s1 A1 c1' a1 R2,⟨⟨k1,n1,s1,A1,c1',a1⟩,0,_⟩::gs,_,hDR',hD',?_,rfl,?_,fun φ h=> .tail _ (hF3 φ h),?_,hS⟩
   ·congr 1;omega
   ·show (Tm.mk k1 n1 s1 a1.ts,0)::Q3 gs=(Tm.shift ⟨k1,n1,s1,a1.ts⟩ 0,0)::Qau R2.ts 0 0 [];rw [hz0,hgs]
   ·exact fun w hw=>⟨hw _ (.head _),(hsub.tail) w hw,hpr3 w fun φ hφ=>hw φ (.tail _ hφ)⟩
 |zero=>
  have hD2:D2= .nil:=by cases D2 with
   |nil=>rfl
   |cons _ _ _ _ _ _ _=>simp [TA.len] at hDj
  subst hD2
  have hRx:R2=T:=by rw [hDR2];rfl
  subst hRx;clear ih2;have hpr:=Qih (X:=X) (pA:=pA) (pc:=pc) (q:=vars) (C:=vars+8*(fuel+12)) (D:=fuel) hpB2.1 hXc Ya Ya Ya fuel Ya;have hcall:=hpr M w0 H F3 gs [] b1 ⟨fuel,vars,0,[],false⟩
  have hgd2:∀y∈gs,tgd y.t.tm:=by
   have:=Qhu (v:=((vars:Nat):Int)) (m:=0) (o:=0) (rest:=[]) Ya Ya Ya (fun y hy=>(by cases hy)) R2.ts hqB2.2;rw [←Qqt,←hgs] at this;intro y hy;exact this (y.t.tm,y.o) (List.mem_map.2 ⟨y,hy,rfl⟩)
  have hP24:∀c∈X.map LC.cl,c.vars.toNat≤8:=fun c hc=>by
   obtain ⟨x,hx,rfl⟩:=List.mem_map.1 hc;have:=(Qc1 (hXc x hx)).2.1;omega
  have hBI:BdI (vars+8*(fuel+12)) fuel ⟨fuel,vars,0,[],false⟩:=⟨by show vars+8*(fuel+12)≤vars+8*(fuel+12)+8*0;omega,by show 0+fuel≤fuel;omega,by show 0<12;omega,rfl⟩
  have hbdo:=Qi0 (q:=vars) (C:=vars+8*(fuel+12)) (D:=fuel) hP24 fuel (Q3 gs) (Qx []) _ hBI;rw [hgs] at hcall hbdo;have hend:∀(pq:Qax) (F':List (World→Prop)) (w':World),PSt M w0 H F' b1 pA X.length pc vars pq w'→pq.out.length≤100→Calls Tryz.prog 63 #[.pointer (some ⟨b1,0,none⟩),.int .i64 2] w' fun e w2=>e= .returned (.int .i64 (-1))∧PSt M w0 H F' b1 pA X.length pc vars (Qea 2 pq) w2:=fun pq F' w' hP ho=>Qc0 b1 pA X.length pc vars pq 2 w' ho hP;rw [show Qx []=([]:Bnd) from rfl] at hcall hbdo;generalize Qj (X.map LC.cl) vars fuel (Qau R2.ts 0 0 []) [] ⟨fuel,vars,0,[],false⟩=Q at*;obtain ⟨kq,pq⟩:=Q;dsimp only at hcall hbdo⊢
  have hfin:∀(pr:Qax) (F':List (World→Prop)) (w':World) (K4:List OE) (oA4:Option Addr) (oc4:Nat) (O4:List (Nat×Obj)),(∀φ∈F,φ∈F')→K4.map OE.ev=pr.out→(∀x∈K4,Und F' (ArA x.A x.c x.T))→Rw 34 2 (.slice oA4 K4.length oc4) K4.length (oeL K4) O4→St M w0 ((b1,.cells (Qd2 pA X.length pc vars pr oA4 K4.length oc4).toArray 109)::(O4++H)) F' w'→
    ∃(A:Option Addr) (c:Nat) (L:List KE) (F':List (World→Prop)),Value.slice oA4 K4.length oc4= .slice A L.length c∧L.map KE.ev=pr.out∧(∀φ∈F,φ∈F')∧Und F' (KER L A c)∧St M w0 H F' w':=by
   intro pr F' w' K4 oA4 oc4 O4 hF' e1 e2 e3 h;have h2:=St.freezeR e3 h.drop;refine ⟨oA4,oc4,K4.map OE.ke,_,by rw [List.length_map],by rw [List.map_map];exact e1,fun φ h=> .tail _ (hF' φ h),fun w2 hw=> ?_,h2⟩;have hfl:=hw _ (.head _);refine ⟨by rw [List.length_map];exact hfl.2.1,fun hl=> ?_,fun x hx=> ?_⟩
   ·rw [List.length_map] at hl;obtain ⟨b,o,e,hs⟩:=hfl.2.2 hl;exact ⟨b,o,e,Ql0 fun j u hu=>hs j u (by rw [Qr9];exact hu)⟩
   ·obtain ⟨y,hy,rfl⟩:=List.mem_map.1 hx;exact e2 y hy w2 fun φ hφ=>hw φ (.tail _ hφ)
  refine Zce ?_;refine Zt ?_;refine Zab ?_;refine Calls.mono (hcall _ (hX.mono hF3) hpr3 hgd2 ⟨fun w _=>trivial,trivial,fun x hx=>(by cases hx)⟩ (by show fuel≤fuel;omega) hBI ⟨[],none,0,[],rfl,fun x hx=>(by cases hx),Rw.zero_,hS⟩) ?_;rintro _ w12 ⟨F4,rfl,hF4,hP4⟩;refine Za ?_;clear hS;have hFF4:∀φ∈F,φ∈F4:=fun φ h=>hF4 φ (hF3 φ h);have hbo:=hbdo.o;obtain ⟨K4,oA4,oc4,O4,hK4,hKr4,hrow4,hS⟩:=hP4
  cases he4:pq.ended with
  |true=>
   rw [if_pos rfl];simp only [Qd2,he4] at hS;refine Zao ?_;refine ZaH ?_;refine Zm ?_;refine ZP ?_;refine Zag ?_;refine ZaC ?_;refine Zm ?_;refine Zn ?_;refine Zdi ?_;obtain ⟨A,c,L,F',g1,g2,g3,g4,g5⟩:=hfin pq F4 _ K4 oA4 oc4 O4 hFF4 hK4 hKr4 hrow4 (by simp only [Qd2,he4];exact hS);exact ⟨A,c,L,F',by rw [g1],g2,g3,g4,g5⟩
  |false=>
   rw [if_neg Yg];simp only [Qd2,he4] at hS;refine Zao ?_;refine ZaH ?_;refine Zm ?_;refine ZE ?_;refine Zaw ?_;refine Zj ?_;refine Calls.mono (hend pq F4 _ ⟨K4,oA4,oc4,O4,hK4,hKr4,hrow4,by simp only [Qd2,he4];exact hS⟩ Ya) ?_;rintro _ w13 ⟨rfl,hP5⟩;refine Za ?_;clear hS;obtain ⟨K5,oA5,oc5,O5,hK5,hKr5,hrow5,hS⟩:=hP5;refine Zch ?_;refine ZaC ?_;refine Zm ?_;refine Zn ?_;refine Zdi ?_;obtain ⟨A,c,L,F',g1,g2,g3,g4,g5⟩:=hfin (Qea 2 pq) F4 _ K5 oA5 oc5 O5 hFF4 hK5 hKr5 hrow5 hS;exact ⟨A,c,L,F',by rw [g1],g2,g3,g4,g5⟩
end
section
variable {P:List Cl} {q:Nat}
theorem Rl.next {ρ:Int→Int→Prop} {h:Nat→Nat} {s:SS} {g:Gl} {rest:List Gl} {g':Tg} {r':List Tg} {e:Bnd} {p:Qax} (hR:Rl ρ h q s (g'::r') e p) (hg:s.goals=g::rest) (hf:s.fuel≠0) {B' e':Bnd} {C:List Ch}
  (bm:Bm Qet Qb4 (Qc2 ρ) B' e') (fb:FB s.fresh B') (fe:FB p.vars e') (hC:∀a∈r',h a.2≤C.length) (hI:Inv ⟨B',s.fresh,s.fuel-1,rest,C,s.ev⟩):
  Rl ρ h q ⟨B',s.fresh,s.fuel-1,rest,C,s.ev⟩ r' e' ⟨p.fuel-1,p.vars,p.calls,p.out,p.ended⟩:=by
 have hgl:=hR.gl;rw [hg] at hgl
 cases hgl with
 |cons h1 h2=>
  exact ⟨by simp only;rw [hR.fuel],hR.out,hR.ev,hR.ne,bm,fb,fe,hR.rho,hR.le,hR.qv,h2,(List.pairwise_cons.1 hR.srt).2,fun a ha b hb=>hR.mono a (List.mem_cons_of_mem _ ha) b (List.mem_cons_of_mem _ hb),fun a ha=>⟨hC a ha,(hR.ht a (List.mem_cons_of_mem _ ha)).2⟩,hI⟩
theorem Rs.step {K K':List Ev→Prop} {B0:Bnd} {fr0:Nat} {C:List Ch} {p p1 p':Qax} (h:Rs P q K B0 fr0 C p1 p') (hv:p.vars≤p1.vars) (hc:p.calls≤p1.calls) (hf:p1.fuel≤p.fuel) {B1:Bnd} (hB:∃N,B0=N++B1) (hk:∀L,K L→K' L):Rs P q K' B1 fr0 C p p':=by
 obtain ⟨a1,a2,a3,a4,a5⟩:=h;refine ⟨by omega,by omega,by omega,fun hh=>hk _ (a4 hh),fun hh=> ?_⟩;obtain ⟨t,b1,b2,b3,b4,b5,⟨X,b6⟩,b7,b8,b9⟩:=a5 hh;obtain ⟨N,hN⟩:=hB;exact ⟨t,b1,b2,b3,b4,b5,⟨X++N,by rw [b6,hN,List.append_assoc]⟩,b7,b8,fun L hL=>hk _ (b9 L hL)⟩
theorem Rs.back {s t:SS} {p p1:Qax} {B1:Bnd} (hst:Q4 P q s=QV t) (hI:Qd4 t) (hf:t.fuel=p1.fuel) (ho:p1.out=Qce t.ev) (hev:t.ev.length<12) (hB:∃X,t.B=X++B1) (hfr:p1.vars≤t.fresh) (hne:p1.ended=false) (hv:p.vars≤p1.vars) (hc:p.calls≤p1.calls) (hfu:p1.fuel≤p.fuel) {fr0:Nat} (h0:fr0≤t.fresh):Rs P q (Qbq P q s) B1 fr0 t.ch p p1:=
 ⟨hv,hc,hfu,fun hh=>(by rw [hne] at hh;cases hh),fun _=>⟨t,hI,rfl,hf,ho,hev,hB,h0,hfr,fun L hL=>Qfs hst hL⟩⟩
theorem Rs.stop {s s':SS} {p p1:Qax} {B1:Bnd} {C:List Ch} {fr0:Nat} {k:Int} (hst:Q4 P q s=(k,s')) (hk:k≠0) (ho:p1.out=Qce s'.ev) (hv:p.vars≤p1.vars) (hc:p.calls≤p1.calls) (hfu:p1.fuel≤p.fuel):Rs P q (Qbq P q s) B1 fr0 C p (Qea k p1):=
 ⟨hv,hc,hfu,fun _=>by show Qbq P q s (p1.out++[(k,.nil)]);rw [ho];exact QeW hst hk,fun hh=>Yad⟩
theorem QpB (hp : pB P = true) (hq : q ≤ 8) : ∀ f, QtU P q f := by
 have hp2:P.length≤24∧∀x∈P,cB x=true:=by
  unfold pB at hp;simp only [Bool.and_eq_true,decide_eq_true_eq,List.all_eq_true] at hp;exact hp
 intro f
 induction f with
 |zero=>
  intro ρ h s g e p hR hfl
  cases g with
  |nil=>
   have:=QmC (P:=P) hq hR;exact ⟨this.1,fun hh=> .inl (this.2 hh)⟩
  |cons g' r'=>
   have hgl:=hR.gl
   cases hs:s.goals with
   |nil=>rw [hs] at hgl;cases hgl
   |cons g rest=>
    have h0:s.fuel=0:=by rw [hR.fuel];omega
    have hst:Q4 P q s=(3,s):=by unfold Q4;rw [hs];simp only;rw [if_pos h0]
    exact ⟨Rs.stop hst Yg hR.out (Nat.le_refl _) (Nat.le_refl _) (Nat.le_refl _),fun hh=>Yad⟩
 | succ f ih =>
  intro ρ h s g e p hR hfl
  cases g with
  |nil=>
   have:=QmC (P:=P) hq hR;exact ⟨this.1,fun hh=> .inl (this.2 hh)⟩
  | cons g' r' =>
   have hgl:=hR.gl
   cases hs:s.goals with
   |nil=>rw [hs] at hgl;cases hgl
   |cons g rest=>
    rw [hs] at hgl;obtain ⟨hg1,hg2⟩:Qc2 ρ g.1 g'.1∧g.2=h g'.2:=by cases hgl with|cons h1 _=>exact h1
    have hgl2:Al (GlR ρ h) rest r':=by cases hgl with|cons _ h2=>exact h2
    by_cases h0:s.fuel=0
    ·have hst:Q4 P q s=(3,s):=by unfold Q4;rw [hs];simp only;rw [if_pos h0]
     have e1:Qj P q (f+1) (g'::r') e p=(-1,Qea 3 p):=by rw [Qj,if_pos (by rw [←hR.fuel];exact h0)]
     rw [e1];exact ⟨Rs.stop hst Yg hR.out (Nat.le_refl _) (Nat.le_refl _) (Nat.le_refl _),fun hh=>Yad⟩
    have hp0:p.fuel≠0:=by rw [←hR.fuel];exact h0
    obtain ⟨ts,tl,tr⟩:=hg1.top;obtain ⟨i1,i2,i3,i4,i5,i6,i7⟩:=Qb0 hR.inv hs h0;have hsok:=(Qfe (vars:=q) hR.inv hR.ev hp).1.go;have hle:=hR.le;have hht:=hR.ht g' (List.mem_cons_self ..);have hlow:∀a∈r',a.2≤g'.2:=(List.pairwise_cons.1 hR.srt).1;have hmn:∀a∈r',h a.2≤h g'.2:=fun a ha=>hR.mono a (List.mem_cons_of_mem _ ha) g' (List.mem_cons_self ..) (hlow a ha);by_cases hb:QM g.1.s.toList g.1.ar.length=true
    ·have hb':QM g'.1.s.toList g'.1.ar.length=true:=by rw [←ts,←tl];exact hb
     have hst:Q4 P q s=Qcq g ⟨s.B,s.fresh,s.fuel-1,rest,s.ch,s.ev⟩:=by
      unfold Q4;rw [hs];simp only;rw [if_neg h0,if_pos hb]
     have e1:Qj P q (f+1) (g'::r') e p=Qbu (Qj P q f) g' r' e ⟨p.fuel-1,p.vars,p.calls,p.out,p.ended⟩:=by rw [Qj,if_neg hp0,if_pos hb']
     rw [e1]
     have hon:∀{s1:SS} {e':Bnd},Rl ρ h q s1 r' e' ⟨p.fuel-1,p.vars,p.calls,p.out,p.ended⟩→Q4 P q s=(0,s1)→(∃N,s1.B=N++s.B)→s1.fresh=s.fresh→s1.ch=s.ch→
       Rs P q (Qbq P q s) s.B s.fresh (QjK h s.ch (Qj P q f r' e' ⟨p.fuel-1,p.vars,p.calls,p.out,p.ended⟩).1) p (Qj P q f r' e' ⟨p.fuel-1,p.vars,p.calls,p.out,p.ended⟩).2∧((Qj P q f r' e' ⟨p.fuel-1,p.vars,p.calls,p.out,p.ended⟩).2.ended=false→(Qj P q f r' e' ⟨p.fuel-1,p.vars,p.calls,p.out,p.ended⟩).1= -1∨∃a∈g'::r',(Qj P q f r' e' ⟨p.fuel-1,p.vars,p.calls,p.out,p.ended⟩).1=(a.2:Nat)):=by
      intro s1 e' hR1 hs1 hN hfr hch;obtain ⟨c1,c2⟩:=ih ρ h s1 r' e' _ hR1 YT;rw [hfr,hch] at c1;refine ⟨c1.step (p:=p) (Nat.le_refl _) (Nat.le_refl _) YT hN (fun L hL=>Qho hs1 hL),fun hh=> ?_⟩;rcases c2 hh with c|⟨a,ha,c⟩
      ·exact .inl c
      ·exact .inr ⟨a,List.mem_cons_of_mem _ ha,c⟩
     have hplain:Q4 P q s=(0,⟨s.B,s.fresh,s.fuel-1,rest,s.ch,s.ev⟩)→Rl ρ h q ⟨s.B,s.fresh,s.fuel-1,rest,s.ch,s.ev⟩ r' e ⟨p.fuel-1,p.vars,p.calls,p.out,p.ended⟩:=fun hs1=>by
      have hI:=hsok (by rw [hs1]);rw [hs1] at hI;exact hR.next hs h0 hR.bm hR.fb hR.fe (fun a ha=>Nat.le_trans (hmn a ha) hht.1) hI.1
     have hfail:Q4 P q s=QV ⟨s.B,s.fresh,s.fuel-1,rest,s.ch,s.ev⟩→Rs P q (Qbq P q s) s.B s.fresh (QjK h s.ch (-1)) p ⟨p.fuel-1,p.vars,p.calls,p.out,p.ended⟩:=fun hs1=>
      Rs.back (p:=p) (p1:=⟨p.fuel-1,p.vars,p.calls,p.out,p.ended⟩) (t:=⟨s.B,s.fresh,s.fuel-1,rest,s.ch,s.ev⟩) hs1 i1 (by simp only;rw [hR.fuel]) hR.out hR.ev ⟨[],rfl⟩ hle hR.ne (Nat.le_refl _) (Nat.le_refl _) YT (Nat.le_refl _)
     have hequal:∀(a b a' b':Tm),tgd a→tgd b→Qc2 ρ a a'→Qc2 ρ b b'→Q4 P q s=Qbm a b ⟨s.B,s.fresh,s.fuel-1,rest,s.ch,s.ev⟩→
       Rs P q (Qbq P q s) s.B s.fresh (QjK h s.ch (QjF (Qj P q f) r' e ⟨p.fuel-1,p.vars,p.calls,p.out,p.ended⟩ a' b').1) p (QjF (Qj P q f) r' e ⟨p.fuel-1,p.vars,p.calls,p.out,p.ended⟩ a' b').2∧((QjF (Qj P q f) r' e ⟨p.fuel-1,p.vars,p.calls,p.out,p.ended⟩ a' b').2.ended=false→(QjF (Qj P q f) r' e ⟨p.fuel-1,p.vars,p.calls,p.out,p.ended⟩ a' b').1= -1∨∃x∈g'::r',(QjF (Qj P q f) r' e ⟨p.fuel-1,p.vars,p.calls,p.out,p.ended⟩ a' b').1=(x.2:Nat)):=by
      intro a b a' b' ta tb ra rb hs1;obtain ⟨u1,u2,u3,u4,u5⟩:=Qmx hR.bm hR.fb hR.fe hR.rho ra rb;have hup:=(Qdj 401 a b s.B 0 ta.small tb.small hR.inv.c.bok hR.inv.c.sm Ya).ext;have hei:=QcO i1 i2 ta tb;unfold Qbm at hs1;simp only at hs1;unfold QjF;by_cases hw:400<(Qba a' b' e).w
      ·rw [if_pos hw];rw [if_pos Yaq] at hs1;exact ⟨Rs.stop hs1 Yg hR.out (Nat.le_refl _) (Nat.le_refl _) YT,fun hh=>Yad⟩
      rw [if_neg hw];rw [if_neg Yaq] at hs1;by_cases hok:(Qba a' b' e).ok=true
      ·rw [if_pos hok];rw [if_pos Yax] at hs1;have hI:=hsok (by rw [hs1]);rw [hs1] at hI;exact hon (hR.next hs h0 u3 u4 u5 (fun a ha=>Nat.le_trans (hmn a ha) hht.1) hI.1) hs1 hup rfl rfl
      ·rw [if_neg hok];rw [if_neg Yax] at hs1;exact ⟨Rs.back (p:=p) (p1:=⟨p.fuel-1,p.vars,p.calls,p.out,p.ended⟩) hs1 hei (by show s.fuel-1=p.fuel-1;rw [hR.fuel]) hR.out hR.ev hup hle hR.ne (Nat.le_refl _) (Nat.le_refl _) YT (Nat.le_refl _),fun _=> .inl rfl⟩
     have hd:=Qac _ i6;unfold Qbu;unfold Qcq at hst;rw [←ts];unfold QM at hb;by_cases k1:g.1.s.toList=[33]
     ·rw [if_pos k1] at hst ⊢;have hI:=hsok (by rw [hst]);rw [hst] at hI
      have hcl:(s.ch.drop (s.ch.length-g.2)).length=h g'.2:=by rw [List.length_drop,hg2];omega
      obtain ⟨c1,c2⟩:=ih ρ h _ r' e _ (hR.next (C:=s.ch.drop (s.ch.length-g.2)) hs h0 hR.bm hR.fb hR.fe (fun a ha=>by rw [hcl];exact hmn a ha) hI.1) YT;simp only at c1;generalize Qj P q f r' e ⟨p.fuel-1,p.vars,p.calls,p.out,p.ended⟩=res at c1 c2⊢;have c3:=c1.step (p:=p) (Nat.le_refl _) (Nat.le_refl _) YT ⟨[],rfl⟩ (fun L hL=>Qho hst hL)
      cases hen:res.2.ended with
      |true=>
       split
       ·exact ⟨⟨c3.vm,c3.cm,c3.fm,c3.en,fun hh=>Yaj⟩,fun hh=>Yaj⟩
       ·exact ⟨⟨c3.vm,c3.cm,c3.fm,c3.en,fun hh=>(by have hh:res.2.ended=false:=hh;rw [hen] at hh;cases hh)⟩,fun hh=>(by have hh:res.2.ended=false:=hh;rw [hen] at hh;cases hh)⟩
      |false=>
       have hkey:∀k:Nat,k≤h g'.2→(s.ch.drop (s.ch.length-g.2)).drop ((s.ch.drop (s.ch.length-g.2)).length-k)=s.ch.drop (s.ch.length-k):=fun k hk=>by
        rw [hcl,List.drop_drop,hg2];congr 1;omega
       have hself:s.ch.drop (s.ch.length-g.2)=QjK h s.ch ((g'.2:Nat):Int):=by
        unfold QjK;rw [if_neg Ya,hg2];rfl
       rcases c2 hen with c|⟨a,ha,c⟩
       ·rw [if_neg (by rw [c];omega)];refine ⟨?_,fun _=> .inr ⟨g',List.mem_cons_self ..,rfl⟩⟩
        have:QjK h (s.ch.drop (s.ch.length-g.2)) res.1=QjK h s.ch ((g'.2:Nat):Int):=by
         rw [←hself,c];unfold QjK;rw [if_pos Yg]
        rw [this] at c3;exact c3
       ·have hal:=hlow a ha
        have hc4:QjK h (s.ch.drop (s.ch.length-g.2)) res.1=QjK h s.ch res.1:=by
         rw [c];unfold QjK;rw [if_neg Ya,if_neg Ya];exact hkey _ (by rw [Int.toNat_natCast];exact hmn a ha)
        by_cases hlt:a.2<g'.2
        ·rw [if_pos ⟨by omega,by omega⟩];refine ⟨?_,fun _=> .inr ⟨a,List.mem_cons_of_mem _ ha,c⟩⟩;rw [hc4] at c3;exact c3
        ·have heq:a.2=g'.2:=by omega
         rw [if_neg (by rw [c];omega)];refine ⟨?_,fun _=> .inr ⟨g',List.mem_cons_self ..,rfl⟩⟩;rw [hc4,c,heq] at c3;exact c3
     rw [if_neg k1] at hst hb⊢;by_cases k2:g.1.s.toList=[116,114,117,101]
     ·rw [if_pos k2] at hst⊢;exact hon (hplain hst) hst ⟨[],rfl⟩ rfl rfl
     rw [if_neg k2] at hst hb⊢;by_cases k3:g.1.s.toList=[102,97,105,108]
     ·rw [if_pos k3];rw [if_neg Yat,if_neg Yat,if_neg Yat] at hst;exact ⟨hfail hst,fun _=> .inl rfl⟩
     rw [if_neg k3] at hb⊢;by_cases k4:g.1.s.toList=[101,113]
     ·rw [if_pos k4] at hst hb⊢;have hl:g.1.ar.length=2:=by simpa using hb
      exact hequal _ _ _ _ (hd _ (Ts.at_mem Ya)) (hd _ (Ts.at_mem Ya)) (tr.at_ Ya) (tr.at_ Ya) hst
     rw [if_neg k4] at hst hb⊢
     have hl2:2≤g.1.ar.length:=by
      split at hb
      ·have:g.1.ar.length=2:=by simpa using hb
       omega
      split at hb
      ·have:g.1.ar.length=3:=by simpa using hb
       omega
      ·cases hb
     have la:=QkB hR.bm (tr.at_ (i:=0) Ya);have lb:=QkB hR.bm (tr.at_ (i:=1) Ya);by_cases k5:g.1.s.toList=[108,101,115,115]
     ·rw [if_pos k5] at hst;unfold QhM at hst;simp only at hst;by_cases hkk:(Qc s.B (g.1.ar.at_ 0)).k≠2∨(Qc s.B (g.1.ar.at_ 1)).k≠2
      ·rw [if_pos hkk] at hst;rw [if_pos Yaw];exact ⟨Rs.stop hst Yg hR.out (Nat.le_refl _) (Nat.le_refl _) YT,fun hh=>Yad⟩
      ·rw [if_neg hkk] at hst
       have hna:¬g.1.s.toList=[97,100,100]:=by rw [k5];decide
       rw [if_neg (by rintro (hk|hk|hk);(rcases la with la|la<;>omega);(rcases lb with lb|lb<;>omega);exact hna hk.1),if_pos k5]
       have ea:(Qc s.B (g.1.ar.at_ 0)).n=(Qc e (g'.1.ar.at_ 0)).n:=by rcases la with la|la<;>omega
       have eb:(Qc s.B (g.1.ar.at_ 1)).n=(Qc e (g'.1.ar.at_ 1)).n:=by rcases lb with lb|lb<;>omega
       by_cases hlt:(Qc e (g'.1.ar.at_ 0)).n<(Qc e (g'.1.ar.at_ 1)).n
       ·rw [if_pos hlt];rw [if_neg Ya] at hst;exact hon (hplain hst) hst ⟨[],rfl⟩ rfl rfl
       ·rw [if_neg hlt];rw [if_pos Ya] at hst;exact ⟨hfail hst,fun _=> .inl rfl⟩
     ·rw [if_neg k5] at hst hb
      have k6:g.1.s.toList=[97,100,100]:=by
       by_cases k6:g.1.s.toList=[97,100,100]
       ·exact k6
       ·rw [if_neg k6] at hb;cases hb
      rw [if_pos k6] at hst hb;have hl3:g.1.ar.length=3:=by simpa using hb
      unfold QqZ at hst;simp only at hst;by_cases hkk:(Qc s.B (g.1.ar.at_ 0)).k≠2∨(Qc s.B (g.1.ar.at_ 1)).k≠2
      ·rw [if_pos hkk] at hst;rw [if_pos Yaw];exact ⟨Rs.stop hst Yg hR.out (Nat.le_refl _) (Nat.le_refl _) YT,fun hh=>Yad⟩
      rw [if_neg hkk] at hst
      have ea:(Qc s.B (g.1.ar.at_ 0)).n=(Qc e (g'.1.ar.at_ 0)).n:=by rcases la with la|la<;>omega
      have eb:(Qc s.B (g.1.ar.at_ 1)).n=(Qc e (g'.1.ar.at_ 1)).n:=by rcases lb with lb|lb<;>omega
      rw [ea,eb] at hst;by_cases hrg:(Qc e (g'.1.ar.at_ 0)).n+(Qc e (g'.1.ar.at_ 1)).n< -1099511627776∨1099511627776<(Qc e (g'.1.ar.at_ 0)).n+(Qc e (g'.1.ar.at_ 1)).n
      ·rw [if_pos hrg] at hst;rw [if_pos (.inr (.inr ⟨k6,hrg.symm⟩))];exact ⟨Rs.stop hst Yg hR.out (Nat.le_refl _) (Nat.le_refl _) YT,fun hh=>Yad⟩
      ·rw [if_neg hrg] at hst;rw [if_neg (by rintro (hk|hk|hk);(rcases la with la|la<;>omega);(rcases lb with lb|lb<;>omega);exact hrg hk.2.symm),if_neg k5];refine hequal _ _ _ _ (hd _ (Ts.at_mem Ya)) ?_ (tr.at_ Ya) (.node (show (2:Int)≠0 by decide) .nil .nil) hst;refine ⟨?_,by simp [Ts.nodes]⟩;simp only [Ts.good,Bool.and_eq_true,and_true];unfold Qai;rw [if_neg Yg,if_neg Yg,if_pos rfl];simp only [Bool.and_eq_true,decide_eq_true_eq];exact ⟨⟨⟨by omega,by omega⟩,Q7 []⟩,rfl⟩
    ·have hb':¬QM g'.1.s.toList g'.1.ar.length=true:=by rw [←ts,←tl];exact hb
     have hfit:QbX g'.1=QbX g.1:=by funext c;unfold QbX;rw [ts,tl]
     cases hfl2:P.filter (QbX g.1) with
     |nil=>
      have hst:Q4 P q s=(5,⟨s.B,s.fresh,s.fuel-1,rest,s.ch,s.ev⟩):=by
       unfold Q4;rw [hs];simp only;rw [if_neg h0,if_neg hb,hfl2]
      have e1:Qj P q (f+1) (g'::r') e p=(-1,Qea 5 ⟨p.fuel-1,p.vars,p.calls,p.out,p.ended⟩):=by rw [Qj,if_neg hp0,if_neg hb',hfit,hfl2]
      rw [e1];exact ⟨Rs.stop hst Yg hR.out (Nat.le_refl _) (Nat.le_refl _) YT,fun hh=>Yad⟩
     |cons c cs=>
      have hst:Q4 P q s=QV ⟨s.B,s.fresh,s.fuel-1,rest,⟨g,rest,c::cs,s.B.length⟩::s.ch,s.ev⟩:=by
       unfold Q4;rw [hs];simp only;rw [if_neg h0,if_neg hb,hfl2]
      have e1:Qj P q (f+1) (g'::r') e p=QeB (Qj P q f) g' r' e (p.calls+1) (c::cs) ⟨p.fuel-1,p.vars,p.calls+1,p.out,p.ended⟩:=by rw [Qj,if_neg hp0,if_neg hb',hfit,hfl2]
      rw [e1];have hmemP:∀x∈c::cs,x∈P:=fun x hx=>(List.mem_filter.1 (show x∈P.filter (QbX g.1) by rw [hfl2];exact hx)).1
      have hlenP:(c::cs).length≤24:=by
       have:=List.length_filter_le (QbX g.1) P;rw [hfl2] at this;omega
      have hpush:=(QeK hR.inv hs h0 (fun x hx=>hp2.2 x (hmemP x hx)) hlenP).1
      obtain ⟨c1,c2⟩:=QsJ ih (C:=s.ch) (call:=p.calls+1) hR.bm hg1 hgl2 (List.pairwise_cons.1 hR.srt).2 (fun a ha b hb=>hR.mono a (List.mem_cons_of_mem _ ha) b (List.mem_cons_of_mem _ hb))
       (fun a ha=>⟨Nat.le_trans (hmn a ha) hht.1,by have:=(hR.ht a (List.mem_cons_of_mem _ ha)).2;omega⟩) hR.qv (c::cs) _ ⟨p.fuel-1,p.vars,p.calls+1,p.out,p.ended⟩ hpush rfl ⟨[],rfl⟩ (by simp only;rw [hR.fuel]) hR.out hR.ev hR.ne hle hR.fb hR.fe hR.rho (Nat.le_refl _) YT (fun x hx=>hp2.2 x (hmemP x hx))
      refine ⟨c1.step (p:=p) (Nat.le_refl _) YT YT ⟨[],rfl⟩ (fun L hL=>Qfs hst hL),fun hh=> ?_⟩;rcases c2 hh with c|⟨a,ha,c⟩
      ·exact .inl c
      ·exact .inr ⟨a,List.mem_cons_of_mem _ ha,c⟩
end
theorem Qr4 {P:List Cl} {q:Nat} (hp:pB P=true):∀(n:Nat) (s:SS),Inv s→s.ev.length<12→mu s<n→QiW P q n s≠[]
 |0,s,_,_,h=>by omega
 |n+1,s,hI,hev,hm=>by
  obtain ⟨h1,h2⟩:=Qfe (vars:=q) hI hev hp;simp only [QiW];by_cases h0:(Q4 P q s).1=0
  ·rw [if_pos h0];exact Qr4 hp n _ (h1.go h0).1 (h2 h0) (by have:=(h1.go h0).2;omega)
  ·rw [if_neg h0];simp
theorem QmL {P:List Cl} {q:Nat}:∀(n m:Nat) (s:SS),QiW P q n s≠[]→QiW P q m s≠[]→QiW P q n s=QiW P q m s
 |0,_,_,h,_=>absurd rfl h
 |_,0,_,_,h=>absurd rfl h
 |n+1,m+1,s,hn,hm=>by
  simp only [QiW] at hn hm⊢;by_cases h0:(Q4 P q s).1=0
  ·rw [if_pos h0] at hn hm⊢;rw [if_pos h0];exact QmL n m _ hn hm
  ·rw [if_neg h0,if_neg h0]
theorem Bm.start (V:Int):Bm Qet Qb4 (Qc2 (QnI (fun _ _=>False) 0 0 V)) [] []:=by
 have hl:∀t:Tm,Qc [] t=t:=fun t=>rfl;refine ⟨trivial,trivial,fun _=>trivial,fun _=>trivial,fun {x y} hr=> ?_,?_⟩
 ·show VwR _ (tvw x) (tvw y);by_cases hk:x.k=0
  ·rcases hr.cases with ⟨a,b,_⟩|h
   ·unfold tvw;rw [if_pos a,if_pos b];trivial
   ·exact absurd hk h.1
  ·exact hr.node_vw hk
 ·intro x y x' y' u u' v v' hr hr' e1 e2 e3 e4
  have key:∀{x y:Tm} {u v:Int},Qc2 (QnI (fun _ _=>False) 0 0 V) x y→QaL [] x= .var u→QaL [] y= .var v→u=v:=by
   intro x y u v hr e1 e3;obtain ⟨a1,a2⟩:=Q6.1 e1;obtain ⟨b1,b2⟩:=Q6.1 e3;rw [hl] at a1 a2;rw [hl] at b1 b2;rcases hr.cases with ⟨_,_,hv,_⟩|h
   ·rcases hv with hv|⟨i,_,_,h1,h2⟩
    ·exact hv.elim
    ·omega
   ·exact absurd a1 h.1
  have k1:=key hr e1 e3;have k2:=key hr' e2 e4;omega
theorem Qpc (P:List Cl) (q:Ts) (vars fuel:Int):QgB P q vars fuel=Qhy P q vars fuel:=by
 unfold QgB Qhy;by_cases h1:pB P=false∨qB vars q=false
 ·rw [if_pos h1,if_pos h1]
 rw [if_neg h1,if_neg h1];by_cases h2:fuel<0∨150<fuel
 ·rw [if_pos h2,if_pos h2]
 rw [if_neg h2,if_neg h2];have hp:pB P=true:=by cases hh:pB P with|true=>rfl|false=>exact absurd (.inl hh) h1
 have hq:qB vars q=true:=by cases hh:qB vars q with|true=>rfl|false=>exact absurd (.inr hh) h1
 have hq':=hq;simp only [qB,Bool.and_eq_true,decide_eq_true_eq] at hq';obtain ⟨⟨⟨v0,v1⟩,v2⟩,v3⟩:=hq'
 obtain ⟨v,rfl⟩:∃v:Nat,vars=(v:Nat):=⟨vars.toNat,by omega⟩
 obtain ⟨f,rfl⟩:∃f:Nat,fuel=(f:Nat):=⟨fuel.toNat,by omega⟩
 simp only [Int.toNat_natCast];have hq8:v≤8:=by omega
 obtain ⟨hI,hmu⟩:=QeE hq (show f≤150 by omega);have hne:=Qr4 (q:=v) hp 4000 (QaT q v f) hI (by simp [QaT]) Ya
 have hgoes:∀L,Qbq P v (QaT q v f) L→L=QiW P v 4000 (QaT q v f):=fun L ⟨n,e1,e2⟩=>by
  rw [←e1];exact QmL n 4000 _ (by rw [e1];exact e2) hne
 have hmem:∀a∈Qau q 0 0 [],a.2=0:=fun a ha=>by
  rcases Qcr q ha with e|e
  ·exact e
  ·cases e
 have hgl:Al (GlR (QnI (fun _ _=>False) 0 0 (v:Nat)) (fun _=>0)) (QdD q 0 0 []) (Qau q 0 0 []):=Qjw Ya Ya Ya Ya v1 rfl .nil q v3
 have hRl:Rl (QnI (fun _ _=>False) 0 0 (v:Nat)) (fun _=>0) v (QaT q v f) (Qau q 0 0 []) [] ⟨f,v,0,[],false⟩:=by
  refine ⟨rfl,rfl,by simp [QaT],rfl,Bm.start _,fun x hx=>(by cases hx),fun x hx=>(by cases hx),?_,Nat.le_refl _,fun x hx=> .inr ⟨x,by omega,by omega,by omega,by omega⟩,hgl,Qjv .nil (fun a ha=>(by cases ha)) q,fun _ _ _ _ _=>Nat.le_refl _,fun a ha=>⟨Nat.zero_le _,by rw [hmem a ha];exact Nat.le_refl _⟩,hI⟩;rintro u w (hh|⟨i,i0,i1,rfl,rfl⟩)
  ·exact hh.elim
  ·show i+0<((v:Nat):Int)∧i+0<((v:Nat):Int);omega
 obtain ⟨hRs,hm⟩:=QpB hp hq8 f _ _ _ _ _ _ hRl (Nat.le_refl _);generalize Qj P v f (Qau q 0 0 []) [] ⟨f,v,0,[],false⟩=r at hRs hm⊢
 cases hen:r.2.ended with
 |true=>
  rw [if_pos rfl,hgoes _ (hRs.en hen)]
 |false=>
  rw [if_neg Yg];obtain ⟨t,b1,b2,b3,b4,b5,b6,b7,b8,b9⟩:=hRs.go hen
  have hch:t.ch=[]:=by
   rw [b2];unfold QjK;split
   ·rfl
   ·simp [QaT]
  have ha:QV t=(2,t):=by
   unfold QV QaH;rw [hch]
  have hr:QhP P v t (Qce t.ev++[(2,.nil)]):= .inr ⟨by rw [ha];show (2:Int)≠0;decide,by rw [ha]⟩;rw [b4,hgoes _ (b9 _ hr)]
def Ts.same:Ts→Ts→Bool
 | .nil,.nil=>true
 | .cons k n s ar r,.cons k' n' s' ar' r'=>decide (k=k')&&decide (n=n')&&decide (s=s')&&ar.same ar'&&r.same r'
 |_,_=>false
theorem Ts.same_iff (T:Ts):∀U:Ts,T.same U=true↔T=U:=by
 induction T with
 |nil=>intro U;cases U<;>simp [same]
 |cons k n s ar r iha ihr=>
  intro U
  cases U with
  |nil=>simp [same]
  |cons k' n' s' ar' r'=>simp [same,iha,ihr,and_assoc]
def Qdm (k n:Int) (s:ByteArray) (ar:Ts) (k' n':Int) (s':ByteArray) (ar':Ts):Bool:=decide (k=k')&&decide (n=n')&&decide (s=s')&&ar.same ar'
def QdG (W:World) (T U:Ts) (g:Nat) (s37:Value) (wr:World):Prop:=
 ∃D R R':Ts,T=D.app R∧U=D.app R'∧R.length=R'.length∧g=R.length∧s37= .int .i64 D.length∧Below W.heap.size W wr
theorem Qka {k n:Int} {s:ByteArray} {ar:Ts} {k' n':Int} {s':ByteArray} {ar':Ts}:Qdm k n s ar k' n' s' ar'=true↔k=k'∧n=n'∧s=s'∧ar=ar':=by
 simp [Qdm,Ts.same_iff,and_assoc]
theorem Ts.app_inj {D R R':Ts} (h:D.app R=D.app R'):R=R':=by
 induction D with
 |nil=>exact h
 |cons k n s ar r _ ih=>simp only [Ts.app,Ts.cons.injEq] at h;exact ih h.2.2.2.2
theorem Ts.same_stop {T U D r1 r2 a1 a2:Ts} {k1 n1 k2 n2:Int} {s1 s2:ByteArray} (hT:T=D.app (.cons k1 n1 s1 a1 r1)) (hU:U=D.app (.cons k2 n2 s2 a2 r2))
  (h:Qdm k1 n1 s1 a1 k2 n2 s2 a2=false):T.same U=false:=by
 rw [Bool.eq_false_iff,ne_eq,Ts.same_iff,hT,hU];intro e;have:=Ts.app_inj e;simp only [Ts.cons.injEq] at this;rw [Bool.eq_false_iff,ne_eq,Qka] at h;exact h ⟨this.1,this.2.1,this.2.2.1,this.2.2.2.1⟩
theorem QdG.step {W wr w2:World} {T U D r1 r2 a1 a2:Ts} {k1 n1 k2 n2:Int} {s1 s2:ByteArray} (hT:T=D.app (.cons k1 n1 s1 a1 r1)) (hU:U=D.app (.cons k2 n2 s2 a2 r2))
  (hR:(Ts.cons k1 n1 s1 a1 r1).length=(Ts.cons k2 n2 s2 a2 r2).length) (h:Qdm k1 n1 s1 a1 k2 n2 s2 a2=true) (hb:Below W.heap.size W wr) (hb2:Below wr.heap.size wr w2):
  QdG W T U r1.length (.int .i64 ((D.length:Int)+1)) w2:=by
 obtain ⟨rfl,rfl,rfl,rfl⟩:=Qka.1 h;refine ⟨D.app (.cons k1 n1 s1 a1 .nil),r1,r2,by rw [hT,Ts.app_assoc];rfl,by rw [hU,Ts.app_assoc];rfl,by simpa [Ts.length] using hR,rfl,?_,hb.trans (hb2.mono hb.size)⟩;rw [Ts.length_app];rfl
end Go.Proofs.YthliapbflkfdiacGreatDoor
namespace Go.Proofs.YthliapbflkfdiacGreatDoor.R
open Go.RowKit
set_option maxRecDepth 100000
def Qgo (T U : Ts) : Prop := ∀ (k n : Int) (s : ByteArray) (v : Value) (k' n' : Int) (s' : ByteArray) (v' : Value) (w : World), Sl w (fun _ => True) v T → Sl w (fun _ => True) v' U → T.nodes ≤ 1073741824 → U.nodes ≤ 1073741824 →
    Calls Tryz.prog 64 #[.agg #[.int .i64 k,.int .i64 n,.string s,v],.agg #[.int .i64 k',.int .i64 n',.string s',v']] w fun e w'=>e= .returned (.bool (Qdm k n s T k' n' s' U))∧Below w.heap.size w w'
set_option maxHeartbeats 400000 in
theorem QlA (m:Nat) (ih:∀T U:Ts,T.nodes<m→Qgo T U) (T U:Ts) (hm:T.nodes≤m):Qgo T U:=by
 intro k n s v k' n' s' v' w hv hv' hT hU;obtain ⟨A,c,rfl,hs⟩:=hv.form;obtain ⟨A',c',rfl,hs'⟩:=hv'.form;have hle:=T.length_le;by_cases hk:k≠k'
 ·have r:Qdm k n s T k' n' s' U=false:=by simp [Qdm,hk]
  rw [r];have hk':(k !=k')=true:=by simp [hk]
  clear r hk;go_enter Tryz.func64,Tryz.ntmps64;go_wp2_with fail;go_ret;exact ⟨rfl,((Below.refl _ _).alloc (Nat.le_refl _) _).alloc (by simp) _⟩
 obtain rfl:k=k':=by simpa using hk
 by_cases hn:n≠n'
 ·have r:Qdm k n s T k n' s' U=false:=by simp [Qdm,hn]
  rw [r];have hn':(n !=n')=true:=by simp [hn]
  clear r hk hn;go_enter Tryz.func64,Tryz.ntmps64;go_wp2_with fail;go_ret;exact ⟨rfl,((Below.refl _ _).alloc (Nat.le_refl _) _).alloc (by simp) _⟩
 obtain rfl:n=n':=by simpa using hn
 by_cases hs0:s≠s'
 ·have r:Qdm k n s T k n s' U=false:=by simp [Qdm,hs0]
  rw [r];have hs1:(s.toList==s'.toList)=false:=by simp [QgA,hs0]
  clear r hk hn hs0;go_enter Tryz.func64,Tryz.ntmps64;go_wp2_with fail;go_ret;exact ⟨rfl,((Below.refl _ _).alloc (Nat.le_refl _) _).alloc (by simp) _⟩
 obtain rfl:s=s':=by simpa using hs0
 by_cases hl:T.length≠U.length
 ·have r:Qdm k n s T k n s U=false:=by
   have:T.same U=false:=by
    rw [Bool.eq_false_iff,ne_eq,Ts.same_iff];exact fun e=>hl (by rw [e])
   simp [Qdm,this]
  rw [r]
  have hl':((T.length:Int) !=(U.length:Int))=true:=by rw [bne_iff_ne];omega
  clear r hk hn hs0;go_enter Tryz.func64,Tryz.ntmps64;go_wp2_with fail;go_ret;exact ⟨rfl,((Below.refl _ _).alloc (Nat.le_refl _) _).alloc (by simp) _⟩
 have hl':((T.length:Int) !=(U.length:Int))=false:=by rw [bne_eq_false_iff_eq];omega
 have r:Qdm k n s T k n s U=T.same U:=by simp [Qdm]
 rw [r];have HL:Hid (T.length=U.length):=Lib.hid (by simpa using hl);clear r hk hn hs0 hl
 have h0:QdG ((w.alloc (.cells #[.int .i64 k,.int .i64 n,.string s,.slice A T.length c] 63)).alloc (.cells #[.int .i64 k,.int .i64 n,.string s,.slice A' U.length c'] 63)) T U T.length (.int .i64 0)
   ((w.alloc (.cells #[.int .i64 k,.int .i64 n,.string s,.slice A T.length c] 63)).alloc (.cells #[.int .i64 k,.int .i64 n,.string s,.slice A' U.length c'] 63)):=
  ⟨.nil,T,U,rfl,rfl,HL.out,rfl,rfl,Below.refl _ _⟩
 have hW:Below w.heap.size w ((w.alloc (.cells #[.int .i64 k,.int .i64 n,.string s,.slice A T.length c] 63)).alloc (.cells #[.int .i64 k,.int .i64 n,.string s,.slice A' U.length c'] 63)):=
  ((Below.refl _ _).alloc (Nat.le_refl _) _).alloc (by simp) _
 go_enter Tryz.func64,Tryz.ntmps64;go_wp2_with fail;go_loopg [37] T.length (QdG ((w.alloc (.cells #[.int .i64 k,.int .i64 n,.string s,.slice A T.length c] 63)).alloc (.cells #[.int .i64 k,.int .i64 n,.string s,.slice A' U.length c'] 63)) T U)
 case atStart=>exact h0
 case round=>
  clear h0;obtain ⟨D,R,R',eT,eU,eR,eg,rfl,hb⟩:=hrel;have hbw:Below w.heap.size w wr:=hW.trans (hb.mono (by simp;omega))
  cases R with
  |nil=>
   have e1:D.length=T.length:=by rw [eT,Ts.app_nil]
   have hres:T.same U=true:=by
    rw [Ts.same_iff,eT,eU,Ts.nil_of_length (T:=R') eR.symm]
   have HS:=Lib.hid hres;clear hres eT eU eR eg;go_wp2_with fail;go_ret;exact ⟨by rw [HS.out];rfl,hbw⟩
  |cons k1 n1 s1 a1 r1=>
   cases R' with
   |nil=>simp [Ts.length] at eR
   |cons k2 n2 s2 a2 r2=>
   obtain ⟨f0,f1,f2,f3,ff⟩:=(((QD.new w 63 #[.int .i64 k,.int .i64 n,.string s,.slice A T.length c]).alloc (.cells #[.int .i64 k,.int .i64 n,.string s,.slice A' U.length c'] 63)).below hb).four;obtain ⟨g0,g1,g2,g3,gf⟩:=((QD.new (w.alloc (.cells #[.int .i64 k,.int .i64 n,.string s,.slice A T.length c] 63)) 63 #[.int .i64 k,.int .i64 n,.string s,.slice A' U.length c']).below hb).four;simp only [World.size_alloc] at g3;clear f0 f1 f2 ff g0 g1 g2 gf
   have e1:D.length<T.length:=by rw [eT,Ts.length_app];simp [Ts.length]
   have e2:D.length<U.length:=by rw [eU,Ts.length_app];simp [Ts.length]
   have e3:a1.nodes<m∧a1.nodes≤1073741824:=by rw [eT,Ts.nodes_app] at hm hT;simp [Ts.nodes] at hm hT;omega
   have e4:a2.nodes≤1073741824:=by rw [eU,Ts.nodes_app] at hU;simp [Ts.nodes] at hU;omega
   have hs2:=(hs.below hbw)
   have hs3:=(hs'.below hbw)
   obtain ⟨b1,o1,rfl,hq1⟩:=Sl.at_ (D:=D) (R:= .cons k1 n1 s1 a1 r1) (by rw [←eT];exact hs2) (by simp [Ts.length]);obtain ⟨b2,o2,rfl,hq2⟩:=Sl.at_ (D:=D) (R:= .cons k2 n2 s2 a2 r2) (by rw [←eU];exact hs3) (by simp [Ts.length]);obtain ⟨_,c10,c11,c12,⟨v1,c13,hv1⟩,_⟩:=QL.1 hq1;obtain ⟨_,c20,c21,c22,⟨v2,c23,hv2⟩,_⟩:=QL.1 hq2;have HT:=Lib.hid eT;have HU:=Lib.hid eU;have HG:=Lib.hid eg;have HR:=Lib.hid eR;clear eT eU eg eR hs2 hs3 hq1 hq2;go_wp2_with fail
   go_still_tail 10,(by kernel_rfl)
   change wpList _ _ _ _ _ wr.drew;obtain ⟨A1,d1,rfl,hv1⟩:=hv1.form;obtain ⟨A2,d2,rfl,hv2⟩:=hv2.form;go_wp2_with fail;refine (ih a1 a2 e3.1 k1 n1 s1 _ k2 n2 s2 _ _ ?_ ?_ e3.2 e4).mono ?_
   ·exact hv1.below (QF _ wr 1)
   ·exact hv2.below (QF _ wr 1)
   rintro e w2 ⟨rfl,hb2⟩;have hb3:Below wr.heap.size wr w2:=(QF _ wr 1).trans hb2
   cases hsame:Qdm k1 n1 s1 a1 k2 n2 s2 a2 with
   |false=>
    have hres:T.same U=false:=Ts.same_stop HT.out HU.out hsame;have HS:=Lib.hid hres;clear hres hsame;go_wp2_with fail;go_ret;exact ⟨by rw [HS.out];rfl,hbw.trans (hb3.mono hbw.size)⟩
   |true=>
    have HS:=Lib.hid hsame;clear hsame;go_wp2_with fail;go_roundg r1.length
    case measure=>rw [HG.out];simp [Ts.length]
    case rel=>exact QdG.step HT.out HU.out HR.out HS.out hb hb3
theorem Qpg (T U:Ts):Qgo T U:=by
 have:∀m,∀T U:Ts,T.nodes<m→Qgo T U:=by
  intro m
  induction m with
  |zero=>intro T U h;omega
  |succ m ih=>intro T U h;exact QlA m ih T U (by omega)
 exact this _ T U (Nat.lt_succ_self _)
set_option maxHeartbeats 400000 in
theorem sameTerms_any (T U:Ts) (v v':Value) (w:World) (hv:Sl w (fun _=>True) v T) (hv':Sl w (fun _=>True) v' U) (hT:T.nodes≤1073741824) (hU:U.nodes≤1073741824):
  Calls Tryz.prog 35 #[v,v'] w fun e w'=>e= .returned (.bool (T.same U))∧Below w.heap.size w w':=by
 obtain ⟨A,c,rfl,hs⟩:=hv.form;obtain ⟨A',c',rfl,hs'⟩:=hv'.form;have hle:=T.length_le;by_cases hl:T.length≠U.length
 ·have r:T.same U=false:=by
   rw [Bool.eq_false_iff,ne_eq,Ts.same_iff];exact fun e=>hl (by rw [e])
  rw [r]
  have hl':((T.length:Int) !=(U.length:Int))=true:=by rw [bne_iff_ne];omega
  clear r;go_enter Tryz.func35,Tryz.ntmps35;go_wp2_with fail;go_ret;exact ⟨rfl,Below.refl _ _⟩
 have hl':((T.length:Int) !=(U.length:Int))=false:=by rw [bne_eq_false_iff_eq];omega
 have HL:Hid (T.length=U.length):=Lib.hid (by simpa using hl);clear hl
 have h0:QdG w T U T.length (.int .i64 0) w:=⟨.nil,T,U,rfl,rfl,HL.out,rfl,rfl,Below.refl _ _⟩
 go_enter Tryz.func35,Tryz.ntmps35;go_wp2_with fail;go_loopg [13] T.length (QdG w T U)
 case atStart=>exact h0
 case round=>
  clear h0;obtain ⟨D,R,R',eT,eU,eR,eg,rfl,hb⟩:=hrel
  cases R with
  |nil=>
   have e1:D.length=T.length:=by rw [eT,Ts.app_nil]
   have hres:T.same U=true:=by
    rw [Ts.same_iff,eT,eU,Ts.nil_of_length (T:=R') eR.symm]
   have HS:=Lib.hid hres;clear hres eT eU eR eg;go_wp2_with fail;go_ret;exact ⟨by rw [HS.out];rfl,hb⟩
  |cons k1 n1 s1 a1 r1=>
   cases R' with
   |nil=>simp [Ts.length] at eR
   |cons k2 n2 s2 a2 r2=>
   have e1:D.length<T.length:=by rw [eT,Ts.length_app];simp [Ts.length]
   have e2:D.length<U.length:=by rw [eU,Ts.length_app];simp [Ts.length]
   have e3:a1.nodes≤1073741824:=by rw [eT,Ts.nodes_app] at hT;simp [Ts.nodes] at hT;omega
   have e4:a2.nodes≤1073741824:=by rw [eU,Ts.nodes_app] at hU;simp [Ts.nodes] at hU;omega
   have hs2:=(hs.below hb)
   have hs3:=(hs'.below hb)
   obtain ⟨b1,o1,rfl,hq1⟩:=Sl.at_ (D:=D) (R:= .cons k1 n1 s1 a1 r1) (by rw [←eT];exact hs2) (by simp [Ts.length]);obtain ⟨b2,o2,rfl,hq2⟩:=Sl.at_ (D:=D) (R:= .cons k2 n2 s2 a2 r2) (by rw [←eU];exact hs3) (by simp [Ts.length]);obtain ⟨_,c10,c11,c12,⟨v1,c13,hv1⟩,_⟩:=QL.1 hq1;obtain ⟨_,c20,c21,c22,⟨v2,c23,hv2⟩,_⟩:=QL.1 hq2;have HT:=Lib.hid eT;have HU:=Lib.hid eU;have HG:=Lib.hid eg;have HR:=Lib.hid eR;clear eT eU eg eR hs2 hs3 hq1 hq2;go_wp2_with fail
   go_still_tail 8,(by kernel_rfl)
   change wpList _ _ _ _ _ wr.drew;obtain ⟨A1,d1,rfl,hv1⟩:=hv1.form;obtain ⟨A2,d2,rfl,hv2⟩:=hv2.form;go_wp2_with fail;refine (Qpg a1 a2 k1 n1 s1 _ k2 n2 s2 _ _ ?_ ?_ e3 e4).mono ?_
   ·exact hv1.below (QF _ wr 1)
   ·exact hv2.below (QF _ wr 1)
   rintro e w2 ⟨rfl,hb2⟩;have hb3:Below wr.heap.size wr w2:=(QF _ wr 1).trans hb2
   cases hsame:Qdm k1 n1 s1 a1 k2 n2 s2 a2 with
   |false=>
    have hres:T.same U=false:=Ts.same_stop HT.out HU.out hsame;have HS:=Lib.hid hres;clear hres hsame;go_wp2_with fail;go_ret;exact ⟨by rw [HS.out];rfl,hb.trans (hb3.mono hb.size)⟩
   |true=>
    have HS:=Lib.hid hsame;clear hsame;go_wp2_with fail;go_roundg r1.length
    case measure=>rw [HG.out];simp [Ts.length]
    case rel=>exact QdG.step HT.out HU.out HR.out HS.out hb hb3
end Go.Proofs.YthliapbflkfdiacGreatDoor.R
namespace Go.Proofs.YthliapbflkfdiacGreatDoor
open Go.RowKit
set_option linter.unusedVariables false
set_option linter.unusedSimpArgs false
set_option maxRecDepth 100000
set_option maxHeartbeats 1000000
theorem QgI (L K:List KE) (A B:Option Addr) (c d:Nat) (w:World) (hL:KER L A c w) (hK:KER K B d w) (hev:L.map KE.ev=K.map KE.ev) (hl:L.length≤1000) (hn:∀x∈L,x.T.ts.nodes≤1073741824):
  Calls Tryz.prog 16 #[.slice A L.length c,.slice B K.length d] w fun e w'=>e= .returned (.bool true)∧Below w.heap.size w w':=by
 have hS:=St.start w
 have hlk:K.length=L.length:=by have:=congrArg List.length hev;simpa using this.symm
 rw [hlk];refine Qo Tryz.func16 rfl Tryz.ntmps16 rfl ?_;refine Zx ?_;refine ZO ?_;refine ZbQ ?_;refine Zo ?_;refine ZZ ?_;refine ZN ?_;refine Qr 13 (14::15::5::16::17::18::19::20::21::22::23::24::25::26::27::28::29::30::31::32::33::34::35::36::37::38::39::40::4::41::[]) (fun (R:List KE) v w'=>St [] w [] [] w'∧∃D D' R',L=D++R∧K=D'++R'∧D'.length=D.length∧R.map KE.ev=R'.map KE.ev∧v= .int .i64 (D.length:Nat)) (fun R=>R.length) (L) ?_ Yb ?_
 ·exact ⟨hS,[],[],K,rfl,rfl,rfl,hev,rfl⟩
 clear hS;rintro R2 v2 w6 jv2 ⟨hS,D,D',R',hD,hD',hDD,hRR,rfl⟩ ih
 have hlen2:L.length=D.length+R2.length:=by rw [hD];simp
 cases R2 with
 |nil=>
  simp only [List.length_nil] at hlen2;refine ZcT ?_;refine Qg Tryz.func16 rfl Yb ?_;exact ⟨rfl,hS.ext.below⟩
 |cons x r=>
  cases R' with
  |nil=>simp at hRR
  |cons y r'=>
  simp only [List.length_cons] at hlen2;simp only [List.map_cons,List.cons.injEq] at hRR;obtain ⟨hxy,hrr⟩:=hRR;obtain ⟨b6,o6,rfl⟩:=hL.some_ Ya;obtain ⟨b8,o8,rfl⟩:=hK.some_ Ya;have hL':=hL;have hK':=hK;rw [hD] at hL';rw [hD'] at hK';obtain ⟨p0,p1⟩:=hL'.cells;obtain ⟨q0,q1⟩:=hK'.cells;have px:=hL'.2.2 x Yd;have py:=hK'.2.2 y Yd;clear hL' hK';rw [hDD] at q0 q1;have hk:y.k=x.k:=(congrArg Prod.fst hxy).symm;have ht:y.T.ts=x.T.ts:=(congrArg Prod.snd hxy).symm;rw [hk] at q0;have hno:=hn x (by rw [hD];simp)
  have hsames:∀w',St [] w [] [] w'→Calls Tryz.prog 35 #[.slice x.A x.T.len x.c,.slice y.A y.T.len y.c] w' fun e w''=>e= .returned (.bool true)∧Below w'.heap.size w' w'':=by
   intro w' h;have:=R.sameTerms_any x.T.ts y.T.ts _ _ w' (px.sl.below h.ext.below) (py.sl.below h.ext.below) hno (by rw [ht];exact hno);rw [(Ts.same_iff _ _).2 ht.symm] at this;exact this
  refine Zax ?_;refine Zp ?_;refine QY (St [] w [] []) 25 ((0,true)::(1,true)::(2,true)::(3,true)::(4,true)::(5,true)::(6,true)::(7,true)::(8,true)::(9,true)::(10,true)::(11,true)::(12,true)::(13,true)::(14,true)::(15,true)::(16,true)::(17,true)::(18,true)::(19,true)::(20,true)::(21,true)::(22,false)::(23,true)::(24,true)::[]) Yc Yc (hS.drew) ?_;replace hS:=hS.drew;refine Za7 ?_;refine Qd rfl (fun _ hS=>QA (sz:=2) rfl rfl rfl rfl Ya Ya) rfl ?_;refine Z1 ?_;refine Zac ?_;refine Za7 ?_;refine Qd rfl (fun _ hS=>QA (sz:=2) rfl rfl rfl rfl Ya Ya) rfl ?_;refine Z1 ?_;refine Zac ?_
  first
   |refine Qd rfl (fun _ hS=>Qb5 rfl rfl) rfl ?_
   |refine Qd rfl (fun _ hS=>Qh3 rfl rfl Yan) rfl ?_
   |refine Qd rfl (fun _ hS=>QgL rfl rfl Ya) rfl ?_
   |refine Qd rfl (fun _ hS=>rfl) rfl ?_
  refine ZD ?_;refine Zeh ?_;refine Zeh ?_;refine ZgK ?_;refine QC rfl rfl rfl (fun _ hS=>Qf (off:=1) rfl rfl) rfl ?_;refine Zdj ?_;refine Zeh ?_;refine Zeh ?_;refine ZgK ?_;refine QC rfl rfl rfl (fun _ hS=>Qf (off:=1) rfl rfl) rfl ?_;refine Zdj ?_;refine ZW ?_;refine Zi ?_;refine Zj ?_;refine Calls.mono (hsames _ hS) ?_;rintro _ w8 ⟨rfl,hb8⟩;refine Za ?_;replace hS:=hS.grow hb8;refine Qhc hS ?_;refine QC rfl rfl rfl (fun _ hS=>rfl) rfl ?_;refine ZbN ?_;refine ZaK ?_;refine ih (r) _ _ _ ?_ ?_ Yb Yc
  ·simp
  ·exact ⟨hS,D++[x],D'++[y],r',by rw [hD,List.append_assoc];rfl,by rw [hD',List.append_assoc];rfl,by simp [hDD],hrr,by simp⟩
def okV (V:Int) (t:Tm):Prop:=(Ts.cons t.k t.n t.s t.ar .nil).good V=true
theorem good_one (V:Int) (k n:Int) (s:ByteArray) (a r:Ts):(Ts.cons k n s a r).good V=((Ts.cons k n s a .nil).good V&&r.good V):=by simp [Ts.good]
theorem Qky {V:Int} {g:Tm→Nat→Option (Tm×Nat)} (hg:∀t l p,okV V t→g t l=some p→okV V p.1):∀(T:Ts) (l:Nat) (p:Ts×Nat),T.good V=true→QjH g T l=some p→p.1.good V=true∧p.1.length=T.length
 | .nil,l,p,_,h=>by
  simp only [QjH,Option.some.injEq] at h;subst h;exact ⟨rfl,rfl⟩
 | .cons k n s a r,l,p,hT,h=>by
  rw [good_one,Bool.and_eq_true] at hT;rw [Qkz] at h
  cases h1:g ⟨k,n,s,a⟩ l with
  |none=>rw [h1] at h;cases h
  |some q=>
   rw [h1,Option.bind_some] at h
   cases h2:QjH g r q.2 with
   |none=>rw [h2] at h;cases h
   |some x=>
    rw [h2,Option.map_some,Option.some.injEq] at h;subst h;obtain ⟨i1,i2⟩:=Qky hg r q.2 x hT.2 h2;have:=hg ⟨k,n,s,a⟩ l q hT.1 h1;refine ⟨?_,by simp only [Ts.length,i2]⟩;rw [good_one,Bool.and_eq_true];exact ⟨this,i1⟩
theorem Qny {V:Int} {B:Bnd} (hB:∀x∈B,okV V x.2):∀(f:Nat) (t:Tm) (l:Nat) (p:Tm×Nat),okV V t→Qlb B f t l=some p→okV V p.1
 |0,t,l,p,_,h=>by cases h
 |f+1,t,l,p,ht,h=>by
  have hl:=Qc7 (Q:=okV V) hB ht;rw [Qla] at h;by_cases h0:l=0
  ·rw [if_pos h0] at h;cases h
  ·rw [if_neg h0] at h
   cases h1:QjH (Qlb B f) (Qc B t).ar (l-1) with
   |none=>rw [h1] at h;cases h
   |some q=>
    rw [h1,Option.map_some,Option.some.injEq] at h;subst h;unfold okV at hl⊢;simp only [Ts.good,Bool.and_eq_true] at hl⊢;obtain ⟨i1,i2⟩:=Qky (fun t l p h1 h2=>Qny hB f t l p h1 h2) _ _ _ hl.1.2 h1;exact ⟨⟨by rw [i2];exact hl.1.1,i1⟩,trivial⟩
theorem QhV {B:Bnd} (hB:∀x∈B,okV 549755813888 x.2):∀(m v l:Nat) (p:Ts×Nat),v+m≤1000→QbL B m v l=some p→p.1.good 549755813888=true
 |0,v,l,p,_,h=>by
  simp only [QbL,Option.some.injEq] at h;subst h;rfl
 | m + 1, v, l, p, hv, h => by
  rw [QhU] at h
  cases h1:Qlb B 201 ⟨0,v,⟨#[]⟩,.nil⟩ l with
  |none=>rw [h1] at h;cases h
  |some q=>
   rw [h1,Option.bind_some] at h
   cases h2:QbL B m (v+1) q.2 with
   |none=>rw [h2] at h;cases h
   |some x=>
    rw [h2,Option.map_some,Option.some.injEq] at h;subst h
    have h3:okV 549755813888 ⟨0,v,⟨#[]⟩,.nil⟩:=by
     unfold okV;simp only [Ts.good,Bool.and_eq_true,and_true];unfold Qai;rw [if_pos rfl];simp only [Bool.and_eq_true,decide_eq_true_eq];exact ⟨⟨⟨by omega,by omega⟩,Q7 []⟩,rfl⟩
    have:=Qny hB 201 _ l q h3 h1;show (Ts.cons _ _ _ _ x.1).good _=true;rw [good_one,Bool.and_eq_true];exact ⟨this,QhV hB m (v+1) q.2 x Ya h2⟩
theorem Qs4 (ks:List Int) (n:Int):(QjG ks n).length≤ks.length+1∧ks.length≤(QjG ks n).length:=by
 unfold QjG;split
 ·omega
 ·simp
theorem Qs3 (ks:List Int) (n:Int):0≤Qll ks n∧Qll ks n≤ks.length:=by
 unfold Qll
 cases h:pos n ks with
 |none=>simp
 |some j=>have:=Qr6 h;simp;omega
theorem Qo5 {V:Int} (u:Nat) (T:Ts):∀ks:List Int,T.good V=true→ks.length+T.nodes≤u→(T.tidyFrom ks).1.good u=true∧(T.tidyFrom ks).2.length≤ks.length+T.nodes∧(T.tidyFrom ks).1.length=T.length∧(T.tidyFrom ks).1.nodes=T.nodes:=by
 induction T with
 |nil=>intro ks _ _;exact ⟨rfl,Nat.le_refl _,rfl,rfl⟩
 |cons k n s ar r iha ihr=>
  intro ks hg hu;simp only [Ts.good,Bool.and_eq_true] at hg;simp only [Ts.nodes] at hu
  have hl:(tS k n ks).length≤ks.length+1:=by
   unfold tS;split
   ·exact (Qs4 ks n).1
   ·omega
  obtain ⟨a1,a2,a3,a4⟩:=iha (tS k n ks) hg.1.2 Ya;obtain ⟨b1,b2,b3,b4⟩:=ihr (ar.tidyFrom (tS k n ks)).2 hg.2 Ya;rw [Ts.tidyFrom_cons];refine ⟨?_,?_,?_,?_⟩
  ·simp only [Ts.good,Bool.and_eq_true];refine ⟨⟨?_,a1⟩,b1⟩;rw [a3];have hn:=hg.1.1;unfold Qai at hn⊢;unfold tV;by_cases e:k=0
   ·rw [if_pos e] at hn⊢;rw [if_pos e];simp only [Bool.and_eq_true,decide_eq_true_eq] at hn⊢;have:=Qs3 ks n;exact ⟨⟨⟨this.1,by omega⟩,hn.1.2⟩,hn.2⟩
   ·rw [if_neg e] at hn⊢;rw [if_neg e];exact hn
  ·simp only [Ts.nodes];omega
  ·simp only [Ts.length,b3]
  ·simp only [Ts.nodes,a4,b4]
def QrZ (vars:Nat) (T:Ts):Prop:=T.length=vars∧T.nodes≤200∧T.good 200=true
theorem QtO {s:SS} {vars:Nat} (hI:Qd4 s) (hv:vars≤8) {T:Ts} {l:Nat} (h:QbL s.B vars 0 200=some (T,l)):QrZ vars T.tidy:=by
 obtain ⟨h1,h2⟩:=Qgu _ _ _ _ h;have h3:=QhV (fun x hx=>(hI.gb x hx).1) vars 0 200 _ Ya h;dsimp only at h1 h2 h3;obtain ⟨g1,g2,g3,g4⟩:=Qo5 200 T [] h3 Yh;exact ⟨g3.trans h2,by show (T.tidyFrom []).1.nodes≤200;omega,g1⟩
theorem QdX {s:SS} (h:Qd4 s):(QV s).1=0∨(QV s).1=2∨(QV s).1=4:=(QbD h).2.2
theorem Qiz {s:SS} {a t:Tm} (hI:Qd4 s) (hsl:s.B.length+10100*(mu s+1)≤1000000000) (ha:tgd a) (ht:tgd t):(Qbm a t s).1=0∨(Qbm a t s).1=2∨(Qbm a t s).1=4:=by
 have hi:=QcO hI hsl ha ht;unfold Qbm;simp only;split
 ·exact .inr (.inr rfl)
 split
 ·exact .inl rfl
 ·exact QdX hi
structure QtR (vars:Nat) (s:SS) (r:List Ev) (l:List Ts) (k:Int):Prop where
 eq:r=Qce l++[(k,.nil)]
 ans:∀T∈l,QrZ vars T
 kind:2≤k∧k≤6
 more:∃m,l=s.ev++m
 six:(k=6↔l.length=12)∧l.length≤12
theorem Qrb (p : List Cl) (vars : Nat) (s : SS) (hI : Inv s) (hev : s.ev.length < 12) (hp : pB p = true) : (Q4 p vars s).1 = 6 ↔ (Q4 p vars s).2.ev.length = 12 := by
 rcases Qf5 p vars s hI hp with h|⟨T,l,hv,h,h6⟩
 ·rw [h];constructor
  ·intro e;exfalso
   -- no step but an answer ends so
   have hp2:p.length≤24∧∀x∈p,cB x=true:=by
    unfold pB at hp;simp only [Bool.and_eq_true,decide_eq_true_eq,List.all_eq_true] at hp;exact hp
   unfold Q4 at e h
   cases hg:s.goals with
   |nil=>
    rw [hg] at e h;simp only at e h;unfold QcC at e h
    cases hv:QbL s.B vars 0 200 with
    |none=>rw [hv] at e;cases e
    |some x=>
     rw [hv] at e h;simp only at e h
     have hi:Qd4 ⟨s.B,s.fresh,s.fuel,s.goals,s.ch,s.ev++[x.1.tidy]⟩:=⟨hI.c.bok,hI.c.gb,hI.c.ch,hI.c.fr,hI.c.bl⟩
     split at h
     ·have:=congrArg List.length h;simp at this
     ·rw [(QbD hi).2.1] at h;have:=congrArg List.length h;simp at this
   |cons g rest=>
    rw [hg] at e;simp only at e;split at e
    ·cases e
    rename_i hf;obtain ⟨h1,h2,h3,h4,h5,h6,h7⟩:=Qb0 hI hg hf;split at e
    ·rename_i hb;have hd:=Qac _ h6;unfold QM at hb;unfold Qcq at e;split at e
     ·cases e
     rename_i k1;rw [if_neg k1] at hb;split at e
     ·cases e
     rename_i k2;rw [if_neg k2] at hb;split at e
     ·rename_i k3;rw [if_neg Yat,if_pos k3] at hb;have hl:g.1.ar.length=2:=by simpa using hb
      rcases Qiz h1 h2 (hd _ (Ts.at_mem (i:=0) Ya)) (hd _ (Ts.at_mem (i:=1) Ya)) with q|q|q<;>rw [q] at e<;>cases e
     split at e
     ·unfold QhM at e;simp only at e;split at e
      ·cases e
      split at e
      ·rcases QdX h1 with q|q|q<;>rw [q] at e<;>cases e
      ·cases e
     split at e
     ·rename_i k5;rw [if_neg Yac,if_neg Yac,if_neg Yac,if_pos k5] at hb;have hl:g.1.ar.length=3:=by simpa using hb
      unfold QqZ at e;simp only at e;split at e
      ·cases e
      split at e
      ·cases e
      ·rename_i hr
       have tn:tgd ⟨2,(Qc s.B (g.1.ar.at_ 0)).n+(Qc s.B (g.1.ar.at_ 1)).n,⟨#[]⟩,.nil⟩:=by
        refine ⟨?_,by simp [Ts.nodes]⟩;simp only [Ts.good,Bool.and_eq_true,and_true];unfold Qai;rw [if_neg Yg,if_neg Yg,if_pos rfl];simp only [Bool.and_eq_true,decide_eq_true_eq];exact ⟨⟨⟨by omega,by omega⟩,Q7 []⟩,rfl⟩
       rcases Qiz h1 h2 (hd _ (Ts.at_mem (i:=2) Ya)) tn with q|q|q<;>rw [q] at e<;>cases e
     ·rcases QdX h1 with q|q|q<;>rw [q] at e<;>cases e
    ·cases hm:p.filter (QbX g.1) with
     |nil=>rw [hm] at e;cases e
     |cons c cs=>
      rw [hm] at e;simp only at e;have hsub:∀x∈c::cs,cB x=true:=fun x hx=>hp2.2 x Yal
      have hlen:(c::cs).length≤24:=by rw [←hm];exact Nat.le_trans (List.length_filter_le _ _) hp2.1
      obtain ⟨i1,i2⟩:=QeK hI hg hf hsub hlen;rcases QdX i1 with q|q|q<;>rw [q] at e<;>cases e
  ·intro e;omega
 ·rw [h6,h];simp
theorem Qr3 (p:List Cl) (vars:Nat) (hp:pB p=true) (hv:vars≤8):∀(n:Nat) (s:SS),Inv s→s.ev.length<12→mu s<n→(∀T∈s.ev,QrZ vars T)→∃l k,QtR vars s (QiW p vars n s) l k
 |0,s,_,_,h,_=>by omega
 | n + 1, s, hI, hev, hmu, ha => by
  obtain ⟨hst,hst2⟩:=Qfe (vars:=vars) hI hev hp;have hsix:=Qrb p vars s hI hev hp;have hle:=Qpb p vars s hI hev hp
  have hext:∃m,(Q4 p vars s).2.ev=s.ev++m:=by
   rcases Qf5 p vars s hI hp with h|⟨T,l,_,h,_⟩
   ·exact ⟨[],by rw [h];simp⟩
   ·exact ⟨[T.tidy],h⟩
  have ha2:∀T∈(Q4 p vars s).2.ev,QrZ vars T:=by
   rcases Qf5 p vars s hI hp with h|⟨T,l,hT,h,_⟩
   ·rw [h];exact ha
   ·rw [h];intro X hX;rcases List.mem_append.1 hX with hX|hX
    ·exact ha X hX
    ·obtain rfl:X=T.tidy:=by simpa using hX
     exact QtO hI.c hv hT
  rw [Qpq];by_cases h0:(Q4 p vars s).1=0
  ·rw [if_pos h0];obtain ⟨l,k,hr⟩:=Qr3 p vars hp hv n _ (hst.go h0).1 (hst2 h0) (by have:=(hst.go h0).2;omega) ha2;obtain ⟨m1,e1⟩:=hext;obtain ⟨m2,e2⟩:=hr.more;exact ⟨l,k,hr.eq,hr.ans,hr.kind,⟨m1++m2,by rw [e2,e1,List.append_assoc]⟩,hr.six⟩
  ·rw [if_neg h0];have hk:=hst.kind;exact ⟨_,_,rfl,ha2,by omega,hext,hsix,hle⟩
theorem Qsr {p:List Cl} {q:Ts} {vars fuel:Int} (h:(Qhy p q vars fuel).2=0):pB p=true∧qB vars q=true∧0≤vars∧vars≤8∧0≤fuel∧fuel≤150∧Qhy p q vars fuel=(QiW p vars.toNat 4000 (QaT q vars.toNat fuel.toNat),0)∧Inv (QaT q vars.toNat fuel.toNat)∧mu (QaT q vars.toNat fuel.toNat)≤3750:=by
 unfold Qhy at h⊢;split at h
 ·cases h
 rename_i h1;split at h
 ·cases h
 rename_i h2
 have hp:pB p=true:=by cases hb:pB p with
  |true=>rfl
  |false=>exact absurd (.inl hb) h1
 have hq:qB vars q=true:=by cases hb:qB vars q with
  |true=>rfl
  |false=>exact absurd (.inr hb) h1
 have hq2:=hq;simp only [qB,Bool.and_eq_true,decide_eq_true_eq] at hq2;rw [if_neg h1,if_neg h2];obtain ⟨i1,i2⟩:=QeE (q:=q) (vars:=vars.toNat) (fuel:=fuel.toNat) (by rw [Int.toNat_of_nonneg hq2.1.1.1];exact hq) Ya;exact ⟨hp,hq,by omega,by omega,by omega,by omega,rfl,i1,i2⟩
theorem QoG {p:List Cl} {q:Ts} {vars fuel:Int} (h:(Qhy p q vars fuel).2=0):∃l k,QtR vars.toNat (QaT q vars.toNat fuel.toNat) (Qhy p q vars fuel).1 l k:=by
 obtain ⟨hp,hq,v0,v1,f0,f1,e,hI,hm⟩:=Qsr h;rw [e];exact Qr3 p vars.toNat hp Ya 4000 _ hI (by simp [QaT]) Ya (fun T hT=>by simp [QaT] at hT)
theorem Qtn {p:List Cl} {q:Ts} {vars fuel:Int} (h:(Qhy p q vars fuel).2≠0):(Qhy p q vars fuel).1=[]:=by
 unfold Qhy at h⊢;split
 ·rfl
 split
 ·rfl
 ·rename_i h1 h2;rw [if_neg h1,if_neg h2] at h;exact absurd rfl h
theorem Qtm (p:List Cl) (q:Ts) (vars fuel:Int):(Qhy p q vars fuel).1.length≤1000∧∀x∈(Qhy p q vars fuel).1,x.2.nodes≤1073741824:=by
 by_cases h:(Qhy p q vars fuel).2=0
 ·obtain ⟨l,k,h1⟩:=QoG h;rw [h1.eq];have h6:=h1.six.2;refine ⟨by simp [Qce];omega,fun x hx=> ?_⟩;rcases List.mem_append.1 hx with hx|hx
  ·obtain ⟨T,hT,rfl⟩:=List.mem_map.1 hx;have:=(h1.ans T hT).2.1;show T.nodes≤_;omega
  ·rw [List.mem_singleton.1 hx];simp [Ts.nodes]
 ·rw [Qtn h];exact ⟨by simp,fun x hx=>by cases hx⟩
theorem St.locatedC {M:List Nat} {w0 w w':World} {H:List (Nat×Obj)} {F:List (World→Prop)} {v:Value} {L:List Cl} (hS:St M w0 H F w) (hb:Below w.heap.size w w') (h:SlC w' (fun b=>w.heap.size≤b) v L):∃(A:Option Addr) (c:Nat) (X:List LC),v= .slice A X.length c∧X.map LC.cl=L∧St M w0 H (Qes X A c::F) w':=by
 obtain ⟨A,c,X,h1,h2,h3⟩:=h.locate;refine ⟨A,c,X,h1,h2,(hS.grow hb).learn fun w2 hx=>h3 w2 fun k hk hl=>hx.block k hl fun hm=> ?_⟩;have:=hS.keys_lt hm;omega
theorem Qob:∀L:List Cl,L.length≤QaI L:=QeN
theorem QdM (T:Ts) (h:T.nodes≤1048576):T.length≤9223372036854775807∧T.wide:=⟨by have:=Ts.length_le T;omega,Ts.wide_of T Ya⟩
theorem QiA:∀L:List Cl,QaI L≤1048576→Qmo L
 |[],_=>fun c hc=>by cases hc
 |x::r,h=>by
  simp only [QaI,Cl.nodes] at h;intro c hc;rcases List.mem_cons.1 hc with rfl|hc
  ·obtain ⟨a1,a2⟩:=QdM c.hd Ya;obtain ⟨b1,b2⟩:=QdM c.bd Ya;exact ⟨a1,a2,b1,b2⟩
  ·exact QiA r Ya c hc
theorem Qg2 {l:List Value} {v:Value}:∀{i:Nat},i<l.length→Put l i v (l.set i v):=by
 induction l with
 |nil=>intro i h;simp at h
 |cons u l ih=>
  intro i h
  cases i with
  |zero=>exact .z
  |succ i=>exact .s (ih YY)
theorem QgD (c:HC) (r:List HC) (i:Nat) (x:Int):Qd1 (c::r) (i+1) x=c::Qd1 r i x:=by simp [Qd1]
theorem QgC (c:HC) (r:List HC) (x:Int):Qd1 (c::r) 0 x=⟨c.k,x,c.s⟩::r:=by simp [Qd1]
theorem QmJ (i:Nat) (x:Int):Qd1 [] i x=[]:=by simp [Qd1]
theorem Qby (L:List HC) (i:Nat) (x:Int):(Qd1 L i x).length=L.length:=by simp [Qd1]
theorem Qnf:∀(L:List HC) (i:Nat) (x:Int),(Qab L).set (i*3+1) (.int .i64 x)=Qab (Qd1 L i x)
 |[],i,x=>by simp [QmJ,Qab]
 |c::r,0,x=>by rw [QgC];rfl
 |c::r,i+1,x=>by
  rw [QgD,show (i+1)*3+1=(i*3+1)+3 by omega];show _::_::_::(Qab r).set (i*3+1) _=_;rw [Qnf r i x];rfl
theorem Qjn (L:List HC) (sp:List Value) (i:Nat) (x:Int) (hi:i<L.length):Put (Qab L++sp) (i*3+1) (.int .i64 x) (Qab (Qd1 L i x)++sp):=by
 have hl:=Qad L;have:=Qg2 (l:=Qab L++sp) (v:= .int .i64 x) (i:=i*3+1) Yh
 rwa [List.set_append_left _ _ Ya,Qnf] at this
theorem Qrd (P:List HC) (x:HC) (R:List HC) (v:Int):Qd1 (P++x::R) P.length v=P++⟨x.k,v,x.s⟩::R:=by
 induction P with
 |nil=>exact QgC _ _ _
 |cons p P ih=>rw [List.cons_append,List.length_cons,QgD,ih];rfl
theorem Qf6 (L:List HC) (i j:Nat) (x:Int):(Qd1 L i x)[j]?=if i=j then (L[j]?).map (fun c=>⟨c.k,x,c.s⟩) else L[j]?:=by
 simp only [Qd1,List.getElem?_modify];by_cases h:i=j
 ·simp [h]
 ·simp [h]
theorem Qa7 {L:List HC} {a:Int} {c:HC}:hat L a=some c↔0≤a∧a<L.length∧L[a.toNat]?=some c:=by
 unfold hat;constructor
 ·intro h;split at h
  ·rename_i h0;refine ⟨h0,?_,h⟩;rcases Nat.lt_or_ge a.toNat L.length with hl|hl
   ·omega
   ·rw [List.getElem?_eq_none hl] at h;cases h
  ·cases h
 ·rintro ⟨h0,h1,h2⟩;rw [if_pos h0];exact h2
theorem Qse {L:List HC} {a:Int} (h0:0≤a) (h1:a<L.length):∃c,hat L a=some c:=⟨L[a.toNat]'Ya,Qa7.2 ⟨h0,h1,List.getElem?_eq_getElem _⟩⟩
theorem QkO {n:Nat}:∀{L:List HC} {i:Nat} {c:HC},QN n L=true→L[i]?=some c→Qaa n c (L.length-i-1)=true
 |[],i,c,_,h=>by simp at h
 |x::r,0,c,hg,h=>by
  obtain rfl:x=c:=by simpa using h
  simp only [QN,Bool.and_eq_true] at hg;simpa using hg.1
 |x::r,i+1,c,hg,h=>by
  simp only [QN,Bool.and_eq_true] at hg;have:=QkO (i:=i) (c:=c) hg.2 YY;rw [List.length_cons,show r.length+1-(i+1)-1=r.length-i-1 by omega];exact this
theorem QO {n f:Nat} {c:HC} (h:Qaa n c f=true):(c.k=0∧0≤c.n∧c.n<n∧c.s=eS)∨(c.k=1∧c.n=0∧c.s≠eS)∨(c.k=2∧c.s=eS)∨(c.k=3∧1≤c.n∧c.n≤4∧c.n≤f∧c.s≠eS):=by
 unfold Qaa at h;split at h
 ·simp only [Bool.and_eq_true,decide_eq_true_eq] at h;exact .inl ⟨‹_›,h.1,h.2.1,h.2.2⟩
 ·split at h
  ·simp only [Bool.and_eq_true,decide_eq_true_eq,Bool.not_eq_true',decide_eq_false_iff_not] at h;exact .inr (.inl ⟨‹_›,h.1,h.2⟩)
  ·split at h
   ·simp only [decide_eq_true_eq] at h;exact .inr (.inr (.inl ⟨‹_›,h⟩))
   ·split at h
    ·simp only [Bool.and_eq_true,decide_eq_true_eq,Bool.not_eq_true',decide_eq_false_iff_not] at h;exact .inr (.inr (.inr ⟨‹_›,h.1,h.2.1,h.2.2.1,h.2.2.2⟩))
    ·cases h
theorem Qam {n:Nat} {L:List HC} {a:Int} {c:HC} (hg:QN n L=true) (h:hat L a=some c):Qaa n c (L.length-a.toNat-1)=true:=QkO hg (Qa7.1 h).2.2
theorem Qhk {n:Nat} {L:List HC} {a:Int} (hg:QN n L=true):Qaw L a≤4∧(Qaw L a=0∨(0≤a∧a+Qaw L a<L.length)):=by
 unfold Qaw
 cases h:hat L a with
 |none=>exact ⟨by simp,.inl rfl⟩
 |some c=>
  obtain ⟨h0,h1,_⟩:=Qa7.1 h;have hc:=QO (Qam hg h);simp only [QI];split
  ·rcases hc with hc|hc|hc|hc
   ·omega
   ·omega
   ·omega
   ·refine ⟨by omega,.inr ⟨h0,?_⟩⟩;omega
  ·exact ⟨by simp,.inl rfl⟩
theorem Qgi {n:Nat} {L:List HC} {a:Int} {c:HC} (hg:QN n L=true) (h:hat L a=some c) (hk:c.k=0):0≤c.n∧c.n<n:=by
 rcases QO (Qam hg h) with hc|hc|hc|hc<;>omega
theorem QeF {n:Nat} {x:Int} (h0:0≤x) (h1:x<n):∀{L:List HC} {i:Nat},QN n L=true→(∀c,L[i]?=some c→c.k=0)→QN n (Qd1 L i x)=true
 |[],i,hg,_=>by rw [QmJ];rfl
 |y::r,0,hg,hk=>by
  rw [QgC];simp only [QN,Bool.and_eq_true] at hg⊢;refine ⟨?_,hg.2⟩;have hk0:=hk y Yd;have:=hg.1;unfold Qaa at this⊢;simp only [hk0,if_true] at this⊢;simp only [Bool.and_eq_true,decide_eq_true_eq] at this⊢;exact ⟨h0,h1,this.2.2⟩
 |y::r,i+1,hg,hk=>by
  rw [QgD];simp only [QN,Bool.and_eq_true] at hg⊢;rw [Qby];exact ⟨hg.1,QeF h0 h1 hg.2 fun c hc=>hk c (by simpa using hc)⟩
theorem QcL {L:List HC}:∀(f:Nat) (a:Int),QaM L f a= -1∨∃c,hat L (QaM L f a)=some c∧(c.k=0→c.n=QaM L f a)
 |0,a=> .inl rfl
 |f+1,a=>by
  cases h:hat L a with
  |none=>left;simp only [QaM,h]
  |some c=>
   by_cases hb:c.k=0∧c.n≠a
   ·simp only [QaM,h,if_pos hb];exact QcL f c.n
   ·right;simp only [QaM,h,if_neg hb];exact ⟨c,rfl,fun hk=>Classical.byContradiction fun hn=>hb ⟨hk,hn⟩⟩
theorem QcK {L:List HC} {a:Int} (h:¬Qp L a<0):∃c,hat L (Qp L a)=some c∧(c.k=0→c.n=Qp L a):=by
 rcases QcL (L:=L) L.length a with h1|h1
 ·exact absurd (show Qp L a<0 by unfold Qp;rw [h1];decide) h
 ·exact h1
structure GU (n:Nat) (u:HU):Prop where
 len:u.cs.length=n
 good:QN n u.cs=true
 wk:u.lg=false→u.w≤400
 trl:u.tr.length≤65536+u.w
theorem GU.step {n:Nat} {u:HU} (h:GU n u):GU n u.step:=by
 refine ⟨h.len,h.good,fun hl=> ?_,?_⟩
 ·simp only [HU.step,Bool.or_eq_false_iff,decide_eq_false_iff_not] at hl⊢;omega
 ·have:=h.trl;simp only [HU.step];omega
theorem GU.look {n:Nat} {u:HU} (h:GU n u) (a:Int):GU n (u.look a).2:=by
 unfold HU.look;split
 ·exact h
 ·rename_i hl;exact ⟨h.len,h.good,fun _=>h.wk YaD,h.trl⟩
theorem Qc6 (u:HU) (a:Int):(u.look a).2.w=u.w∧(u.look a).2.cs=u.cs∧(u.look a).2.tr=u.tr:=by
 unfold HU.look;split<;>exact ⟨rfl,rfl,rfl⟩
theorem Qcy {u:HU} {a:Int} (h:(u.look a).2.lg=false):u.lg=false∧(u.look a).1=Qp u.cs a∧¬Qp u.cs a<0:=by
 unfold HU.look at h⊢;split at h
 ·rename_i hl;rw [hl] at h;cases h
 ·rename_i hl;rw [if_neg hl];exact ⟨by simpa using hl,rfl,by simpa using h⟩
theorem GU.bind {n:Nat} {u:HU} (h:GU n u) {a x:Int} {c:HC} (ha:hat u.cs a=some c) (hk:c.k=0) (h0:0≤x) (h1:x<n) (ht:u.tr.length<65536+u.w):GU n (u.bind a x):=by
 refine ⟨by simp only [HU.bind];rw [Qby];exact h.len,?_,h.wk,by simp only [HU.bind,List.length_append,List.length_cons,List.length_nil];omega⟩;refine QeF h0 h1 h.good fun c' hc'=> ?_;rw [(Qa7.1 ha).2.2] at hc';obtain rfl:=Option.some.inj hc';exact hk
structure OU (n f:Nat) (u v:HU):Prop where
 cs:v.cs=u.cs
 tr:v.tr=u.tr
 lt:u.w<v.w
 le:v.w≤max (u.w+1) (401+4*f)
 wk:v.lg=false→v.w≤400
 lg:u.lg=true→v.lg=true
theorem Qso {n f:Nat} {g:Int→HU→Bool×HU} {cs:List HC} (hg:∀x u,u.cs=cs→(u.lg=false→u.w≤400)→OU n f u (g x u).2):
  ∀(m:Nat) (x:Int) (u:HU),u.cs=cs→(u.lg=false→u.w≤400)→(Qjz g m x u).2.cs=u.cs∧(Qjz g m x u).2.tr=u.tr∧u.w≤(Qjz g m x u).2.w∧(Qjz g m x u).2.w≤max (u.w+m) (401+4*f+m)∧((Qjz g m x u).2.lg=false→(Qjz g m x u).2.w≤400)∧(u.lg=true→(Qjz g m x u).2.lg=true)
 |0,x,u,hcs,hu=>⟨rfl,rfl,Nat.le_refl _,by simp only [Qjz];omega,hu,fun h=>h⟩
 |m+1,x,u,hcs,hu=>by
  have h1:=hg x u hcs hu;simp only [Qjz];split
  ·exact ⟨h1.cs,h1.tr,Nat.le_of_lt h1.lt,by have:=h1.le;omega,h1.wk,h1.lg⟩
  ·obtain ⟨a1,a2,a3,a4,a5,a6⟩:=Qso hg m (x+1) (g x u).2 (h1.cs.trans hcs) h1.wk;refine ⟨a1.trans h1.cs,a2.trans h1.tr,Nat.le_trans (Nat.le_of_lt h1.lt) a3,?_,a5,fun h=>a6 (h1.lg h)⟩;have:=h1.le;omega
theorem Qkl {n:Nat} (a:Int):∀(f:Nat) (b:Int) (u:HU),QN n u.cs=true→(u.lg=false→u.w≤400)→OU n f u (Qch a f b u).2
 |f,b,u,hgd,hu=>by
  have hs:OU n f u (u.step.look b).2:=by
   have hw:=Qc6 u.step b;refine ⟨hw.2.1,hw.2.2,?_,?_,fun h=> ?_,fun h=> ?_⟩
   ·rw [hw.1];exact Nat.lt_succ_self _
   ·rw [hw.1];show u.w+1≤_;omega
   ·rw [hw.1];have:=(Qcy h).1;simp only [HU.step,Bool.or_eq_false_iff,decide_eq_false_iff_not] at this;show u.w+1≤400;omega
   ·cases hq:(u.step.look b).2.lg with
    |true=>rfl
    |false=>
     have:=(Qcy hq).1;simp only [HU.step,Bool.or_eq_false_iff] at this;rw [h] at this;cases this.1
  cases f with
  |zero=>exact hs
  |succ f=>
   simp only [Qch];split
   ·exact hs
   ·split
    ·exact hs
    ·rename_i hl _;have hl':(u.step.look b).2.lg=false:=by simpa using hl
     have hcs0:(u.step.look b).2.cs=u.cs:=(Qc6 u.step b).2.1;have hA:=(Qhk (a:=(u.step.look b).1) hgd).1;obtain ⟨a1,a2,a3,a4,a5,a6⟩:=Qso (n:=n) (f:=f) (g:=Qch a f) (cs:=u.cs) (fun x v hv hw=>Qkl a f x v (by rw [hv];exact hgd) hw) (Qaw u.cs (u.step.look b).1) ((u.step.look b).1+1) (u.step.look b).2 hcs0 hs.wk;refine ⟨a1.trans hs.cs,a2.trans hs.tr,Nat.lt_of_lt_of_le hs.lt a3,?_,a5,fun h=>a6 (hs.lg h)⟩;have hwl:=hs.wk hl';omega
structure UU (n:Nat) (u:HU) (r:Bool×HU):Prop where
 gu:GU n r.2
 lt:u.w<r.2.w
 le:r.2.w≤3000
 ok:r.1=true→r.2.lg=false
 ext:u.tr.length+r.2.w≤r.2.tr.length+r.2.w∧r.2.tr.length≤u.tr.length+(r.2.w-u.w)
theorem Qsi {n:Nat} {u:HU} (h:GU n u) (hl:u.lg=false) {a b:Int} {c:HC} (ha:hat u.cs a=some c) (hk:c.k=0) (h0:0≤b) (h1:b<n):UU n u (Qmh a b u):=by
 have ho:=Qkl (n:=n) a 401 b u h.good h.wk;have hw:=h.wk hl;have hle:=ho.le;have hlt:=ho.lt;have ht:=h.trl
 have hgu:GU n (Qch a 401 b u).2:=⟨by rw [ho.cs];exact h.len,by rw [ho.cs];exact h.good,ho.wk,by rw [ho.tr];omega⟩
 unfold Qmh;split
 ·exact ⟨hgu,hlt,(by show (Qch a 401 b u).2.w≤3000;omega),fun h=>Y6,(by dsimp only;rw [ho.tr];constructor<;>omega)⟩
 ·rename_i hn
  have hlg:(Qch a 401 b u).2.lg=false:=by
   cases hq:(Qch a 401 b u).2.lg with
   |false=>rfl
   |true=>exact absurd (.inr hq) hn
  refine ⟨hgu.bind (by rw [ho.cs];exact ha) hk h0 h1 (by rw [ho.tr];omega),hlt,by show (Qch a 401 b u).2.w≤3000;omega,fun _=>hlg,?_⟩;show u.tr.length+(Qch a 401 b u).2.w≤((Qch a 401 b u).2.tr++[a]).length+(Qch a 401 b u).2.w∧((Qch a 401 b u).2.tr++[a]).length≤u.tr.length+((Qch a 401 b u).2.w-u.w);rw [ho.tr];simp only [List.length_append,List.length_cons,List.length_nil];omega
theorem Qsq {n:Nat} {g:Int→Int→HU→Bool×HU} (hg:∀x y u,GU n u→u.lg=false→UU n u (g x y u)):
  ∀(m:Nat) (x y:Int) (u:HU),GU n u→u.lg=false→GU n (QhC g m x y u).2∧u.w≤(QhC g m x y u).2.w∧(QhC g m x y u).2.w≤3000∧((QhC g m x y u).1=true→(QhC g m x y u).2.lg=false)∧u.tr.length≤(QhC g m x y u).2.tr.length∧(QhC g m x y u).2.tr.length≤u.tr.length+((QhC g m x y u).2.w-u.w)
 |0,x,y,u,h,hl=>⟨h,Nat.le_refl _,by have:=h.wk hl;simp only [QhC];omega,fun _=>hl,Nat.le_refl _,by simp only [QhC];omega⟩
 |m+1,x,y,u,h,hl=>by
  have h1:=hg x y u h hl;have hx:=h1.ext;simp only [QhC];split
  ·rename_i hok;obtain ⟨a1,a2,a3,a4,a5,a6⟩:=Qsq hg m (x+1) (y+1) (g x y u).2 h1.gu (h1.ok hok);have:=h1.lt;exact ⟨a1,by omega,a3,a4,by omega,by omega⟩
  ·exact ⟨h1.gu,Nat.le_of_lt h1.lt,h1.le,h1.ok,by omega,by omega⟩
theorem QjV {n : Nat} : ∀ (f : Nat) (a b : Int) (u : HU), GU n u → u.lg = false → UU n u (Qck f a b u)
 | f, a, b, u, h, hl => by
  have hw0:=h.wk hl;have hwa:=Qc6 u.step a;have hwb:=Qc6 (u.step.look a).2 b;have hg2:GU n ((u.step.look a).2.look b).2:=(h.step.look a).look b
  have hw2:((u.step.look a).2.look b).2.w=u.w+1:=by rw [hwb.1,hwa.1];rfl
  have hcs2:((u.step.look a).2.look b).2.cs=u.cs:=by rw [hwb.2.1,hwa.2.1];rfl
  have htr2:((u.step.look a).2.look b).2.tr=u.tr:=by rw [hwb.2.2,hwa.2.2];rfl
  have hfail:UU n u (false,((u.step.look a).2.look b).2):=⟨hg2,(by show u.w<((u.step.look a).2.look b).2.w;rw [hw2];omega),(by show ((u.step.look a).2.look b).2.w≤3000;rw [hw2];omega),fun h=>Y6,(by dsimp only;rw [htr2,hw2];constructor<;>omega)⟩
  cases f with
  |zero=>exact hfail
  |succ f=>
   simp only [Qck];split
   ·exact hfail
   rename_i hl2;have hl2':((u.step.look a).2.look b).2.lg=false:=by simpa using hl2
   obtain ⟨hla,hb1,hb2⟩:=Qcy hl2';obtain ⟨_,ha1,ha2⟩:=Qcy hla;rw [hwa.2.1] at hb1 hb2;obtain ⟨x,hx,hxe⟩:=QcK ha2;obtain ⟨y,hy,hye⟩:=QcK hb2;rw [←ha1] at hx hxe;rw [←hb1] at hy hye;replace hx:hat u.cs (u.step.look a).1=some x:=hx;replace hy:hat u.cs ((u.step.look a).2.look b).1=some y:=hy;obtain ⟨x0,x1,_⟩:=Qa7.1 hx;obtain ⟨y0,y1,_⟩:=Qa7.1 hy;rw [h.len] at x1 y1
   have hkx:QaY u.cs (u.step.look a).1=x.k:=by unfold QaY;rw [hx]
   have hky:QaY u.cs ((u.step.look a).2.look b).1=y.k:=by unfold QaY;rw [hy]
   rw [hkx,hky]
   have hstep:∀{r:Bool×HU},UU n ((u.step.look a).2.look b).2 r→UU n u r:=fun {r} hr=>by
    have h1:=hr.lt;have h2:=hr.ext;rw [hw2] at h1 h2;rw [htr2] at h2;exact ⟨hr.gu,by omega,hr.le,hr.ok,by omega,by omega⟩
   split
   ·rename_i hk0;split
    ·rename_i hk1;split
     ·exact ⟨hg2,by show u.w<((u.step.look a).2.look b).2.w;rw [hw2];omega,by show ((u.step.look a).2.look b).2.w≤3000;rw [hw2];omega,fun _=>hl2',by dsimp only;rw [htr2,hw2];constructor<;>omega⟩
     ·have ht:=h.trl
      have hbd:GU n (((u.step.look a).2.look b).2.bind (max (u.step.look a).1 ((u.step.look a).2.look b).1) (min (u.step.look a).1 ((u.step.look a).2.look b).1)):=by
       rcases Int.le_total (u.step.look a).1 ((u.step.look a).2.look b).1 with hle|hle
       ·rw [Int.max_eq_right hle,Int.min_eq_left hle];exact hg2.bind (by rw [hcs2];exact hy) hk1 x0 x1 (by rw [htr2,hw2];omega)
       ·rw [Int.max_eq_left hle,Int.min_eq_right hle];exact hg2.bind (by rw [hcs2];exact hx) hk0 y0 y1 (by rw [htr2,hw2];omega)
      refine ⟨hbd,by show u.w<((u.step.look a).2.look b).2.w;rw [hw2];omega,by show ((u.step.look a).2.look b).2.w≤3000;rw [hw2];omega,fun _=>hl2',?_⟩;simp only [HU.bind,List.length_append,List.length_cons,List.length_nil];rw [htr2,hw2];constructor<;>omega
    ·exact hstep (Qsi hg2 hl2' (by rw [hcs2];exact hx) hk0 y0 y1)
   ·split
    ·rename_i hk1;exact hstep (Qsi hg2 hl2' (by rw [hcs2];exact hy) hk1 x0 x1)
    ·unfold Qc4;split
     ·obtain ⟨a1,a2,a3,a4,a5,a6⟩:=Qsq (fun x y v hv hlv=>QjV f x y v hv hlv) (Qaw ((u.step.look a).2.look b).2.cs (u.step.look a).1) ((u.step.look a).1+1) (((u.step.look a).2.look b).1+1) _ hg2 hl2';rw [hw2] at a2 a6;rw [htr2] at a5 a6;exact ⟨a1,by omega,a3,a4,by omega,by omega⟩
     ·exact hfail
end Go.Proofs.YthliapbflkfdiacGreatDoor
