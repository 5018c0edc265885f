/- Steps of the proof. -/
import Derived.Test.YthliapbflkfdiacGreatDoorG34
set_option linter.unusedVariables false
set_option linter.unusedSimpArgs false
set_option maxRecDepth 100000
set_option maxHeartbeats 1000000
namespace Go.Proofs.YthliapbflkfdiacGreatDoor
open Go.Proofs.Tryz
open Go.RowKit
theorem QsE{M:T8}{x:Int}{v:Bool}(h:M[x.toNat]?=some v):Qy M x=v:=by
 unfold Qy;rw[h];cases v<;>simp
section
variable{M:T6}{w0:TG}{H:T0}{F:T3}
theorem St.freezeB{P:T8}{g:Nat}{w:TG}(hS:St M w0 ((g,U6 P)::H) F w):St M w0 H (QG 1 (CP P) (some ⟨g,0,none⟩) P.length P.length::F) w:=by
 have ho:=hS.own (g,_) (.head _);refine hS.drop.learn fun w' hw=>QG.own (sp:=[]) (el:=4) ?_ (QlU P) (XF _);rw[hw.block g (IW ho) fun hm=> ?_,VF]
 .exact ho
 .exact Yb0
theorem QsD(h:HH)(R:T7)(A B RA:T4)(c d rc:Nat)(w:TG)(hg:QS h=true)(hH:AB F (FR h A c B d))(hR:AB F (QG 1 (Qr R) RA R.length rc))(wV:R.length<=9223372036854775807)(hS:St M w0 H F w):
  Calls prog 148 #[hv h A c B d,.slice RA R.length rc] w fun e w'=>∃(A':T4) (c':Nat) (F':T3),e= .returned (.tuple #[.slice A' (QW h.cs R).length c',.int .i64 0])/\(∀φ∈F,φ∈F')/\AB F' (QG 1 (CP (QW h.cs R)) A' (QW h.cs R).length c')/\St M w0 H F' w':=by
 have:=Qof h R A B RA c d rc w hH hR wV hS;rw[show QeF h R=(QW h.cs R,0) by unfold QeF;rw[XA YT]]at this;exact BS
theorem QuG(h:HH)(R:T7)(A B RA:T4)(c d rc:Nat)(w:TG)(hg:QS h=false)(hH:AB F (FR h A c B d))(hR:AB F (QG 1 (Qr R) RA R.length rc))(wV:R.length<=9223372036854775807)(hS:St M w0 H F w):
  Calls prog 148 #[hv h A c B d,.slice RA R.length rc] w fun e w'=>∃(A':T4) (c':Nat) (F':T3),e= .returned (.tuple #[.slice A' 0 c',.int .i64 1])/\(∀φ∈F,φ∈F')/\St M w0 H F' w':=by
 have:=Qof h R A B RA c d rc w hH hR wV hS;rw[show QeF h R=([],1) by unfold QeF;rw[XB hg]]at this
 exact this.mono fun e w' ⟨A',c',F',h1,h2,_,h4⟩=>⟨A',c',F',h1,h2,h4⟩
theorem Qzf(Mk:T8)(n:Nat)(hn:Mk.length=n)(A:T4)(c:Nat)(w:TG)(hM:AB F (QG 1 (CP Mk) A n c))(hl:n<=1048576)(hS:St M w0 H F w):
  Calls prog 149 #[.slice A n c] w fun e w'=>∃(A':T4) (c':Nat) (F':T3),e= .returned (.slice A' (n+1) c')/\(∀φ∈F,φ∈F')/\AB F' (QG 1 (Qr (FX Mk)) A' (FX Mk).length c')/\St M w0 H F' w':=by
 subst hn;exact QqH Mk A c w hM hl hS
theorem QpU(T:T7)(N Mk:T8)(n:Nat)(hn:N.length=n)(A B S:T4)(c d e:Nat)(w:TG)(hT:AB F (QG 1 (Qr T) A T.length c))(hM:AB F (QG 1 (CP N) B n d))(hs:AB F (QG 1 (Qr (FX Mk)) S (FX Mk).length e))(hg:∀a∈T,0<=a/\a<Mk.length)(hl:T.length<=65536)(wX:n=T.length)(hS:St M w0 H F w):
  Calls prog 151 #[.slice A T.length c,.slice B n d,.slice S (Mk.length+1) e] w fun e w'=>∃(A':T4) (c':Nat) (F':T3),e= .returned (.slice A' ((kept T N).map (AK Mk)).length c')/\(∀φ∈F,φ∈F')/\AB F' (QG 1 (Qr ((kept T N).map (AK Mk))) A' ((kept T N).map (AK Mk)).length c')/\St M w0 H F' w':=by
 subst hn;exact QmC T N Mk A B S c d e w hT hM hs hg hl wX hS
theorem Qxc(Mk:T8)(n:Nat)(hn:Mk.length=n)(I:T7)(A B:T4)(c d:Nat)(w:TG)(hM:AB F (QG 1 (Qr (FX Mk)) A (FX Mk).length c))(hI:AB F (QG 1 (Qr I) B I.length d))(hl:n<=1048576)(qY:I.length<=1048576)(hS:St M w0 H F w):
  Calls prog 152 #[.slice A (n+1) c,.slice B I.length d] w fun e w'=>∃(A':T4) (c':Nat) (F':T3),e= .returned (.slice A' (I.map (AK Mk)).length c')/\(∀φ∈F,φ∈F')/\AB F' (QG 1 (Qr (I.map (AK Mk))) A' (I.map (AK Mk)).length c')/\St M w0 H F' w':=by
 subst hn;exact QhR Mk I A B c d w hM hI hl qY hS
def QAk(M:T6)(w0:TG)(H:T0)(F:T3)(r:HH×T7×T7×T7×Int)(e:Ending)(w':TG):Prop:=
 ∃(A':T4) (c':Nat) (B':T4) (d':Nat) (a1 a2 a3:T4) (c1 c2 c3:Nat) (F':T3),
  e= .returned (.tuple #[hv r.1 A' c' B' d',.slice a1 r.2.1.length c1,.slice a2 r.2.2.1.length c2,.slice a3 r.2.2.2.1.length c3,.int .i64 r.2.2.2.2])/\(∀φ∈F,φ∈F')/\AB F' (FR r.1 A' c' B' d')/\AB F' (QG 1 (Qr r.2.1) a1 r.2.1.length c1)/\AB F' (QG 1 (Qr r.2.2.1) a2 r.2.2.1.length c2)/\AB F' (QG 1 (Qr r.2.2.2.1) a3 r.2.2.2.1.length c3)/\St M w0 H F' w'
theorem Qp8(h:HH)(R T K:T7)(A B RA TA KA:T4)(c d rc tc kc:Nat)(w:TG)(hH:AB F (FR h A c B d))(hR:AB F (QG 1 (Qr R) RA R.length rc))(hT:AB F (QG 1 (Qr T) TA T.length tc))(hK:AB F (QG 1 (Qr K) KA K.length kc))(wV:R.length<=1048576)(zU:T.length<=1048576)(Ll:K.length<=1048576)(hS:St M w0 H F w):
  Calls prog 95 #[hv h A c B d,.slice RA R.length rc,.slice TA T.length tc,.slice KA K.length kc] w (QAk M w0 H F (Qcb h R T K)):=by
 refine TM func95 rfl ntmps95 rfl ?_;apply Zq.w.1;clear hS;intro b1 oQ hS;apply Zq.dH.1;clear hS;intro b2 pP hS;apply Zq.d1.a3.p.b1.g.1
 cases hg:QS h with
 |false=>
  have e0:Qcb h R T K=(h,[],[],[],1):=by unfold Qcb;rw[XB hg]
  rw[e0];apply Zq.f.1;refine XE (QuG h R A B RA c d rc _ hg hH hR Ya hS) ?_;rintro _ w2 ⟨A2,c2,F2,rfl,pF,oD⟩;apply Zq.a.1;replace hS:=oD;clear oD;apply Zq.b2.cW.dG.b1.g.d.1;clear hS;intro pM hS;apply Zq.d1.a3.jP.1;exact⟨A,c,B,d,none,none,none,0,0,0,F2,rfl,pF,hH.mono pF,fun w _=>QG.nil_ _ _ _,fun w _=>QG.nil_ _ _ _,fun w _=>QG.nil_ _ _ _,hS.drop.drop⟩
 |true=>
 obtain⟨tH,qY⟩:=RX hg
 have sT:Q2 h.cs.length h.cs=true:=by
  exact YbJ
 have wX:(QW h.cs R).length=h.cs.length:=(QjV h.cs R).1
 have Ic:∀a∈h.tr,0<=a/\a<h.cs.length:=fun a ha=>by
  obtain⟨x,hx,_⟩:=QtD hg ha;have:=AZ.1 hx;exact Yeq
 have e0:Qcb h R T K=if R.all (Qo h.cs)=false then(h,[],[],[],4)
  else(⟨DK (QW h.cs R) h.cs,EJ (QW h.cs R) h.tr⟩,R.map (AK (QW h.cs R)),T.map (AK (QW h.cs R)),K.map (AK (h.tr.map (Qy (QW h.cs R)))),0):=by unfold Qcb;rw[XA YT]
 rw[e0];clear e0;apply Zq.f.1;refine XE (QsD h R A B RA c d rc _ hg hH hR Ya hS) ?_;rintro _ w2 ⟨A2,c2,F2,rfl,pF,Fg,oD⟩;apply Zq.a.1;replace hS:=oD;clear oD;generalize QW h.cs R=Mk at*;have Tz:=hH.mono pF;have tY:=hR.mono pF;apply Zq.b2.cW.D.m.aQ.1;refine Qp 35 (36::37::38::16::39::40::41::42::43::9::10::11::12::44::[]) (fun(Q:T7) v w'=>∃(D:T7),R=D++Q/\v= .int .i64 (D.length:Nat)/\(∀r∈D,Qo h.cs r=true)/\St M w0 ((b2,C6 none 0 0 none 0 0)::(b1,C6 A h.cs.length c B h.tr.length d)::H) F2 w') (fun Q=>Q.length) (R) ?_ Yb ?_
 .exact⟨[],rfl,rfl,fun r hr=>by simp at hr,hS⟩
 clear hS;rintro Q _ w4 jv ⟨D,hD,rfl,uC,hS⟩ ih
 have oG:R.length=D.length+Q.length:=by rw[hD];simp
 cases Q with
 |cons x Q=>
  simp only[XJ]at oG
  have wJ:R[D.length]?=some x:=by rw[hD];simp
  obtain⟨bt,ot,rfl⟩:=(hS.und tY).some_ Ya
  have tT:∀{H'} w',St M w0 H' F2 w'->w'.cell? ⟨bt,ot+((D.length:Nat):Int).toNat*1,none⟩=some (.int .i64 x):=fun w' hS=>by
   have:=(hS.und tY).int wJ;exact RN
  apply Zq.cB.T.eU.c.p.eN.g.f.lV.1;rintro _ w5 ⟨rfl,yS⟩;apply Zq.a.1;replace hS:=hS.grow yS
  cases hx:Qo h.cs x with
  |false=>
   rw[show(decide (0<=x)&&decide (x<(h.cs.length:Nat)))=false from hx];rw[XB (by rw[List.all_eq_false];exact⟨x,by rw[hD];simp,by rw[hx];decide⟩)];apply Zq.X.dG.eN.d.1;clear hS;intro pM hS;apply Zq.d1.a3.jP.1;exact⟨A,c,B,d,none,none,none,0,0,0,F2,rfl,pF,Tz,fun w _=>QG.nil_ _ _ _,fun w _=>QG.nil_ _ _ _,fun w _=>QG.nil_ _ _ _,hS.drop.drop⟩
  |true=>
   rw[show(decide (0<=x)&&decide (x<(h.cs.length:Nat)))=true from hx];apply Zq.bF.aZ.1;refine ih (Q) _ _ _ ?_ ?_ Yb Yc
   .simp
   .refine⟨D++[x],by rw[hD];simp,by simp,fun r hr=> ?_,hS⟩;rcases VG.1 hr with hr|hr
    .exact uC r hr
    .rw[VJ.1 hr];exact hx
 |nil=>
  simp only[XP]at oG;have hRD:R=D:=by simpa using hD
  rw[<-hRD]at uC;rw[XA (by rw[show R.all (Qo h.cs)=true from VK.2 uC];decide)];clear hD;have Xa:AB F2 (QG 1 (Qr h.tr) B h.tr.length d):=Tz.imp fun _ h=>h.2;have hCs:AB F2 (QG 3 (AE h.cs) A h.cs.length c):=Tz.imp fun _ h=>h.1;apply Zq.W.p.L.eU.aC.1;refine SF (k:=h.tr.length) (bts:=1) (z:= .bool false) hS Yb Yb rfl rfl rfl rfl Ya Ya rfl ?_;clear hS;intro kb w3 hS;rw[show List.replicate h.tr.length (Value.bool false)=CP (List.replicate h.tr.length false) by simp[CP]]at hS;apply Zq.c.b0.L.eU.aQ.1;refine Qp 52 (53::54::55::56::18::19::57::58::59::60::61::62::63::64::[]) (fun(Q:T7) v w'=>∃(E:T7) (P:T8),h.tr=E++Q/\v= .int .i64 (E.length:Nat)/\P.length=h.tr.length/\(∀(q:Nat) (x:Int),q<E.length->h.tr[q]?=some x->P[q]?=some (Qy Mk x))/\St M w0 ((kb,U6 P)::(b2,C6 none 0 0 none 0 0)::(b1,C6 A h.cs.length c B h.tr.length d)::H) F2 w') (fun Q=>Q.length) (h.tr) ?_ Yb ?_
  .exact⟨[],List.replicate h.tr.length false,rfl,rfl,by simp,fun q x hq=>by simp at hq,hS⟩
  clear hS;rintro Q _ w5 jv2 ⟨E,P,hE,rfl,xV,hP,hS⟩ uV
  have sK:h.tr.length=E.length+Q.length:=by rw[hE];simp
  cases Q with
  |cons x Q=>
   simp only[XJ]at sK
   have wJ:h.tr[E.length]?=some x:=by rw[hE];simp
   obtain⟨Wn,Co⟩:=Ic x (XaX wJ)
   obtain⟨v,hv⟩:∃v,Mk[x.toNat]?=some v:=⟨Mk[x.toNat]'Ya,VN _⟩
   have Bv:=QsE hv;obtain⟨bt,ot,rfl⟩:=(hS.und Xa).some_ Ya;obtain⟨bm,om,rfl⟩:=(hS.und Fg).some_ Ya
   have tT:∀{H'} w',St M w0 H' F2 w'->w'.cell? ⟨bt,ot+((E.length:Nat):Int).toNat*1,none⟩=some (.int .i64 x):=fun w' hS=>by
    have:=(hS.und Xa).int wJ;rw[show((E.length:Nat):Int).toNat=E.length by omega];exact BS
   have rH:∀{H'} w',St M w0 H' F2 w'->w'.cell? ⟨bm,om+x.toNat*1,none⟩=some (.bool v):=fun w' hS=>(hS.und Fg).bool hv;have qT:=QhT P E.length v Ya;apply Zq.a8.h.T.nS.K.u.aO.g.T.nS.T.1;refine K7 hS rfl Yb rfl rfl .head (by rw[show((E.length:Nat):Int).toNat=E.length by omega,XQ,JN];exact qT) .head ?_;clear hS;intro w6 hS;apply Zq.b.aZ.1;refine uV Q _ _ _ ?_ ?_ Yb Yc
   .simp
   .refine⟨E++[x],_,by rw[hE];simp,by simp,by simpa using xV,fun q y hq hy=> ?_,hS⟩;rw[XG]at hq;simp only[XJ,XP]at hq;rw[JI];split
    .rename_i e;rw[XB Ya];rw[<-e,wJ]at hy;rw[<-V9 hy,Bv]
    .exact hP q y Ya hy
  |nil=>
   simp only[XP]at sK
   have Tv:P=h.tr.map (Qy Mk):=by
    refine J1 fun q=> ?_;rw[VW]
    cases hq:h.tr[q]? with
    |none=>
     have:h.tr.length<=q:=by
      rcases XY q h.tr.length with g|g
      .rw[VN g]at hq;cases hq
      .exact g
     rw[XX Ya];rfl
    |some x=>
     have:q<h.tr.length:=by
      rcases XY q h.tr.length with g|g
      .exact g
      .rw[XX g]at hq;cases hq
     rw[hP q x Ya hq];rfl
   replace hS:=St.freezeB hS;rw[Tv]at hS;have Vg:(h.tr.map (Qy Mk)).length=h.tr.length:=by simp
   have hN:AB (QG 1 (CP (h.tr.map (Qy Mk))) (some ⟨kb,0,none⟩) (h.tr.map (Qy Mk)).length (h.tr.map (Qy Mk)).length::F2) (QG 1 (CP (h.tr.map (Qy Mk))) (some ⟨kb,0,none⟩) (h.tr.map (Qy Mk)).length (h.tr.map (Qy Mk)).length):=AB.head;have Nw:∀φ∈F2,φ∈(QG 1 (CP (h.tr.map (Qy Mk))) (some ⟨kb,0,none⟩) (h.tr.map (Qy Mk)).length (h.tr.map (Qy Mk)).length::F2):=fun φ h=> .tail _ h;generalize(QG 1 (CP (h.tr.map (Qy Mk))) (some ⟨kb,0,none⟩) (h.tr.map (Qy Mk)).length (h.tr.map (Qy Mk)).length::F2)=F3 at*;rw[show EJ Mk h.tr=(kept h.tr (h.tr.map (Qy Mk))).map (AK Mk)from rfl];rw[Vg]at hN;generalize hNg:h.tr.map (Qy Mk)=N at*;apply Zq.W.Z.1;refine XE (QqH Mk A2 c2 _ (Fg.mono Nw) Ya hS) ?_;rintro _ w6 ⟨A6,c6,F6,rfl,Jk,hS6,oD⟩;apply Zq.a.1;replace hS:=oD;clear oD;apply Zq.g.F.1;refine XE (Qzf N h.tr.length Vg _ _ _ (hN.mono Jk) Ya hS) ?_;rintro _ w7 ⟨A7,c7,F7,rfl,Cy,hS7,oD⟩;apply Zq.a.1;replace hS:=oD;clear oD;have Gf:∀φ∈F2,φ∈F7:=fun φ h=>Cy φ (Jk φ (Nw φ h));have Gg:=hS6.mono Cy;apply Zq.K.E.1;refine PX 22 (69::70::71::72::73::74::75::76::77::78::79::[]) (fun v w'=>∃b3 A8 c8 A9 c9 F9,v= .pointer (some ⟨b3,0,none⟩)/\(∀φ∈F7,φ∈F9)/\AB F9 (QG 3 (AE (DK Mk h.cs)) A8 (DK Mk h.cs).length c8)/\AB F9 (QG 1 (Qr ((kept h.tr N).map (AK Mk))) A9 ((kept h.tr N).map (AK Mk)).length c9)/\St M w0 ((b3,C6 A8 (DK Mk h.cs).length c8 A9 ((kept h.tr N).map (AK Mk)).length c9)::(b2,C6 none 0 0 none 0 0)::(b1,C6 A h.cs.length c B h.tr.length d)::H) F9 w') ?_ ?_
   .intro oF;refine K1 (St _ _ _ _) 12 (.read 0 (.read 1 (.read 2 (.read 3 (.read 5 (.read 6 (.read 7 (.read 8 (.pick 4 (.pick 9 (.read 10 (.pick 11 .tail .none)) (.pick 11 (.pick 9 (.read 10 .tail) .none) .none)) (.pick 11 (.pick 4 (.pick 9 (.read 10 .tail) .none) .none) .none)))))))))) Yc Yc hS.drew ?_;replace hS:=hS.drew;apply Zq.fB.m8.a7.a7.j6.m8.a7.a7.1;refine QA rfl ?_ ?_
    .apply Zq.bA.lB.1;rintro _ w8 ⟨A8,c8,F8,rfl,zH,Nx,oD⟩;apply Zq.a.1;replace hS:=oD;clear oD;apply Zq.fN.1;refine QA rfl ?_ ?_
     .apply Zq.bA.jL.1;rintro _ w9 ⟨A9,c9,F9,rfl,rI,Md,oD⟩;apply Zq.a.1;replace hS:=oD;clear oD;apply Zq.fN.gF.a0.dH.1;clear hS;intro b3 pM hS;apply Zq.fN.h6.1;clear hS;intro sR hS;exact Ybc
     apply Zq.a0.dH.1;clear hS;intro b4 vN hS;apply Zq.fN.a0.bA.jL.1;rintro _ w9 ⟨A9,c9,F9,rfl,rI,Md,oD⟩;apply Zq.a.1;replace hS:=oD;clear oD;apply Zq.fN.gF.h6.1;clear hS;intro zO hS;exact Ybc
    apply Zq.a0.dH.1;clear hS;intro b5 Rd hS;apply Zq.fN.a0.bA.lB.1;rintro _ w8 ⟨A8,c8,F8,rfl,zH,Nx,oD⟩;apply Zq.a.1;replace hS:=oD;clear oD;apply Zq.fN.a0.bA.jL.1;rintro _ w9 ⟨A9,c9,F9,rfl,rI,Md,oD⟩;apply Zq.a.1;replace hS:=oD;clear oD;apply Zq.fN.gF.h6.1;clear hS;intro Vv hS;exact Ybc
   clear hS;rintro jv3 _ w9 ⟨b3,A8,c8,A9,c9,F9,rfl,rI,Nx,Md,hS⟩;have Hs:∀φ∈F2,φ∈F9:=fun φ h=>rI φ (Gf φ h);apply Zq.E.1;refine QH (St _ w0 [_] []) 15 ((0,true)::(1,true)::(2,true)::(4,true)::(5,true)::(7,true)::(8,true)::(3,false)::(6,false)::(9,false)::(10,false)::(11,true)::(12,true)::(13,true)::(14,true)::[]) Yc Yc (hS.drew.bare1) ?_;replace hS:=hS.drew
   first
    |refine Qe rfl (fun _ hS=>Qb (k:=2) hS rfl rfl rfl Ym Yh) rfl ?_
    |refine Qe rfl (fun _ hS=>Qb (k:=2) hS rfl rfl rfl Ym Ye) rfl ?_
    |refine Qe rfl (fun _ hS=>M3 rfl rfl rfl YaH YaH) rfl ?_
   apply Zq.dS.dS.dS.aR.f.1;refine XE (QhR Mk R A6 RA c6 rc _ (Gg.mono rI) (tY.mono Hs) Ya wV hS) ?_;rintro _ w10 ⟨A10,Nf,F10,rfl,zD,aCq,oD⟩;apply Zq.a.1;replace hS:=oD;clear oD;apply Zq.fR.aR.f.1;refine XE (QhR Mk T A6 TA c6 tc _ ((Gg.mono rI).mono zD) (hT.mono fun φ h=>zD φ (Hs φ (pF φ h))) Ya zU hS) ?_;rintro _ Lk ⟨A11,Ng,F11,rfl,Bw,aCr,oD⟩;apply Zq.a.1;replace hS:=oD;clear oD;apply Zq.fR.aR.f.1;refine XE (Qxc N h.tr.length Vg K A7 KA c7 kc _ (hS7.mono fun φ h=>Bw φ (zD φ (rI φ h))) (hK.mono fun φ h=>Bw φ (zD φ (Hs φ (pF φ h)))) Ya Ll hS) ?_;rintro _ w12 ⟨A12,Nh,F12,rfl,Ez,aCs,oD⟩;apply Zq.a.1;replace hS:=oD;clear oD;apply Zq.fR.aR.d.1;clear hS;intro Vx hS;apply Zq.fR.bK.bK.bK.bK.dK.jP.1;refine⟨A8,c8,A9,c9,A10,A11,A12,Nf,Ng,Nh,F12,rfl,fun φ h=>Ez φ (Bw φ (zD φ (Hs φ (pF φ h)))),?_,aCq.mono (fun φ h=>Ez φ (Bw φ h)),aCr.mono Ez,aCs,hS.drop.drop.drop⟩
   exact fun w' hw=>⟨(Nx.mono fun φ h=>Ez φ (Bw φ (zD φ h))) w' hw,(Md.mono fun φ h=>Ez φ (Bw φ (zD φ h))) w' hw⟩
end
section
variable{M:T6}{w0:TG}{H:T0}{F:T3}
def QzQ(M:T6)(w0:TG)(H:T0)(F:T3)(h:HH)(k:T4->Nat->T4->Nat->Ending->Prop)(e:Ending)(w:TG):Prop:=
 ∃(A:T4) (c:Nat) (B:T4) (d:Nat) (F':T3),k A c B d e/\(∀φ∈F,φ∈F')/\AB F' (FR h A c B d)/\St M w0 H F' w
theorem Qrc(h:HH)(K:List HC)(A B A2:T4)(c d c2:Nat)(w:TG)(hH:AB F (FR h A c B d))(hK:AB F (QG 3 (AE K) A2 K.length c2))(hS:St M w0 H F w):
  Calls prog 90 #[hv h A c B d,.slice A2 K.length c2] w (QzQ M w0 H F (BN h K).1 fun A' c' B' d' e=>e= .returned (.tuple #[hv (BN h K).1 A' c' B' d',.int .i64 ((BN h K).2.1:Nat),.int .i64 (BN h K).2.2])):=by
 refine Qh func90 rfl ntmps90 rfl ?_;apply Zq.w.1;clear hS;intro b1 _ hS;apply Zq.dH.1;clear hS;intro b2 _ hS;apply Zq.K.b0.b1.F.g0.1;rintro _ _ ⟨rfl,pH⟩;apply Zq.a.1;replace hS:=hS.grow pH
 cases hg:QS h with
 |false=>
  have e0:BN h K=(h,0,1):=by unfold BN;rw[hg];rfl
  rw[e0];apply Zq.X.bX.H.p.b1.d.1;exact Ycv
 |true=>
 obtain⟨tH,qY⟩:=RX hg;apply Zq.X.n.F.1;refine XE (QgW K A2 c2 _ (hS.und hK)) ?_;rintro _ _ ⟨rfl,oZ⟩;apply Zq.a.1;replace hS:=hS.grow oZ
 cases Ck:D7 K with
 |false=>
  have e0:BN h K=(h,0,1):=by unfold BN;rw[hg,Ck];rfl
  rw[e0];apply Zq.bW.H.p.b1.d.1;exact Ycv
 |true=>
 have xL:K.length<=65536:=by
  unfold D7 at Ck;simp only[XI,XO]at Ck;exact Ck.1
 by_cases Jd:65536<h.cs.length+K.length
 .have e0:BN h K=(h,0,3):=by unfold BN;rw[hg,Ck,XA Yf,XB Jd]
  rw[e0];apply Zq.bW.N.bZ.aC.M.g.aC.C.S.dG.b1.d.1;exact Ycv
 have e0:BN h K=(⟨h.cs++K.map (BH h.cs.length),h.tr⟩,h.cs.length,0):=by unfold BN;rw[hg,Ck,XA Yf,XA Jd]
 rw[e0];apply Zq.bW.N.bZ.aC.M.g.aC.C.S.D.bZ.g.1;refine RD (cells:=[_,_]) hS (.cons Yb (.cons Yb .nil)) rfl rfl ?_;clear hS;intro _ pM hS;apply Zq.F.1;refine XE (QsV h.cs K A A2 c c2 _ _ (hH.imp fun _ h=>h.1) hK Ya hS) ?_;rintro _ _ ⟨A4,c4,O4,rfl,rB,oD⟩;apply Zq.a.1;replace hS:=oD;clear oD;have pJ:(h.cs++K).length=h.cs.length+K.length:=by simp
 have Gv:h.cs.length<=c4:=by obtain⟨_,_,e,oW⟩:=rB.form;cases e;omega
 have hn:(((h.cs++K).length-((h.cs.length:Nat):Int).toNat:Nat):Int)=((K.length:Nat):Int):=by rw[pJ];omega
 apply Zq.M.g.1
 first
  |refine Qa (Qe0 (sz:=3) rfl rfl rfl rfl Ya Ya Ya) rfl ?_
  |refine Qa (Qcs (sz:=3) rfl rfl rfl rfl Ya Ya) rfl ?_
 apply Zq.aQ.1;rw[hn];refine Qp 38 (39::40::9::41::42::43::44::45::10::46::47::48::49::50::51::52::53::54::55::56::57::58::59::[]) (fun(R:List HC) v w'=>∃(D:List HC) (O:T0),K=D++R/\v= .int .i64 (D.length:Nat)/\Rw 104 3 (.slice A4 (h.cs++K).length c4) (h.cs++K).length (AE ((h.cs++D.map (BH h.cs.length))++R)) O/\St M w0 (O++(b2,C6 none 0 0 none 0 0)::(b1,C6 A h.cs.length c B h.tr.length d)::H) F w') (fun R=>R.length) (K) ?_ Yb ?_
 .exact⟨[],O4,rfl,rfl,by simpa using rB,hS⟩
 clear hS;rintro R _ _ _ ⟨D,O,hD,rfl,oE,hS⟩ ih
 have oG:K.length=D.length+R.length:=by rw[hD];simp
 cases R with
 |nil=>
  simp only[XP]at oG;have hKD:K=D:=by simpa using hD
  subst hKD;rw[VF]at oE;have uJ:=St.freezeR oE hS;have Vq:(h.cs++K.map (BH h.cs.length)).length=(h.cs++K).length:=by simp
  replace hS:=uJ;clear uJ;apply Zq.W.h.aE.m4.g.d.1;clear hS;intro _ hS;apply Zq.K.i4.1;refine⟨A4,c4,B,d,_,?_,fun φ h=> .tail _ h,?_,hS.drop.drop⟩
  .dsimp only[hv,OT];rw[Vq]
  .intro w' hw;refine⟨?_,((hH.tail) w' hw).2⟩;have:=hw _ (.head _);rw[<-Vq]at this;exact BS
 |cons x R=>
  simp only[XJ]at oG;obtain⟨g,sp,Pb,hO,pQ,oW,_⟩:=oE.some_ Ya;subst Pb hO
  have hi:((h.cs++D.map (BH h.cs.length))++x::R)[((h.cs.length:Int)+((D.length:Nat):Int)).toNat]?=some x:=by
   rw[show((h.cs.length:Int)+((D.length:Nat):Int)).toNat=(h.cs++D.map (BH h.cs.length)).length by simp;omega];simp
  have oS:∀w',St M w0 ([(g,.cells (AE ((h.cs++D.map (BH h.cs.length))++x::R)++sp).toArray 104)]++(b2,C6 none 0 0 none 0 0)::(b1,C6 A h.cs.length c B h.tr.length d)::H) F w'->_:=fun w' hS=>QG.cell (b:=g) (o:=0) (L:=(h.cs++D.map (BH h.cs.length))++x::R) (cap:=c4) (by have:=oE.flat hS;rw[show(h.cs++K).length=((h.cs++D.map (BH h.cs.length))++x::R).length by rw[hD];simp]at this;exact this) hi;by_cases hk:x.k=0
  .have Wi:0<=x.n/\x.n<=65536:=by
    unfold D7 at Ck;simp only[XI,XO]at Ck
    have sH:BM K.length x R.length=true:=by
     cases hq:BM K.length x R.length with
     |true=>rfl
     |false=>have:=Qgi (D:=D) hq;rw[<-hD,Ck.2]at this;cases this
    unfold BM at sH;rw[XB hk]at sH;simp only[XI,XO]at sH;omega
   apply Zq.a8.aB.i.a1.bR.c.bN.aV.l.v.u.O.L.aV.a1.O.L.1;have qT:=QmI ((h.cs++D.map (BH h.cs.length))++x::R) sp ((h.cs.length:Int)+((D.length:Nat):Int)).toNat (x.n+(h.cs.length:Nat)) Yg
   rw[show DD ((h.cs++D.map (BH h.cs.length))++x::R) ((h.cs.length:Int)+((D.length:Nat):Int)).toNat (x.n+(h.cs.length:Nat))=(h.cs++D.map (BH h.cs.length))++(BH h.cs.length x)::R by
    rw[show((h.cs.length:Int)+((D.length:Nat):Int)).toNat=(h.cs++D.map (BH h.cs.length)).length by simp;omega,Qwu]
    unfold BH;rw[XB hk]]at qT
   refine K7 hS rfl Yb rfl rfl .head (by rw[XQ];exact qT) .head ?_;clear hS;intro _ hS;apply Zq.b.aZ.1;refine ih (R) _ _ _ ?_ ?_ Yb Yc
   .simp
   .refine⟨D++[x],[(g,.cells (AE ((h.cs++D.map (BH h.cs.length))++(BH h.cs.length x)::R)++sp).toArray 104)],by rw[hD];simp,by simp,?_,hS⟩;rw[show h.cs++(D++[x]).map (BH h.cs.length)++R=(h.cs++D.map (BH h.cs.length))++(BH h.cs.length x)::R by simp];refine Rw.own_ ?_ ?_ oW Ya
    .rw[GQ];congr 1;rw[hD];simp
    .rw[<-pQ];simp only[XG,GQ,XJ]
  .apply Zq.a8.aB.i.a1.bR.c.bN.aV.bY.aZ.1;refine ih (R) _ _ _ ?_ ?_ Yb Yc
   .simp
   .refine⟨D++[x],_,by rw[hD];simp,by simp,?_,hS⟩;rw[show h.cs++(D++[x]).map (BH h.cs.length)++R=(h.cs++D.map (BH h.cs.length))++x::R by simp[BH,hk]];exact oE
theorem Qnn:∀(T:T7) (L:List HC),(D8 L T).length=L.length
 |[],L=>rfl
 |a::r,L=>by unfold D8;rw[Qnn r,NR]
theorem QqA(h:HH)(n:Int)(A B:T4)(c d:Nat)(w:TG)(hH:AB F (FR h A c B d))(hS:St M w0 H F w):
  Calls prog 189 #[hv h A c B d,.int .i64 n] w (QzQ M w0 H F (GF h n).1 fun A' c' B' d' e=>e= .returned (.tuple #[hv (GF h n).1 A' c' B' d',.int .i64 (GF h n).2])):=by
 refine Qh func189 rfl ntmps189 rfl ?_;apply Zq.w.1;clear hS;intro b1 oQ hS;apply Zq.dH.1;clear hS;intro b2 pP hS;apply Zq.c.b0.fC.F.g0.1;rintro _ w2 ⟨rfl,pH⟩;apply Zq.a.1;replace hS:=hS.grow pH
 cases hg:QS h with
 |false=>
  have e0:GF h n=(h,1):=by unfold GF;rw[XB hg]
  rw[e0];apply Zq.X.dG.fC.d.1;exact Ycw
 |true=>
 obtain⟨tH,qY⟩:=RX hg;by_cases Rk:n<0
 .have e0:GF h n=(h,2):=by unfold GF;rw[XA YT,XB (.inl Rk)]
  rw[e0];apply Zq.bF.m.I.bB.U.H.p.fC.d.1;exact Ycw
 by_cases yD:(h.tr.length:Int)<n
 .have e0:GF h n=(h,2):=by unfold GF;rw[XA YT,XB (.inr yD)]
  rw[e0];apply Zq.bF.m.I.n.cJ.aV.j.dA.S.H.p.fC.d.1;exact Ycw
 have e0:GF h n=(⟨D8 h.cs (h.tr.drop n.toNat),h.tr.take n.toNat⟩,0):=by unfold GF;rw[XA YT,XA Ya]
 rw[e0]
 have hd:h.tr.length<=d:=by have:=(hS.und hH).2.2.1;exact BS
 have hT:AB F (QG 1 (Qr h.tr) B h.tr.length d):=hH.imp fun _ h=>h.2
 have Ic:∀a∈h.tr,0<=a/\a<h.cs.length:=by
  unfold QS KC at hg;simp only[XI,VK]at hg;intro a ha;have:=hg.2.2 a ha;unfold GG at this;split at this
  .rename_i x hx;have:=O0 hx;exact Yeq
  .cases this
 apply Zq.bF.m.I.n.cJ.aV.j.dA.S.N.bD.aV.F.1;refine XE (QlS h.cs A c _ (hH.imp fun _ h=>h.1) Ya hS) ?_;rintro _ w3 ⟨A3,c3,O3,rfl,qX,oD⟩;apply Zq.a.1;replace hS:=oD;clear oD;replace hS:=hS.perm (XK O3 [_,_] _);have vO:((h.tr.length-n.toNat:Nat):Int)=(((h.tr.drop n.toNat).length:Nat):Int):=by simp
 apply Zq.c.b0.L.dU.e2.aQ.1;rw[vO];refine Qp 31 (32::33::34::8::35::36::37::38::39::40::[]) (fun(R:T7) v w'=>∃(D:T7) (L:List HC) (O:T0),h.tr.drop n.toNat=D++R/\v= .int .i64 (D.length:Nat)/\L.length=h.cs.length/\D8 h.cs (h.tr.drop n.toNat)=D8 L R/\Rw 104 3 (.slice A3 h.cs.length c3) h.cs.length (AE L) O/\St M w0 ((b2,C6 none 0 0 none 0 0)::(b1,C6 A h.cs.length c B h.tr.length d)::(O++H)) F w') (fun R=>R.length) (h.tr.drop n.toNat) ?_ Yb ?_
 .exact⟨[],h.cs,O3,rfl,rfl,rfl,rfl,qX,hS⟩
 clear hS;rintro R _ w5 jv ⟨D,L,O,hD,rfl,Ee,Ua,oE,hS⟩ ih
 have oG:(h.tr.drop n.toNat).length=D.length+R.length:=by rw[hD];simp
 cases R with
 |nil=>
  simp only[XP]at oG;have uJ:=St.freezeR oE (hS.perm (XK [_,_] O _));replace hS:=uJ;clear uJ;have Sf:=Qnn (h.tr.drop n.toNat) h.cs;apply Zq.W.h.L.dU.nW.F.1;refine XE (Qvp n.toNat d B _ Ya) ?_;rintro _ w6 ⟨rfl,It⟩;apply Zq.a.1;replace hS:=hS.grow It;apply Zq.m4.d.1;clear hS;intro pM hS;apply Zq.c.iQ.1;refine⟨A3,c3,B,n.toNat,_,?_,fun φ h=> .tail _ h,?_,hS.drop.drop⟩
  .dsimp only[hv,OT];rw[Sf,VV,JL Ya]
  .intro w' hw;refine⟨?_,?_⟩
   .have:=hw _ (.head _);show QG 3 (AE (D8 h.cs (h.tr.drop n.toNat))) A3 (D8 h.cs (h.tr.drop n.toNat)).length c3 w';rw[Sf,Ua];exact BS
   .have:=((hT.tail) w' hw).take (m:=n.toNat) (c':=n.toNat) Ya (XF _);show QG 1 (Qr (h.tr.take n.toNat)) B (h.tr.take n.toNat).length n.toNat w';rw[VV,JL Ya,show Qr (h.tr.take n.toNat)=(Qr h.tr).take (n.toNat*1) by simp[Qr,List.map_take]];exact BS
 |cons x R=>
  simp only[XJ]at oG;have hxm:x∈h.tr:=JJ (i:=n.toNat) SI;obtain⟨Wn,Co⟩:=Ic x hxm;obtain⟨g,sp,Pb,hO,pQ,oW,_⟩:=oE.some_ Ya;subst Pb hO;obtain⟨bt,ot,rfl⟩:=(hS.und hT).some_ (by simp at oG;omega)
  have pU:n<(d:Int):=by simp at oG;omega
  have wJ:h.tr[n.toNat+D.length]?=some x:=by
   have:(h.tr.drop n.toNat)[D.length]?=some x:=by rw[hD];simp
   rwa [UW]at this
  have tT:∀{H'} w',St M w0 H' F w'->w'.cell? ⟨bt,ot+n.toNat*1+((D.length:Nat):Int).toNat*1,none⟩=some (.int .i64 x):=fun w' hS=>by
   have:=(hS.und hT).int wJ;rw[show ot+n.toNat*1+((D.length:Nat):Int).toNat*1=ot+(n.toNat+D.length)*1 by omega];exact BS
  rw[XA (show¬d=n.toNat by omega),X7,G7]at ih⊢;have qT:=QmI L sp x.toNat x Ya;apply Zq.cB.T.eU.c.u.aO.bR.L.1;refine K7 hS rfl Yb rfl rfl (.tail (.tail .head)) (by rw[XQ];exact qT) (.tail (.tail .head)) ?_;clear hS;intro w6 hS;apply Zq.b.aZ.1;refine ih (R) _ _ _ ?_ ?_ Yb Yc
  .simp
  .refine⟨D++[x],DD L x.toNat x,[(g,.cells (AE (DD L x.toNat x)++sp).toArray 104)],by rw[hD];simp,by simp,by rw[NR,Ee],by rw[Ua];rfl,?_,hS⟩;refine Rw.own_ ?_ ?_ oW Ya
   .rw[GQ,NR,Ee]
   .rw[<-pQ];simp only[XG,GQ,NR]
theorem QyS(h:HH)(n:Int)(A B:T4)(c d:Nat)(w:TG)(hH:AB F (FR h A c B d))(hS:St M w0 H F w):
  Calls prog 190 #[hv h A c B d,.int .i64 n] w (QzQ M w0 H F (IJ h n).1 fun A' c' B' d' e=>e= .returned (.tuple #[hv (IJ h n).1 A' c' B' d',.int .i64 (IJ h n).2])):=by
 refine Qh func190 rfl ntmps190 rfl ?_;apply Zq.w.1;clear hS;intro b1 _ hS;apply Zq.dH.1;clear hS;intro b2 _ hS;apply Zq.c.b0.eN.F.g0.1;rintro _ _ ⟨rfl,pH⟩;apply Zq.a.1;replace hS:=hS.grow pH
 cases hg:QS h with
 |false=>
  have e0:IJ h n=(h,1):=by unfold IJ;rw[XB hg]
  rw[e0];apply Zq.X.dG.eN.d.1;exact Ycx
 |true=>
 obtain⟨tH,qY⟩:=RX hg;by_cases Rk:n<0
 .have e0:IJ h n=(h,2):=by unfold IJ;rw[XA YT,XB (.inl Rk)]
  rw[e0];apply Zq.bF.m.I.bB.U.H.p.eN.d.1;exact Ycx
 by_cases yD:(h.cs.length:Int)<n
 .have e0:IJ h n=(h,2):=by unfold IJ;rw[XA YT,XB (.inr yD)]
  rw[e0];apply Zq.bF.m.I.n.cO.eU.j.dA.S.H.p.eN.d.1;exact Ycx
 have hc:h.cs.length<=c:=(hS.und hH).1.2.1
 have Ub:AB F (FR ⟨h.cs.take n.toNat,h.tr⟩ A n.toNat B d):=hH.imp fun w' h1=>by
  refine⟨?_,h1.2⟩;have:=h1.1.take (m:=n.toNat) (c':=n.toNat) Ya (XF _);show QG 3 (AE (h.cs.take n.toNat)) A (h.cs.take n.toNat).length n.toNat w';rw[VV,JL Ya]
  rw[show AE (h.cs.take n.toNat)=(AE h.cs).take (n.toNat*3) by
   rw[<-VR n.toNat h.cs,NS,VR];rw[show n.toNat*3=(AE (h.cs.take n.toNat)).length by rw[GQ,VV,JL Ya]]
   simp]
  exact BS
 have Be:(h.cs.take n.toNat).length=n.toNat:=by rw[VV,JL Ya]
 apply Zq.bF.m.I.n.cO.eU.j.dA.S.N.E.1;refine PX 6 (21::22::23::24::25::26::27::28::[]) (fun v w'=>∃b3,v= .pointer (some ⟨b3,0,none⟩)/\St M w0 ((b3,C6 A n.toNat n.toNat B h.tr.length d)::(b2,C6 none 0 0 none 0 0)::(b1,C6 A h.cs.length c B h.tr.length d)::H) F w') ?_ ?_
 .intro oF;refine K1 (St _ _ _ _) 9 (.read 0 (.read 1 (.read 2 (.read 3 (.read 5 (.read 6 (.pick 4 (.read 7 (.pick 8 .tail .none)) (.pick 8 (.pick 4 (.read 7 .tail) .none) .none)))))))) Yc Yc hS.drew ?_;replace hS:=hS.drew;apply Zq.fB.l7.a7.1;refine Qj rfl (fun _ hS=>QZ (sz:=3) rfl rfl rfl rfl Ya Ya) rfl ?_;apply Zq.j6.l7.1;refine QA rfl ?_ ?_
  .apply Zq.F.n0.1;rintro _ w3 ⟨rfl,oD⟩;apply Zq.a.1;replace hS:=oD;clear oD;apply Zq.aG.gF.a0.dH.1;clear hS;intro b3 pM hS;apply Zq.a4.1;exact Yc1
  apply Zq.a0.dH.1;clear hS;intro _ _ hS;apply Zq.aG.a0.F.n0.1;rintro _ w3 ⟨rfl,oD⟩;apply Zq.a.1;replace hS:=oD;clear oD;apply Zq.aG.gF.h6.1;exact Yc1
 clear hS;rintro _ _ w3 ⟨b3,rfl,hS⟩;have sH:=Qru ⟨h.cs.take n.toNat,h.tr⟩ A B n.toNat d;dsimp only[hv,OT]at sH;rw[Be]at sH;apply Zq.b0.eN.F.1;refine XE (sH _ (hS.und Ub)) ?_;rintro _ _ ⟨rfl,sJ⟩;apply Zq.a.1;replace hS:=hS.grow sJ
 cases vQ:QS ⟨h.cs.take n.toNat,h.tr⟩with
 |false=>
  have e0:IJ h n=(h,1):=by unfold IJ;rw[XA YT,XA Ya,XB vQ]
  rw[e0];apply Zq.X.dG.eN.d.1;clear hS;intro Rd hS;apply Zq.c.hN.1;exact⟨A,c,B,d,F,rfl,fun _ h=>h,hH,hS.drop.drop.drop⟩
 |true=>
  have e0:IJ h n=(⟨h.cs.take n.toNat,h.tr⟩,0):=by unfold IJ;rw[XA YT,XA Ya,XA (by rw[vQ];decide)]
  rw[e0];apply Zq.bF.p.eN.d.1;clear hS;intro Rd hS;apply Zq.c.hN.1;refine⟨A,n.toNat,B,d,F,?_,fun _ h=>h,Ub,hS.drop.drop.drop⟩;dsimp only[hv,OT];rw[Be]
end
end Go.Proofs.YthliapbflkfdiacGreatDoor
