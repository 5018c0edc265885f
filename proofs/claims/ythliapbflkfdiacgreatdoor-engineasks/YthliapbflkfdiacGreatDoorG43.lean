/- Steps of the proof. -/
import Derived.Test.YthliapbflkfdiacGreatDoorG42
set_option linter.unusedVariables false
set_option linter.unusedSimpArgs false
set_option maxRecDepth 100000
set_option maxHeartbeats 1000000
namespace Go.Proofs.YthliapbflkfdiacGreatDoor
open Go.Proofs.Tryz
open Go.RowKit
theorem Qkj{L:List XL}(hL:ST L):∀(f:Nat) (i:Int) (p:T8×T6),(i= -1\/(0<=i/\i<L.length))->p.1.length=L.length->p.2.length+p.1.count false<=L.length->(EH L f i p).1.length=L.length/\(EH L f i p).2.length+(EH L f i p).1.count false<=L.length
 |0,i,p,_,h1,h2=>⟨h1,h2⟩
 |f+1,i,p,hi,h1,h2=>by
  simp only[EH];by_cases e1:i= -1
  .rw[XB e1];exact⟨h1,h2⟩
  rw[XA e1];by_cases e2:p.1[i.toNat]?=some true
  .rw[XB e2];exact⟨h1,h2⟩
  rw[XA e2];have Ju:0<=i/\i<L.length:=hi.resolve_left e1
  have e3:p.1[i.toNat]?=some false:=by
   cases hv:p.1[i.toNat]? with
   |none=>rw[List.getElem?_eq_none_iff]at hv;omega
   |some v=>cases v with
    |true=>exact absurd hv e2
    |false=>rfl
  have aDo:=QqO e3;exact Qkj hL f _ _ (hL _ (XaX (RR (L:=L) (a:=i.toNat) Ya))) (by simpa using h1) Yl
theorem QlT{L:List XL}(hL:ST L):∀(C:List XC) (p:T8×T6),(∀c∈C,c.at_<L.length)->p.1.length=L.length->p.2.length+p.1.count false<=L.length->(MG L C p).2.length<=L.length
 |[],p,_,h1,h2=>by simp only[MG];omega
 |c::r,p,hC,h1,h2=>by
  simp only[MG];obtain⟨a1,a2⟩:=Qkj hL (L.length+1) (c.at_:Nat) p (.inr ⟨by omega,by have:=hC c (.head _);omega⟩) h1 h2;exact QlT hL r _ (fun c hc=>hC c (.tail _ hc)) a1 a2
theorem QwS{x:XS}(hL:ST x.ln)(hC:∀c∈x.ch,c.at_<x.ln.length)(hf:x.first= -1\/(0<=x.first/\x.first<x.ln.length)):(ET x).length<=x.ln.length:=by
 unfold ET;obtain⟨a1,a2⟩:=Qkj hL (x.ln.length+1) x.first (List.replicate x.ln.length false,[]) hf Yd Yd;exact QlT hL _ _ (fun c hc=>hC c (JD.1 hc)) a1 a2
def IB(L:List XL)(I:T6):T7:=I.map fun i=>(AH L i).g
theorem Qwv(L:List XL)(i:Nat)(g:Int):(MN L i g).length=L.length:=by simp[MN]
def LX.up(f g:Int->Int)(c:LX):LX:=⟨c.at_,c.cls,c.A,c.c,(f (c.cells:Nat)).toNat,(g (c.bound:Nat)).toNat⟩
theorem Qly{α:Type}(D:List α)(c:α)(R:List α)(f:α->α):(D++c::R).modify D.length f=D++f c::R:=by
 induction D with
 |nil=>rfl
 |cons d D ih=>simp[ih]
theorem QgR(a b:T7):Qr (a++b)=Qr a++Qr b:=by simp[Qr]
structure QAf(vars:Nat)(x:XS)(h':HH)(f g:Int->Int):Prop where
 eq:Qcb x.h (CR vars x) (x.ch.reverse.map fun c=>((c.cells:Nat):Int)) (x.ch.reverse.map fun c=>((c.bound:Nat):Int))=(h',(CR vars x).map f,(x.ch.reverse.map fun c=>((c.cells:Nat):Int)).map f,(x.ch.reverse.map fun c=>((c.bound:Nat):Int)).map g,0)
 fn:∀a,0<=f a
 gn:∀a,0<=g a
theorem Row.anew{el sz g len cap:Nat}{xJ sp:T5}{xs:T5}(h:(xs++sp).length=cap*sz)(h1:xs.length=len*sz)(h2:len<=cap)(hp:0<len)(hl:xJ.length=xs.length):Row el sz (.slice (some ⟨g,0,none⟩) len cap) len xJ [(g,.cells (xJ++sp).toArray el)]:=
 Row.own_ Ya (by rw[XG]at h⊢;omega) h2 Ya
section
variable{M:T6}{w0:TG}{H:T0}{F0:T3}{b:Nat}{P:List LB}{pA:T4}{pc vars fuel every:Nat}
theorem Qod(x:XS)(h':HH)(fT gT:Int->Int)(w:TG)(pN:GO x)(hL:ST x.ln)(Fo:∀k∈ET x,k<x.ln.length)(Ji:0<x.ln.length)(hf:x.first= -1\/(0<=x.first/\x.first<x.ln.length))(hv8:vars<=8)(ht:QAf vars x h' fT gT)(hs:BT M w0 H F0 b P pA pc vars fuel every x w):
  Calls prog 56 #[ES b] w fun e w'=>e= .returned (.tuple #[])/\BT M w0 H F0 b P pA pc vars fuel every (Qki vars x) w':=by
 have rD:=QwS hL (fun c hc=>(pN.ch c hc).1) hf;have aMy:=pN.ln;have aMz:=pN.cn
 have Ff:Qki vars x=⟨h',x.goals,H4 (ET x) ((IB x.ln (ET x)).map fT) x.ln,x.first,(x.ch.map fun c=>⟨c.at_,c.cls,(fT (c.cells:Nat)).toNat,(gT (c.bound:Nat)).toNat⟩),x.ev⟩:=by
  unfold Qki;rw[ht.eq];dsimp only;rw[VY,VY,Qjn,<-U9,WU]
  have:((CR vars x).map fT).drop vars=(IB x.ln (ET x)).map fT:=by
   unfold CR;rw[VD,Xbm Yd];rfl
  rw[this];rfl
 rw[Ff];have vR:CR vars x=(List.range vars).map (fun v=>((v:Nat):Int))++IB x.ln (ET x):=rfl;obtain⟨d,F,oU,oK,hS⟩:=hs;refine Qg func56 rfl ntmps56 rfl ?_;apply Zq.p.a3.aH.cS.g3.1;refine Qx 18 2 (19::20::5::21::22::23::24::25::[]) (fun(i:Nat) v u w'=>∃(A:T4) (c:Nat) (O:T0),v= .int .i64 (i:Nat)/\u= .slice A i c/\i<=vars/\Row 3 1 (.slice A i c) i (Qr ((List.range i).map fun v=>((v:Nat):Int))) O/\St M w0 ((b,CO P pA pc vars fuel every x d)::(O++(d.O1++(d.O2++(d.O3++H))))) F w') (fun i=>vars-i) (0) ?_ Yb Yb ?_
 .exact⟨none,0,[],rfl,rfl,by omega,Row.nil_,hS⟩
 clear hS;rintro i _ _ _ _ ⟨A,c,O,rfl,rfl,hi,oE,hS⟩ ih;by_cases pU:i<vars
 .apply Zq.a8.aB.cY.bH.1;clear hS;intro b1 oQ hS;apply Zq.nJ.1;clear hS;intro v8 O8 w8 pC hS;obtain⟨A8,c8,rfl⟩:=pC.form;replace hS:=hS.perm (XK O8 [_] _);apply Zq.dN.1;refine ih (i+1) _ _ _ _ ?_ ?_ Yb Yb Yc
  .omega
  .refine⟨A8,c8,O8,rfl,rfl,by omega,?_,hS⟩;rw[XaY,VD,QgR];exact pC
 obtain rfl:vars=i:=by omega
 clear ih pU hi;apply Zq.W.h.1;replace hS:=hS.perm (.cons _ (Qlu O d.O1 d.O2 d.O3 H));apply Zq.F.1;refine XE (QuC (H:=O++H) (F0:=F) x _ pN hL Ji hf ⟨d,F,fun _ h=>h,oK,hS⟩) ?_;rintro _ _ ⟨_,vc,_,rfl,Nt,sQ,hq⟩;apply Zq.a.1;clear hS oK;obtain⟨d,F2,pF,oK,hS⟩:=hq;replace hS:=hS.perm (.cons _ (Qlu O d.O1 d.O2 d.O3 H).symm);have sI:=sQ.mono pF;have rT:∀φ∈F0,φ∈F2:=fun φ h=>pF φ (Nt φ (oU φ h));clear sQ;obtain⟨hA,hc,hB,hd,LA,lc,O1,cs,CA,cc,O2,evs,EA,ec,O3⟩:=d;have qD:Row 101 3 (.slice LA x.ln.length lc) x.ln.length (BP x.ln) O1:=oK.row1;obtain⟨gl,sp,rfl,rfl,pQ⟩:=qD.some_ Ji;have Uy:=qD.cap;have AP:cs.map LX.xc=x.ch:=oK.hc
 have Il:cs.length=x.ch.length:=by rw[<-AP];simp
 have oT:Row 151 4 (.slice CA cs.length cc) cs.length (BZ cs.reverse) O2:=oK.row2;generalize hIe:ET x=I at*;replace hS:St M w0 ((b,CO P pA pc vars fuel every x ⟨hA,hc,hB,hd,some ⟨gl,0,none⟩,lc,[(gl,.cells (BP x.ln++sp).toArray 101)],cs,CA,cc,O2,evs,EA,ec,O3⟩)::(O++((gl,.cells (BP x.ln++sp).toArray 101)::(O2++(O3++H))))) F2 _:=hS;apply Zq.M.aQ.1;refine Qx 30 2 (31::32::33::8::34::35::36::37::38::39::40::41::42::43::44::45::[]) (fun(R:T6) v u w'=>∃(D:T6) (A:T4) (c:Nat) (O:T0),I=D++R/\v= .int .i64 (D.length:Nat)/\u= .slice A (vars+D.length) c/\Row 3 1 (.slice A (vars+D.length) c) (vars+D.length) (Qr ((List.range vars).map (fun v=>((v:Nat):Int))++IB x.ln D)) O/\St M w0 ((b,CO P pA pc vars fuel every x ⟨hA,hc,hB,hd,some ⟨gl,0,none⟩,lc,[(gl,.cells (BP x.ln++sp).toArray 101)],cs,CA,cc,O2,evs,EA,ec,O3⟩)::(O++((gl,.cells (BP x.ln++sp).toArray 101)::(O2++(O3++H))))) F2 w') (fun R=>R.length) (I) ?_ Yb Yb ?_
 .exact⟨[],A,c,O,rfl,rfl,rfl,by simpa[IB]using oE,hS⟩
 clear hS oE;rintro R _ _ _ _ ⟨D,A,c,O,rG,rfl,rfl,oE,hS⟩ ih
 have oG:I.length=D.length+R.length:=by rw[rG];simp
 cases R with
 |cons k R=>
  simp only[XJ]at oG;obtain⟨bv,ov,rfl⟩:=(hS.und sI).some_ Ya;have Nk:=Fo k Y8
  have hk:∀{H'} w',St M w0 H' F2 w'->w'.cell? ⟨bv,ov+((D.length:Nat):Int).toNat*1,none⟩=some (.int .i64 (k:Nat)):=fun w' hS=>by
   have:=(hS.und sI).get (j:=D.length) (v:= .int .i64 (k:Nat)) (by rw[rG];simp[MQ,Qr]);rw[show((D.length:Nat):Int).toNat*1=D.length by omega];exact BS
  obtain⟨l0,_,_⟩:=UL x.ln k _ (RR Nk);have Xd:∀{M2 H' F'} w',St M2 w0 H' F' w'->(gl,Obj.cells (BP x.ln++sp).toArray 101)∈H'->_:=fun{M2 H' F'} w' (hS:St M2 w0 H' F' w') hm=>Row.cell (w:=w') qD hS Yv rfl l0;apply Zq.cB.T.i8.c.cY.O.hE.i8.g.bR.aI.i8.bH.1;clear hS;intro b1 oQ hS;apply Zq.nJ.1;clear hS;intro v8 O8 w8 pC hS;obtain⟨A8,c8,rfl⟩:=pC.form;replace hS:=hS.perm (XK O8 [_] _);apply Zq.dN.1;refine ih (R) _ _ _ _ ?_ ?_ Yb Yb Yc
  .simp
  .refine⟨D++[k],A8,c8,O8,by rw[rG];simp,by simp,by simp[WE],?_,hS⟩;have e:IB x.ln (D++[k])=IB x.ln D++[(AH x.ln k).g]:=by simp[IB]
   rw[e,<-VB,QgR,XG,<-WE];exact pC
 |nil=>
 simp only[XP]at oG
 have Uz:I=D:=by rw[rG];simp
 clear ih;obtain⟨F3,vI,Vs,hS⟩:=St.freezeRow oE (hS.perm VP.symm);dsimp only[CO,LS]at hS;apply Zq.W.aH.fO.i8.aQ.1;have wL:=sI.mono vI;have Hy:=oK.mono vI;have Va:∀φ∈F0,φ∈F3:=fun φ h=>vI φ (rT φ h);clear sI oK rT;refine QhJ 51 3 4 (52::53::54::10::55::56::57::58::59::60::61::62::63::64::65::[]) (fun(R:List LX) v u z w'=>∃(D:List LX) (A2:T4) (c2:Nat) (Ot:T0) (A3:T4) (c3:Nat) (Om:T0),cs.reverse=D++R/\v= .int .i64 (D.length:Nat)/\u= .slice A2 D.length c2/\z= .slice A3 D.length c3/\Row 3 1 (.slice A2 D.length c2) D.length (Qr (D.map fun c=>((c.cells:Nat):Int))) Ot/\Row 3 1 (.slice A3 D.length c3) D.length (Qr (D.map fun c=>((c.bound:Nat):Int))) Om/\St M w0 ((b,CO P pA pc vars fuel every x ⟨hA,hc,hB,hd,some ⟨gl,0,none⟩,lc,[(gl,.cells (BP x.ln++sp).toArray 101)],cs,CA,cc,O2,evs,EA,ec,O3⟩)::(Ot++(Om++((gl,.cells (BP x.ln++sp).toArray 101)::(O2++(O3++H)))))) F3 w') (fun R=>R.length) (cs.reverse) ?_ Yb Yb Yb ?_
 .exact⟨[],none,0,[],none,0,[],rfl,rfl,rfl,rfl,Row.nil_,Row.nil_,hS⟩
 clear hS;rintro R _ _ _ _ _ ⟨E,A2,c2,Ot,A3,c3,Om,Ww,rfl,rfl,rfl,uC,hrm,hS⟩ ih
 have sK:cs.length=E.length+R.length:=by
  have:=XM List.length Ww;simpa using this
 cases R with
 |cons k R=>
  simp only[XJ]at sK;obtain⟨k0,k1,k2,k3⟩:=Ql4 cs.reverse E.length k (by rw[Ww];simp);obtain⟨gc,yI,rfl,rfl,Ej⟩:=oT.some_ Ya;have pJ:∀{M2 H' F'} w',St M2 w0 H' F' w'->(gc,Obj.cells (BZ cs.reverse++yI).toArray 151)∈H'->_:=fun{M2 H' F'} w' (hS:St M2 w0 H' F' w') hm=>And.intro (Row.cell (w:=w') oT hS Yv rfl k0) (And.intro (Row.cell (w:=w') oT hS Yv rfl k1) (And.intro (Row.cell (w:=w') oT hS Yv rfl k2) (Row.cell (w:=w') oT hS Yv rfl k3)));apply Zq.cB.cF.hQ.R.1;clear hS;intro b1 oQ hS;apply Zq.d.1;clear hS;intro _ hS;apply Zq.b.h.Y.hI.bH.1;clear hS;intro _ _ hS;refine EQ (sz:=1) (bts:=8) hS Yb rfl rfl rfl rfl (uC) rfl rfl (.cons _ (XK [_,_] Ot _)) Ya Ya rfl ?_;clear hS;intro v8 O8 w8 pC hS;obtain⟨A8,c8,rfl⟩:=pC.form;replace hS:=hS.perm (XK O8 [_,_] _);apply Zq.c.u.bI.hI.bH.1;clear hS;intro _ _ hS;refine EQ (sz:=1) (bts:=8) hS Yb rfl rfl rfl rfl (hrm) rfl rfl (.cons _ (QgK [_,_] O8 Om _)) Ya Ya rfl ?_;clear hS;intro _ O9 w9 oO hS;obtain⟨A9,c9,rfl⟩:=oO.form;replace hS:=hS.perm (QgK [_,_] O8 O9 _).symm;apply Zq.dN.1;refine ih (R) _ _ _ _ _ ?_ ?_ Yb Yb Yb Yc
  .simp
  .refine⟨E++[k],A8,c8,O8,A9,c9,O9,by rw[Ww];simp,by simp,by simp,by simp,?_,?_,hS.drop⟩
   .rw[VD,QgR,XG];exact pC
   .rw[VD,QgR,XG];exact oO
 |nil=>
 simp only[XP]at sK
 have Wx:cs.reverse=E:=by rw[Ww];simp
 clear ih;obtain⟨_,Cu,hT4,hS⟩:=St.freezeRow uC (hS.perm VP.symm);obtain⟨F5,Ak,Sv,hS⟩:=St.freezeRow hrm (hS.perm VP.symm);apply Zq.W.i.bL.1
 first
  |refine Qa (Qb (k:=2) hS rfl rfl rfl Ym Yh) rfl ?_
  |refine Qa (Qb (k:=2) hS rfl rfl rfl Ym Ye) rfl ?_
  |refine Qa (M3 rfl rfl rfl Y9 Y9) rfl ?_
 apply Zq.aO.g.1;have Vb:∀φ∈F0,φ∈F5:=fun φ h=>Ak φ (Cu φ (Va φ h));have pK:=(Vs.mono Cu).mono Ak;have hT5:=hT4.mono Ak;have xX:=(Hy.mono Cu).mono Ak;have hV5:=(wL.mono Cu).mono Ak;clear hT4 Vs Hy wL Va;have aDv:x.ch.reverse=E.map LX.xc:=by rw[<-AP,<-U9,Wx]
 have Vc:=ht.eq;rw[vR,Uz,aDv,VY,VY]at Vc
 obtain⟨Rt,hRt⟩:∃Rt,Rt=(List.range vars).map (fun v=>((v:Nat):Int))++IB x.ln D:=⟨_,rfl⟩
 rw[<-hRt]at Vc pK
 obtain⟨Tt,Wy⟩:∃Tt,Tt=E.map (fun c=>((c.cells:Nat):Int)):=⟨_,rfl⟩
 obtain⟨Kt,Wz⟩:∃Kt,Kt=E.map (fun c=>((c.bound:Nat):Int)):=⟨_,rfl⟩
 rw[<-Wy]at hT5;rw[<-Wz]at Sv
 replace Vc:Qcb x.h Rt Tt Kt=(h',Rt.map fT,Tt.map fT,Kt.map gT,0):=by rw[Wy,Wz];exact Vc
 have wV:Rt.length=vars+D.length:=by rw[hRt];simp[IB]
 have zU:Tt.length=E.length:=by rw[Wy];simp
 have Ll:Kt.length=E.length:=by rw[Wz];simp
 have aGr:E.length=cs.length:=by rw[<-Wx];simp
 have hIl:D.length<=x.ln.length:=by rw[<-Uz];exact rD
 have hcall:∀{H'} w',St M w0 H' F5 w'->Calls prog 95 #[hv x.h hA hc hB hd,.slice A (vars+D.length) c,.slice A2 E.length c2,.slice A3 E.length c3] w' fun e qQ=>∃(A':T4) (c':Nat) (B':T4) (d':Nat) (a1 a2 a3:T4) (c1 c2 c3:Nat) (F':T3),
   e= .returned (.tuple #[hv h' A' c' B' d',.slice a1 (vars+D.length) c1,.slice a2 E.length c2,.slice a3 E.length c3,.int .i64 0])/\(∀φ∈F5,φ∈F')/\AB F' (FR h' A' c' B' d')/\AB F' (QG 1 (Qr (Rt.map fT)) a1 (vars+D.length) c1)/\AB F' (QG 1 (Qr (Tt.map fT)) a2 E.length c2)/\AB F' (QG 1 (Qr (Kt.map gT)) a3 E.length c3)/\St M w0 H' F' qQ:=by
  intro H' w' hS;have h0:=Qp8 x.h Rt Tt Kt hA hB A A2 A3 hc hd c c2 c3 w' xX.hh (by rw[wV];exact pK) (by rw[zU];exact hT5) (by rw[Ll];exact Sv) Ya Ya Ya hS;rw[Vc,wV,zU,Ll]at h0;refine h0.mono ?_;rintro e qQ ⟨A',c',B',d',a1,a2,a3,c1,c2,c3,F',he,uE,q1,q2,q3,q4,q5⟩;simp only[VQ,wV,zU,Ll]at he q2 q3 q4;exact⟨A',c',B',d',a1,a2,a3,c1,c2,c3,F',he,uE,q1,q2,q3,q4,q5⟩
 apply Zq.g9.1;refine XE (hcall _ hS) ?_;rintro _ _ ⟨A6,c6,B6,d6,a1,a2,a3,_,_,_,F6,rfl,Jk,hH6,Ny,ht6,hk6,oD⟩;apply Zq.a.1;replace hS:=oD;clear oD;have Fc:=xX.mono Jk;have Np:=hV5.mono Jk;have aDx:∀φ∈F0,φ∈F6:=fun φ h=>Jk φ (Vb φ h);clear hcall xX hV5 pK hT5 Sv Vb;apply Zq.e1.oC.iR.bL.d.1;clear hS;intro oQ hS;apply Zq.a3.m.aQ.1;replace hS:St M w0 ((b,CO P pA pc vars fuel every (XS.mk h' x.goals x.ln x.first x.ch x.ev) (XD.mk A6 c6 B6 d6 (some ⟨gl,0,none⟩) lc [] cs CA cc [] evs EA ec []))::((gl,.cells (BP x.ln++sp).toArray 101)::(O2++(O3++H)))) F6 _:=hS;refine Qp 85 (86::87::88::89::11::12::90::91::92::93::94::95::96::97::98::99::100::101::102::103::104::105::106::[]) (fun(R:T6) v w'=>∃(D1:T6) (L':List XL),I=D1++R/\v= .int .i64 (D1.length:Nat)/\L'.length=x.ln.length/\H4 R ((IB x.ln R).map fT) L'=H4 I ((IB x.ln I).map fT) x.ln/\St M w0 ((b,CO P pA pc vars fuel every (XS.mk h' x.goals x.ln x.first x.ch x.ev) (XD.mk A6 c6 B6 d6 (some ⟨gl,0,none⟩) lc [] cs CA cc [] evs EA ec []))::(gl,.cells (BP L'++sp).toArray 101)::(O2++(O3++H))) F6 w') (fun R=>R.length) (I) ?_ Yb ?_
 .exact⟨[],x.ln,rfl,rfl,rfl,rfl,hS⟩
 clear hS;rintro R _ _ _ ⟨D1,L',uX,rfl,Ee,wZ,hS⟩ ih
 have Fd:I.length=D1.length+R.length:=by rw[uX];simp
 cases R with
 |cons k R=>
  simp only[XJ]at Fd;obtain⟨bv,ov,rfl⟩:=(hS.und Np).some_ Ya;obtain⟨ba,oa,rfl⟩:=(hS.und Ny).some_ (by rw[Uz]at Fd;omega);have Nk:=Fo k (by rw[uX];simp)
  have hk:∀{H'} w',St M w0 H' F6 w'->w'.cell? ⟨bv,ov+((D1.length:Nat):Int).toNat*1,none⟩=some (.int .i64 (k:Nat)):=fun w' hS=>by
   have:=(hS.und Np).get (j:=D1.length) (v:= .int .i64 (k:Nat)) (by rw[uX];simp[MQ,Qr]);rw[show((D1.length:Nat):Int).toNat*1=D1.length by omega];exact BS
  have hg:∀{H'} w',St M w0 H' F6 w'->w'.cell? ⟨ba,oa+(((vars:Nat):Int)+((D1.length:Nat):Int)).toNat*1,none⟩=some (.int .i64 (fT (AH x.ln k).g)):=fun w' hS=>by
   have e0:Rt[vars+D1.length]?=some (AH x.ln k).g:=by
    rw[hRt,UC Yd,<-Uz,uX];simp[IB]
   have:=(hS.und Ny).get (j:=vars+D1.length) (v:= .int .i64 (fT (AH x.ln k).g)) (by simp[Qr,e0]);rw[show(((vars:Nat):Int)+((D1.length:Nat):Int)).toNat*1=vars+D1.length by omega];exact BS
  have qT:=Qx6 L' sp k (fT (AH x.ln k).g) Ya;have aNb:I.length=D.length:=by rw[Uz]
  dsimp only[CO,LS]at hS;apply Zq.a8.h.T.lC.K.jZ.1;replace hS:=hS.drew;apply Zq.aU.g5.kH.dS.aU.eA.kH.a5.iY.gC.kH.d0.bC.aD.n1.1;clear hS;intro w8 hS;apply Zq.b.aZ.1;refine ih (R) _ _ _ ?_ ?_ Yb Yc
  .simp
  .exact⟨D1++[k],MN L' k (fT (AH x.ln k).g),by rw[uX];simp,by simp,by rw[Qwv];exact Ee,wZ,hS⟩
 |nil=>
 clear ih;simp only[XP]at Fd;dsimp only[CO,LS]at hS;apply Zq.W.aT.fO.lC.aQ.1;replace wZ:L'=H4 I ((IB x.ln I).map fT) x.ln:=wZ;replace hS:=hS.perm (.cons _ (VP (l₁:=O2)).symm);refine Qp 112 (113::114::13::115::116::117::118::119::120::121::122::123::124::125::126::127::128::129::130::131::132::133::134::135::136::137::[]) (fun(R:List LX) v w'=>∃(E1:List LX) (Ax:T0),E=E1++R/\v= .int .i64 (E1.length:Nat)/\Row 151 4 (.slice CA cs.length cc) cs.length (BZ (E1.map (LX.up fT gT)++R)) Ax/\St M w0 ((b,CO P pA pc vars fuel every (XS.mk h' x.goals x.ln x.first x.ch x.ev) (XD.mk A6 c6 B6 d6 (some ⟨gl,0,none⟩) lc [] cs CA cc [] evs EA ec []))::(Ax++((gl,.cells (BP L'++sp).toArray 101)::(O3++H)))) F6 w') (fun R=>R.length) (E) ?_ Yb ?_
 .exact⟨[],O2,rfl,rfl,by rw[<-Wx];exact oT,hS⟩
 clear hS;rintro R _ w9 _ ⟨E1,Ax,Ct,rfl,oE,hS⟩ ih
 have Jj:E.length=E1.length+R.length:=by rw[Ct];simp
 cases R with
 |cons k R=>
  simp only[XJ]at Jj;have Vd:(E1.map (LX.up fT gT)).length=E1.length:=by simp
  generalize hEu:E1.map (LX.up fT gT)=Eu at*;have tJ:=oE.cap;have Ii:=oE.len_;obtain⟨gc,yI,rfl,rfl,Ej⟩:=oE.some_ Ya;obtain⟨bt,ot,rfl⟩:=(hS.und ht6).some_ Ya;obtain⟨bk,ok,rfl⟩:=(hS.und hk6).some_ Ya
  have uU:∀{H'} w',St M w0 H' F6 w'->w'.cell? ⟨bt,ot+((E1.length:Nat):Int).toNat*1,none⟩=some (.int .i64 (((fT (k.cells:Nat)).toNat:Nat):Int)):=fun w' hS=>by
   have:=(hS.und ht6).get (j:=E1.length) (v:= .int .i64 (fT (k.cells:Nat))) (by rw[Wy,Ct];simp[Qr]);rw[show((E1.length:Nat):Int).toNat*1=E1.length by omega,XaN (ht.fn _)];exact BS
  have sX:∀{H'} w',St M w0 H' F6 w'->w'.cell? ⟨bk,ok+((E1.length:Nat):Int).toNat*1,none⟩=some (.int .i64 (((gT (k.bound:Nat)).toNat:Nat):Int)):=fun w' hS=>by
   have:=(hS.und hk6).get (j:=E1.length) (v:= .int .i64 (gT (k.bound:Nat))) (by rw[Wz,Ct];simp[Qr]);rw[show((E1.length:Nat):Int).toNat*1=E1.length by omega,XaN (ht.gn _)];exact BS
  have Hm:FH (BZ (Eu++k::R)++yI) (E1.length*4+2) (.int .i64 (((fT (k.cells:Nat)).toNat:Nat):Int)) (BZ (Eu++k.cells' (fT (k.cells:Nat)).toNat::R)++yI):=by
   have:=Qwe (Eu++k::R) yI Eu.length (fT (k.cells:Nat)).toNat Yd
   rwa [Qly,Vd]at this
  have sV:FH (BZ (Eu++k.cells' (fT (k.cells:Nat)).toNat::R)++yI) (E1.length*4+3) (.int .i64 (((gT (k.bound:Nat)).toNat:Nat):Int)) (BZ (Eu++(k.cells' (fT (k.cells:Nat)).toNat).bound' (gT (k.bound:Nat)).toNat::R)++yI):=by
   have:=Qwd (Eu++k.cells' (fT (k.cells:Nat)).toNat::R) yI Eu.length (gT (k.bound:Nat)).toNat Yd
   rwa [Qly,Vd]at this
  replace hS:St M w0 ((b,CO P pA pc vars fuel every (XS.mk h' x.goals x.ln x.first x.ch x.ev) (XD.mk A6 c6 B6 d6 (some ⟨gl,0,none⟩) lc [] cs (some ⟨gc,0,none⟩) cc [] evs EA ec []))::(gc,.cells (BZ (Eu++k::R)++yI).toArray 151)::((gl,.cells (BP L'++sp).toArray 101)::(O3++H))) F6 _:=hS;dsimp only[CO,LS]at hS;apply Zq.a8.aB.E.m5.1;replace hS:=hS.drew;apply Zq.aU.gO.iH.dS.a5.gC.iH.hO.b5.aD.1;refine K7 hS rfl Yb rfl rfl (.tail .head) (by rw[XQ];exact Hm) (.tail .head) ?_;clear hS;intro _ hS;apply Zq.b.m5.1;replace hS:=hS.drew;apply Zq.aU.gO.iH.dS.a5.gC.iH.hO.eA.aD.1;refine K7 hS rfl Yb rfl rfl (.tail .head) (by rw[XQ];exact sV) (.tail .head) ?_;clear hS;intro _ hS;apply Zq.b.aZ.1;refine ih (R) _ _ _ ?_ ?_ Yb Yc
  .simp
  .refine⟨E1++[k],[(gc,.cells (BZ (Eu++(k.cells' (fT (k.cells:Nat)).toNat).bound' (gT (k.bound:Nat)).toNat::R)++yI).toArray 151)],by rw[Ct];simp,by simp,?_,hS⟩
   have e:(E1++[k]).map (LX.up fT gT)++R=Eu++(k.cells' (fT (k.cells:Nat)).toNat).bound' (gT (k.bound:Nat)).toNat::R:=by rw[VD,hEu];simp[LX.up,LX.cells',LX.bound']
   rw[e];exact Row.anew Ej Ii tJ Ya (by rw[NT,NT];simp)
 |nil=>
 clear ih;simp only[XP]at Jj;apply Zq.W.1;refine QN func56 rfl ?_;refine⟨rfl,⟨A6,c6,B6,d6,some ⟨gl,0,none⟩,lc,[(gl,.cells (BP L'++sp).toArray 101)],cs.map (LX.up fT gT),CA,cc,Ax,evs,EA,ec,O3⟩,F6,aDx,⟨hH6,?_,?_,?_,?_,Fc.he,Fc.re,Fc.row3,Fc.rp⟩,?_⟩
 .show Row _ 3 (.slice (some ⟨gl,0,none⟩) (H4 I ((IB x.ln I).map fT) x.ln).length lc) (H4 I ((IB x.ln I).map fT) x.ln).length (BP (H4 I ((IB x.ln I).map fT) x.ln)) _;rw[<-wZ,Ee];exact Row.anew pQ qD.len_ Uy Ji (by rw[QiZ,QiZ,Ee])
 .show(cs.map (LX.up fT gT)).map LX.xc=_;rw[<-AP,VY,VY];rfl
 .intro q hq;obtain⟨q',xC,rfl⟩:=X3.1 hq;exact Fc.rc q' xC
 .show Row _ 4 (.slice CA (cs.map (LX.up fT gT)).length cc) (cs.map (LX.up fT gT)).length (BZ (cs.map (LX.up fT gT)).reverse) Ax;rw[VQ,<-U9,Wx];rw[VF]at Ct oE;rw[Ct];exact oE
 .have h5:=hS.perm (.cons _ (VP (l₁:=Ax)))
  have em:CO P pA pc vars fuel every (XS.mk h' x.goals x.ln x.first x.ch x.ev) (XD.mk A6 c6 B6 d6 (some ⟨gl,0,none⟩) lc [] cs CA cc [] evs EA ec [])=CO P pA pc vars fuel every ⟨h',x.goals,H4 I ((IB x.ln I).map fT) x.ln,x.first,x.ch.map (fun c=>⟨c.at_,c.cls,(fT (c.cells:Nat)).toNat,(gT (c.bound:Nat)).toNat⟩),x.ev⟩ ⟨A6,c6,B6,d6,some ⟨gl,0,none⟩,lc,[(gl,.cells (BP L'++sp).toArray 101)],cs.map (LX.up fT gT),CA,cc,Ax,evs,EA,ec,O3⟩:=by
   show Obj.cells _ _ _=Obj.cells _ _ _;rw[<-wZ];simp[Ee]
  rw[em]at h5;exact h5
end
theorem Qri(T:Ts):∀(p:Nat),∀g∈(AQ T p).2,(p:Int)<=g/\g<=(p+(AQ T p).1.length:Nat):=by
 induction T with
 |nil=>intro p g hg;cases hg
 |cons k n s ar r _ ih=>
  intro p g hg;simp only[AQ,XG]at hg⊢;rcases XV.1 hg with rfl|hg
  .omega
  .have:=ih _ g hg;omega
theorem Qqb(c:Cl):(QB c).length=c.vars.toNat+((BV c.k c.n c.s c.hd c.vars.toNat).length+(AQ c.bd (c.vars.toNat+(BV c.k c.n c.s c.hd c.vars.toNat).length)).1.length):=by
 simp only[QB,XG,IZ]
theorem QxJ{c:Cl}(h:cB c=true):R9 c:=by
 obtain⟨h0,h1,h2,_,_⟩:=PN h;have hb:=ZU h;rw[Qqb]at hb;refine⟨h0,by omega,by unfold EE;rw[Qmy];omega,fun g hg=> ?_⟩;have:=Qri _ _ g hg;omega
theorem QyG{x:LB}(h:cB x.cl=true):x.ok:=by
 obtain⟨h0,h1,h2,_,_⟩:=PN h;have hb:=ZU h;refine⟨h0,by omega,by omega,?_⟩
 have e:(QB x.cl)[x.cl.vars.toNat]?=some (MO x.cl):=by
  unfold QB MO;rw[UC (by rw[IZ];omega),IZ,Nat.sub_self];unfold BV;by_cases hk:x.cl.k=3
  .rw[XB hk,XB hk];rfl
  .rw[XA hk,XA hk];rfl
 unfold AD;rw[XB h0];exact e
theorem Qvd{v:Nat}{q:Ts}(h:qB (v:Nat) q=true):(GS (v:Nat) q).length<=1000/\∀g∈GS (v:Nat) q,0<=g/\g<=1000000:=by
 simp only[qB,XI,XO]at h;obtain⟨⟨⟨_,_⟩,_⟩,v3⟩:=h;have hn:=Ts.goals_nodes _ _ v3;have rD:=Qmz q v;unfold GS;rw[X0];refine⟨by rw[Qmy];omega,fun g hg=> ?_⟩;have:=Qri _ _ g hg;omega
theorem CQ.cls{q f:Nat}{L:List XL}:∀{B:AC} {h:HH} {cs:List Ch} {ds:List XC} {n:Nat},CQ q f L B h cs ds->KP cs n->∀d∈ds,d.cls.length<=CH cs/\∀c∈d.cls,cB c=true
 |_,_,[],[],_,_,_,d,hd=>by cases hd
 |_,_,c::cs,e::ds,n,⟨R,g,_,_,_,_,b5,_,b7⟩,⟨_,_,_,_,k5,k6⟩,d,hd=>by
  rcases XV.1 hd with rfl|hd
  .rw[b5];exact⟨by simp only[CH];omega,k5⟩
  .obtain⟨h1,h2⟩:=b7.cls k6 d hd;exact⟨by simp only[CH];omega,h2⟩
theorem FV.goals150{q F:Nat}{s:SS}{x:XS}(H:FV q F s x):x.goals<=F/\F<=150:=by
 have:=H.i.fuel;have:=H.i.f150;omega
theorem FV.bd{q F:Nat}{s:SS}{x:XS}(H:FV q F s x):GO x:=by
 have hI:=H.gs.c;have hl:=H.i.ch.len;have h1:=hI.ch.len;have h2:=hI.fr;unfold mu at h2;have h3:=H.i.lsz;refine⟨by omega,by omega,fun d hd=> ?_⟩;obtain⟨_,c2⟩:=H.i.csz d hd;have hg:=H.goals150;obtain⟨k1,k2⟩:=H.i.ch.cls hI.ch d hd;exact⟨H.i.ch.at_lt d hd,by omega,by omega,by omega,fun c hc=>QxJ (k2 c hc)⟩
theorem FV.lnok{q F:Nat}{s:SS}{x:XS}(H:FV q F s x):ST x.ln:=by
 intro l hl;obtain⟨i,hi⟩:=List.mem_iff_getElem?.1 hl;have:=H.i.lnx i l hi
 have Lz:i<x.ln.length:=by
  rcases XY i x.ln.length with h|h
  .exact h
  .rw[XX h]at hi;cases hi
 omega
theorem at_mem:∀{T:Ts} {i:Nat},i<T.length->T.Mem (T.at_ i)
 | .nil,i,h=>by simp[Ts.length]at h
 | .cons k n s a r,0,h=> .inl rfl
 | .cons k n s a r,i+1,h=> .inr (at_mem (by simpa[Ts.length]using h))
theorem QwW{q f:Nat}{B:AC}{h:HH}{R:Tm->Int->Prop}(H:EK q f B h R)(hB:∀x∈B,AL x.2)(hl:h.cs.length<=65536){t:Tm}{a:Int}(ht:R t a)(hg:AL t):MM h a:=by
 have da:Qo h.cs a=true:=H.bm.db ht;have ho:BB h:=H.bm.okb;obtain⟨y,c,h1,h2,_,_⟩:=ho.view da;obtain⟨l1,l2⟩:=Qfc H ht
 have hc:BC h a=c:=by unfold BC;rw[h1.look,h2];rfl
 rw[hc]at l1 l2;refine⟨c,by rw[h1.look];exact h2,?_⟩;have sH:=Q4 (H9 ho.gl h2);by_cases hk:c.k=2
 .have hn:=l2 Ya;have hq:AL (Qc B t):=LN hB hg;obtain⟨g1,_⟩:=hq;simp only[Ts.good,XI]at g1;have g2:=g1.1.1;unfold CL at g2;rw[XA Ya,XA Ya,XB Ya]at g2;simp only[XI,XO]at g2;omega
 .rcases sH with⟨_,b1,b2,_⟩|⟨_,b1,_⟩|⟨b1,_⟩|⟨_,b1,b2,_⟩
  .omega
  .omega
  .exact absurd b1 hk
  .omega
theorem FV.stepOk{q F:Nat}{s:SS}{x:XS}(H:FV q F s x)(oN:x.first≠-1):Qv5 x:=by
 have hg:=H.goals150;have AP:=H.cs;have Fk:=H.ts;have oG:x.h.cs.length<=65536:=by omega
 obtain⟨R,hG,hC⟩:=H.cur
 cases yG:s.goals with
 |nil=>rw[yG]at hC;exact absurd hC oN
 |cons g rest=>
  rw[yG]at hC;obtain⟨k,l,hk,h2,h3,h4,h5,h6⟩:=hC;have xL:=UD h2
  have Nk:k<x.ln.length:=by
   rcases XY k x.ln.length with h|h
   .exact h
   .rw[XX h]at h2;cases h2
  obtain⟨_,c2,_,_,c5,c6,c7,c8⟩:=QgZ hG h3;have sT:=Q4 (H9 hG.bm.okb.gl c8);have yW:=H.gs.gg g (by rw[yG];exact X8 ..);have Kl:=H.gs.og;rw[yG]at Kl;have hl:=H.i.ch.len;refine⟨H.bd,oG,by omega,by omega,by omega,?_,?_⟩
  .rw[hk,X0,xL,h4];have:=Kl.1;omega
  .rw[hk,X0,xL];refine⟨_,c8,c5,by omega,fun hb hn=> ?_⟩
   have har:2<=g.1.ar.length:=by
    rw[<-c2];unfold Q1 at hb;rcases hn with e|e
    .rw[e]at hb;simp at hb;omega
    .rw[e]at hb;simp at hb;omega
   have hA:∀i,i<g.1.ar.length->MM x.h (l.g+1+(i:Nat)):=fun i hi=>QwW hG H.gs.c.gb oG (c7 hi) (GJ _ yW _ (at_mem hi));refine⟨by simpa using hA 0 Ya,by simpa using hA 1 Ya⟩
theorem FV.told{q F:Nat}{s:SS}{x:XS}(H:FV q F s x):∃(h':HH) (f g:Int->Int),QAf q x h' f g:=by
 obtain⟨R,hG,hC⟩:=H.cur;have rK:=H.i.gd
 have Ew:∀k∈ET x,Qo x.h.cs (AH x.ln k).g=true:=
  QhS (P:=Pl x.ln x.h.cs) (fun i hi hp=>hp.next i hi) _ _ (fun c hc=>H.i.ch.pl c (JD.1 hc)) (Qg4 (P:=Pl x.ln x.h.cs) (fun i hi hp=>hp.next i hi) _ _ _ ⟨_,_,hC,fun t a ht=>hG.bm.db ht.1⟩ fun k hk=>by cases hk)
 have vR:∀r∈CR q x,Qo x.h.cs r=true:=by
  intro r hr;unfold CR at hr;rcases VG.1 hr with hr|hr
  .exact Ydd
  .exact Yeo
 refine⟨⟨DK (QW x.h.cs (CR q x)) x.h.cs,EJ (QW x.h.cs (CR q x)) x.h.tr⟩,AK (QW x.h.cs (CR q x)),AK (x.h.tr.map (Qy (QW x.h.cs (CR q x)))),?_,fun a=>by show(0:Int)<=(rk _ _:Nat);omega,fun a=>by show(0:Int)<=(rk _ _:Nat);omega⟩;unfold Qcb;rw[XA (by rw[rK];decide),XA (by rw[VK.2 vR];decide)]
theorem FV.live{q F:Nat}{s:SS}{x:XS}(H:FV q F s x):(∀k∈ET x,k<x.ln.length)/\(x.first= -1\/(0<=x.first/\x.first<x.ln.length)):=by
 obtain⟨R,hG,hC⟩:=H.cur;have hb:=hC.bd;obtain⟨hI,_,pJ⟩:=QuW H.i.lnx hb.1 hb.2 H.i.ch.at_lt;exact⟨hI.lt,by omega⟩
def Iv(q F n:Nat)(x:XS):Prop:=∃s:SS,FV q F s x/\s.ev.length<12/\mu s<n
theorem Iv.start{q:Ts}{v F:Nat}(hq:qB (v:Nat) q=true)(hF:F<=150):Iv v F 4000 (M5 q (v:Nat)):=by
 obtain⟨_,_⟩:=QgB hq hF;exact⟨_,Qnv hq hF,by simp[FU],by omega⟩
theorem Iv.next{P:List Cl}{q F every n:Nat}{x:XS}(hp:pB P=true)(h:Iv q F n x):∃n',n=n'+1/\(Qby P q F every x).2.ev.length<=12/\((Qby P q F every x).1=0->Iv q F n' (Qby P q F every x).2):=by
 obtain⟨s,H,pX,_⟩:=h;obtain⟨h1,h2,h3⟩:=QqK (every:=every) hp H pX;obtain⟨oM,Dk⟩:=UE (vars:=q) H.gs pX hp;have aDy:=QtO P q s H.gs pX hp;refine⟨n-1,by omega,by rw[h2];exact aDy,fun h0=> ?_⟩;rw[<-h1]at h0;exact⟨_,h3 h0,Dk h0,by have:=(oM.go h0).2;omega⟩
section
variable{M:T6}{w0:TG}{H:T0}{F:T3}
theorem QsB{b:Nat}{P:List LB}{pA:T4}{pc vars fuel every n:Nat}{x:XS}(hp:pB (P.map LB.cl)=true)(hIv:Iv vars fuel n x)(Uv:every<=9223372036854775807)(w:TG)(hs:BT M w0 H F b P pA pc vars fuel every x w):
  Calls prog 31 #[ES b] w fun e w'=>e= .returned (.int .i64 (Qby (P.map LB.cl) vars fuel every x).1)/\BT M w0 H F b P pA pc vars fuel every (Qby (P.map LB.cl) vars fuel every x).2 w':=by
 obtain⟨s,hR,pX,_⟩:=hIv
 have sV:(P.map LB.cl).length<=24/\∀x∈P.map LB.cl,cB x=true:=by
  exact R1
 have Wh:=hR.i.q8;have hg:=hR.goals150
 have Mb:FV vars fuel s (QT vars every x)/\(QT vars every x).first=x.first/\(QT vars every x).goals=x.goals:=by
  unfold QT;split
  .exact QrC hR
  .exact⟨hR,rfl,rfl⟩
 refine QuB x w (fun p hpm=> ?_) (by simpa using sV.1) Wh hR.bd (by rw[hR.i.ev];exact pX) Ya hg.1 Uv (fun h1 h2 h3 h4 w2 rN=> ?_) (fun h1 h2=>⟨?_,Mb.2.2⟩) hs
 .have:=sV.2 p.cl (X3.2 ⟨p,hpm,rfl⟩);exact⟨QyG this,QxJ this⟩
 .obtain⟨h',f,g,ht⟩:=hR.told;obtain⟨Fo,hf⟩:=hR.live;exact Qod x h' f g w2 hR.bd hR.lnok Fo Ya hf Wh ht rN
 .exact Mb.1.stepOk (by rw[Mb.2.1];exact h1)
theorem Qso(X:List LC)(xA:T4)(xc:Nat)(q:TA)(qA:T4)(qc:Nat)(vars fuel every:Int)(w:TG)(hX:AB F (E6 X xA xc))(hq:AB F (AV qA qc q))
  (tM:X.length<=9223372036854775807) (Ve:Qv9 (X.map LC.cl)) (Oa:q.len<=9223372036854775807) (Mq:q.ts.wide) (pX:every<=9223372036854775807) (hS:St M w0 H F w):
  Calls prog 12 #[.slice xA X.length xc,.slice qA q.len qc,.int .i64 vars,.int .i64 fuel,.int .i64 every] w fun e w'=>∃(A:T4) (c:Nat) (L:List KE) (F':T3),e= .returned (.tuple #[.slice A L.length c,.int .i64 (Qpa (X.map LC.cl) q.ts vars fuel every).2])/\L.map KE.ev=(Qpa (X.map LC.cl) q.ts vars fuel every).1/\(∀φ∈F,φ∈F')/\AB F' (K8 L A c)/\St M w0 H F' w':=by
 by_cases hp:pB (X.map LC.cl)=true
 case neg=>
  exact QiG (fun _ _=>False) X xA xc q qA qc vars fuel every w hX hq (fun w' hS=>QbK _ _ w' (hS.und hX).slC (by simpa using tM) Ve) (fun w' hS=>UN vars _ _ w' (hS.und hq).sl Yay Mq)
   (fun h=>absurd h hp) (fun h=>absurd h hp) (fun _ _ _ _ _ _ _ _ h=>h.elim) (fun _ _ h=>h.elim) hS
 by_cases vD:qB vars q.ts=true
 case neg=>
  exact QiG (fun _ _=>False) X xA xc q qA qc vars fuel every w hX hq (fun w' hS=>QbK _ _ w' (hS.und hX).slC (by simpa using tM) Ve) (fun w' hS=>UN vars _ _ w' (hS.und hq).sl Yay Mq)
   (fun _ h=>absurd h vD) (fun _ h=>absurd h vD) (fun _ _ _ _ _ _ _ _ h=>h.elim) (fun _ _ h=>h.elim) hS
 by_cases hf:0<=fuel/\fuel<=150
 case neg=>
  exact QiG (fun _ _=>False) X xA xc q qA qc vars fuel every w hX hq (fun w' hS=>QbK _ _ w' (hS.und hX).slC (by simpa using tM) Ve) (fun w' hS=>UN vars _ _ w' (hS.und hq).sl Yay Mq)
   (fun _ _ h1 h2=>absurd ⟨h1,h2⟩ hf) (fun _ _ h1 h2=>absurd ⟨h1,h2⟩ hf) (fun _ _ _ _ _ _ _ _ h=>h.elim) (fun _ _ h=>h.elim) hS
 have sV:(X.map LC.cl).length<=24/\∀x∈X.map LC.cl,cB x=true:=by
  exact R1
 have wG:=vD;simp only[qB,XI,XO]at wG
 obtain⟨v,rfl⟩:∃v:Nat,vars=v:=⟨vars.toNat,by omega⟩
 have Fp:=Qvd (v:=v) (q:=q.ts) vD
 have hXw:∀c∈X,c.hd.ar.len<=9223372036854775807/\c.hd.ar.ts.wide/\c.bd.len<=9223372036854775807/\c.bd.ts.wide:=fun c hc=>by
  have h1:=Ve c.cl (X3.2 ⟨c,hc,rfl⟩);have h2:=c.hd.ar.len_ts;have h3:=c.bd.len_ts;obtain⟨a1,a2,a3,a4⟩:=h1;exact⟨by rw[<-h2];exact a1,a2,by rw[<-h3];exact a3,a4⟩
 have qN:∀c∈X,cB c.cl=true:=fun c hc=>sV.2 c.cl (X3.2 ⟨c,hc,rfl⟩);have Fy:X.length<=24:=by simpa using sV.1
 have oM:=Iv.start (q:=q.ts) (v:=v) (F:=fuel.toNat) vD Ya;have vJ:=fun w' hS=>QkH (M:=M) (w0:=w0) (H:=H) (F:=F) X xA xc q qA qc v fuel.toNat every.toNat w' hX hq Fy Fp Oa Mq hXw qN vD hS;have Aq:∀w',St M w0 H F w'->Calls prog 28 #[.slice xA X.length xc] w' fun e qQ=>e= .returned (.bool (pB (X.map LC.cl)))/\Below w'.heap.size w' qQ:=fun w' hS=>QbK _ _ w' (hS.und hX).slC (by simpa using tM) Ve;have qW:∀w',St M w0 H F w'->Calls prog 29 #[.slice qA q.len qc,.int .i64 (v:Nat)] w' fun e qQ=>e= .returned (.bool (qB (v:Nat) q.ts))/\Below w'.heap.size w' qQ:=fun w' hS=>UN (v:Nat) _ _ w' (hS.und hq).sl Yay Mq;refine QiG (Iv v fuel.toNat) X xA xc q qA qc (v:Nat) fuel every w hX hq Aq qW (fun _ _ _ _ _ w' hS=> ?_) (fun _ _ _ _ _=>oM) (fun b P pA pc F1 Wv n s hI w' hs=> ?_) (fun n s hI=> ?_) hS
 .rw[X0];exact vJ w' hS
 .rw[X0]at hs⊢;rw[<-Wv];exact QsB (by rw[Wv];exact hp) hI Ya w' hs
 .rw[X0];exact hI.next hp
end
theorem QzM(p:List Cl)(q:Ts)(vars fuel every:Int):(Qpa p q vars fuel every).1.length<=1000/\∀x∈(Qpa p q vars fuel every).1,x.2.nodes<=1073741824:=by
 by_cases h:every<0
 .rw[QiX _ _ _ _ _ h];split
  .exact YcT
  .exact YcT
 .rw[QmZ _ _ _ _ _ Ya];exact QyX p q vars fuel
theorem Qzg(p:List Cl)(q:Ts)(vars fuel every:Int):Qpa p q vars fuel every=if(CK p q vars fuel).2=0/\every<0 then([],2)else CK p q vars fuel:=by
 by_cases h:every<0
 .rw[QiX _ _ _ _ _ h];by_cases h0:(CK p q vars fuel).2=0
  .obtain⟨hp,hq,_⟩:=QxW h0;rw[XA (by rw[hp,hq];simp),XB ⟨h0,h⟩]
  .have e:(if(CK p q vars fuel).2=0/\every<0 then(([],2):List Ev×Int)else CK p q vars fuel)=CK p q vars fuel:=XA (fun hh=>h0 hh.1);rw[e];unfold CK at h0⊢;split
   .rfl
   .rename_i hb;rw[XA hb]at h0;split
    .rfl
    .rename_i hf;rw[XA hf]at h0;exact absurd rfl h0
 .rw[QmZ _ _ _ _ _ Ya,XA (fun hh=>h hh.2)]
section
variable{M:T6}{w0:TG}{H:T0}{F:T3}
theorem Qyt(X:List LC)(pA:T4)(pc:Nat)(T:TA)(qA:T4)(qc:Nat)(vars fuel every:Int)(w:TG)(hX:AB F (E6 X pA pc))(hT:AB F (AV qA qc T))(hn:KF (X.map LC.cl)<=1048576)(Cj:T.ts.nodes<=1048576)(hS:St M w0 H F w):
  Calls prog 15 #[.slice pA X.length pc,.slice qA T.len qc,.int .i64 vars,.int .i64 fuel,.int .i64 every] w fun e w'=>∃(A:T4) (c:Nat) (L:List KE) (F':T3),e= .returned (.tuple #[.slice A L.length c,.int .i64 (Qpa (X.map LC.cl) T.ts vars fuel every).2])/\L.map KE.ev=(Qpa (X.map LC.cl) T.ts vars fuel every).1/\(∀φ∈F,φ∈F')/\AB F' (K8 L A c)/\St M w0 H F' w':=by
 have oV:∀w:TG,K8 [] none 0 w:=fun w=>⟨XF _,fun h=>by simp at h,fun x hx=>by cases hx⟩
 have Am:=fun(w:TG) (hS:St M w0 H F w)=>Qr9 X pA pc T qA qc vars fuel w hX hT hn Cj hS;rw[QtP]at Am;rw[Qzg];refine Qet func15 rfl ntmps15 rfl ?_;apply Zq.aY.i.aO.g9.1;refine XE (Am _ hS) ?_;rintro _ _ ⟨A9,c9,L9,F9,rfl,hL9,rI,hK9,oD⟩;apply Zq.a.1;replace hS:=oD;clear oD;generalize CK (X.map LC.cl) T.ts vars fuel=r at*;by_cases h0:r.2=0
 .by_cases h1:every<0
  .rw[XB ⟨h0,h1⟩];apply Zq.b2.m.l.n.I.H.aY.jY.1;exact⟨none,0,[],F9,rfl,rfl,rI,fun w _=>oV w,hS⟩
  .rw[XA (fun hh=>h1 hh.2)];apply Zq.b2.m.l.n.I.N.i.K.jY.1;exact YeF
 .rw[XA (fun hh=>h0 hh.1)];apply Zq.b2.m.l.aS.N.i.K.jY.1;exact YeF
end
abbrev PI(p B:TH):Obj:= .cells [p,B].toArray 118
section
variable{M:T6}{w0:TG}{H:T0}{F:T3}{b:Nat}
theorem Qf0(p:TH)(A:T4)(l c:Nat)(w:TG)(hp:P8 b p)(hS:St M w0 ((b,PI p (.slice A l c))::H) F w):
  Calls prog 107 #[DT b] w fun e w'=>e= .returned (.tuple #[])/\St M w0 ((b,PI (DT b) (.slice A l c))::H) F w':=by
 have Mx:=QgC (hS.at_ .head);rcases hp with rfl|rfl
 .exact Ycg
 .exact YdB
theorem QeC(p B:TH)(l x:AA)(O:T0)(w:TG)(hp:P8 b p)(hB:H0 l B O)(hl:l.length+x.length<=1099511627776)(hS:St M w0 ((b,PI p B)::(O++H)) F w):
  Calls prog 66 #[DT b,sv x] w fun e w'=>∃B' O',e= .returned (.tuple #[.int .i64 (x.length:Nat),.nilIface])/\H0 (l++x) B' O'/\St M w0 ((b,PI (DT b) B')::(O'++H)) F w':=by
 obtain⟨A,c,rfl⟩:=hB.form;apply Zq.nE.aY.Z.1;refine XE (Qf0 p A _ c _ hp hS) ?_;rintro _ _ ⟨rfl,oD⟩;apply Zq.a.1;replace hS:=oD;clear oD;apply Zq.cZ.O.aE.g.nY.1;clear hS;intro B' O' _ sN hS;replace hS:=hS.raise;obtain⟨_,_,rfl⟩:=sN.form;apply Zq.O.L.J.1;clear hS;intro _ hS;apply Zq.b.h.c5.K.nO.iG.1;show Row _ _ _ (l++x).length (CV (l++x)) _;rw[XG,show CV (l++x)=CV l++CV x by simp[CV]];exact sN
theorem QfO(p B:TH)(l:AA)(c:UInt8)(O:T0)(w:TG)(hp:P8 b p)(hB:H0 l B O)(hl:l.length+1<=1099511627776)(hS:St M w0 ((b,PI p B)::(O++H)) F w):
  Calls prog 65 #[DT b,.int .u8 c.toNat] w fun e w'=>∃B' O',e= .returned .nilIface/\H0 (l++[c]) B' O'/\St M w0 ((b,PI (DT b) B')::(O'++H)) F w':=by
 obtain⟨A,cc,rfl⟩:=hB.form;apply Zq.lR.e.Z.1;refine XE (Qf0 p A _ cc _ hp hS) ?_;rintro _ _ ⟨rfl,oD⟩;apply Zq.a.1;replace hS:=oD;clear oD;apply Zq.cZ.O.aE.g.bH.1;clear hS;intro _ _ hS;apply Zq.lT.1;clear hS;intro B' O' _ sN hS;replace hS:=hS.raise;obtain⟨_,_,rfl⟩:=sN.form;apply Zq.O.L.J.1;clear hS;intro _ hS;apply Zq.b.e.n7.iG.1;show Row _ _ _ (l++[c]).length (CV (l++[c])) _;rw[XG,show CV (l++[c])=CV l++CV [c] by simp[CV]];exact sN
theorem Qpm(p B:TH)(l:AA)(O:T0)(w:TG)(hB:H0 l B O)(hl:l.length<=1099511627776)(hS:St M w0 ((b,PI p B)::(O++H)) F w):
  Calls prog 69 #[DT b] w fun e w'=>e= .returned (sv l)/\St M w0 H F w':=by
 have hF:=hS;have vL:Row 5 1 B l.length (CV l) O:=hB;clear hB;generalize rD:l.length=ll at vL;generalize rA:CV l=bl at vL
 cases vL with
 |nil_=>
  exact Ybv
 |own_ h1 h2 h3 h4=>
  rename_i g cap sp;have hg:w.heap[g]?=some (.cells (bl++sp).toArray 5):=hF.own (g,_) Yd;replace hS:=St.dropMid' hS;apply Zq.iD.e.E.i2.1;replace hS:=hS.drew;apply Zq.aU.cM.aN.aU.cM.aN.eH.aR.k2.eW.aR.1;by_cases yL:l=[]
  .exact Ydi
  .have Of:=Xbq (P:=prog) w.drew 167 3 9 5 Yc Yc g (bl++sp).length (QgC (w:=w.drew) hg) l yL YaJ Ya ?_
   .exact YbD
   .intro j x hx;subst rA;have hj:j<l.length:=(W8.1 hx).1
    have:(CV l++sp)[j]?=some (.int .u8 x.toNat):=by
     rw[VO (by simp[CV];omega)];simp[CV,hx]
    rw[<-this,<-Qs (w:=w.drew) hg j];simp only[Addr.add];split
    .rename_i h0;subst h0;rfl
    .simp
end
end Go.Proofs.YthliapbflkfdiacGreatDoor
