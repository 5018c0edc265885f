/- Steps of the proof. -/
import Derived.Test.YthliapbflkfdiacGreatDoorG17
set_option linter.unusedVariables false
set_option linter.unusedSimpArgs false
set_option maxRecDepth 100000
set_option maxHeartbeats 1000000
namespace Go.Proofs.YthliapbflkfdiacGreatDoor
open Go.Proofs.Tryz
open Go.RowKit Go.Shelf
theorem Qln:∀d,d<=100->Qhh d
 |0,h=>QnP 0 h fun e he=>by omega
 |d+1,h=>QnP (d+1) h fun e he=>by
  obtain rfl:d=e:=by omega
  exact Qln d Ya
theorem QpC:Qhh 24:=Qln 24 Yf
theorem QoE(p:PS)(L V:TH)(VH:T0)(M:T6)(w0 w:TG)(H:T0)(F:T3)(b:Nat)(φ:TG->Prop)(hφ:φ∈F)
  (hl:p.l.length<=2000) (qY:p.vars.length+p.l.length<=4000) (hL:Sx φ L p.l) (hV:GC p.vars V VH) (hS:St M w0 ((b,IR L V p.bad)::(VH++H)) F w):
  Calls prog 82 #[ptr b] w fun e w'=>∃v L' V' sZ,e= .returned v/\Sx φ L' (QJ p).2.l/\GC (QJ p).2.vars V' sZ/\
   St M w0 ((b,IR L' V' (QJ p).2.bad)::(sZ++H)) ((fun w=>Sl w (fun _=>True) v (AJ (QJ p).1))::F) w':=by
 have hf:=PK 24;refine Qg func82 rfl ntmps82 rfl ?_;apply Zq.e.aF.1;refine XE (QpC p L V VH M w0 _ H F b φ hφ hl qY hL hV hS) ?_;rintro _ _ ⟨v,L1,V1,zM,rfl,yB,sQ,oD⟩;apply Zq.a.1;replace hS:=oD;clear oD;obtain⟨A1,c1,rfl,_⟩:=(hS.fact (.head _)).form;have xF:=hf p;have tA:=TQ 24 p;have hi:QJ p=([(Ql 24 p).1]++(QL (Ql 24) (Ql 24 p).2.l.length (Ql 24 p).2).1,(QL (Ql 24) (Ql 24 p).2.l.length (Ql 24 p).2).2.close [46]):=rfl;generalize Ql 24 p=r1 at*;obtain⟨nd,p1⟩:=r1;dsimp only at*;apply Zq.dZ.1;clear hS;intro _ _ hS;apply Zq.c2.1
 have Oo:=(St.sink (L:=(b,IR L1 V1 p1.bad)::zM) hS).conv (ψ:=fun w=>Cs w (fun _=>True) (AJ [nd]) [.int .i64 nd.k,.int .i64 nd.n,sv nd.s,.slice A1 nd.ar.length c1]) fun w h=>⟨_,[],rfl,h,rfl⟩
 clear hS;refine Qp 3 (7::8::9::10::11::12::13::14::15::16::17::18::19::20::[]) (fun(x:List Nd×PS) v w'=>∃L V VH O xs,Sx φ L x.2.l/\GC x.2.vars V VH/\Row 63 4 v x.1.length xs O/\St M w0 ((b,IR L V x.2.bad)::(VH++(O++H))) ((fun w=>Cs w (fun _=>True) (AJ x.1) xs)::F) w'/\x.1.length+x.2.l.length<=2001/\x.2.l.length<=2000/\x.2.vars.length+x.2.l.length<=4000/\QJ p=(x.1++(QL (Ql 24) x.2.l.length x.2).1,(QL (Ql 24) x.2.l.length x.2).2.close [46])) (fun x=>x.2.l.length) (([nd],p1)) ?_ Yb ?_
 .exact⟨L1,V1,zM,_,_,yB,sQ,Row.built rfl Yf,Oo,by show 1+p1.l.length<=_;omega,by show p1.l.length<=_;omega,by show p1.vars.length+p1.l.length<=_;omega,hi⟩
 clear Oo hi sQ yB;rintro⟨D,p4⟩ _ _ _ ⟨L4,V4,yU,O5,xs,Dv,Bf,pK,hS,uX,vW,Jv,hi⟩ ih;dsimp only at Dv Bf pK hS uX vW Jv hi;obtain⟨l4,oP,Kp⟩:=p4;dsimp only at Dv Bf pK hS uX vW Jv hi;obtain⟨Ao,co,rfl⟩:=pK.form
 have rP:∀(L:TH) (bd:Bool) (w':TG),St M w0 ((b,IR L V4 bd)::(yU++(O5++H))) ((fun w=>Cs w (fun _=>True) (AJ D) xs)::F) w'->St M w0 ((b,IR L V4 bd)::(yU++H)) ((fun w=>Sl w (fun _=>True) (.slice Ao D.length co) (AJ D))::F) w':=by
  intro L bd w' h;have h2:=h.perm (XK ((b,IR L V4 bd)::yU) O5 H);exact YdU
 cases Kp with
 |true=>
  have oM:=UB (f:=Ql 24) (p:=⟨l4,oP,true⟩) Yd;dsimp only at oM;rw[oM]at hi;have Dw:PS.close ⟨l4,oP,true⟩ [46]=⟨l4,oP,true⟩:=rfl;simp only[VF,Dw]at hi;rw[hi];apply Zq.dF.X.aS.q.bE.i.O.a6.bX.q.dL.1;clear hS;intro pP hS;apply Zq.b.aB.jK.1;exact Yek
 |false=>
  cases rH:PS.has ⟨l4,oP,false⟩ [44]with
  |true=>
   have oM:=Qe5 hf (p:=⟨l4,oP,false⟩) ⟨rfl,rH⟩;have Kq:=(PA rH).1;dsimp only[PS.pop]at Kq oM;have pY:=MP ⟨l4,oP,false⟩ [44] _ _ _ Dv (.tail _ hφ) hS;rw[rH]at pY;simp only[X5,PS.pop]at pY;apply Zq.dF.X.n.f.fM.1;rintro _ w7 ⟨L5,rfl,Dx,oD⟩;apply Zq.a.1;replace hS:=oD;clear oD;apply Zq.H.eM.cY.f.1;refine XE (QpC ⟨l4.tail,oP,false⟩ L5 _ yU M w0 _ _ _ b φ (.tail _ hφ) (by show l4.tail.length<=_;omega) (by show oP.length+l4.tail.length<=_;omega) Dx Bf hS) ?_;rintro _ w8 ⟨v,L6,V6,Kr,rfl,Dy,Np,oD⟩;apply Zq.a.1;replace hS:=oD;clear oD pY;obtain⟨A6,c6,rfl,_⟩:=(hS.fact (.head _)).form;have Dz:=hf ⟨l4.tail,oP,false⟩;have Ea:=TQ 24 ⟨l4.tail,oP,false⟩;dsimp only at Dz Ea;generalize Ql 24 ⟨l4.tail,oP,false⟩=r6 at*;obtain⟨Bg,p6⟩:=r6;dsimp only at*;apply Zq.dZ.1;clear hS;intro _ pP hS;refine EQ (sz:=4) (bts:=56) hS Yb rfl rfl rfl rfl (pK) rfl rfl (.cons _ (XK (_::Kr) O5 H)) Ya Ya rfl ?_;clear hS;intro _ O9 _ Eb hS
   replace hS:=(hS.perm (XK O9 (_::Kr) H)).conv2 (ψ:=fun w=>Cs w (fun _=>True) (AJ (D++[Bg])) (xs++[.int .i64 Bg.k,.int .i64 Bg.n,sv Bg.s,.slice A6 Bg.ar.length c6])) fun w h1 h2=>by
    exact Yct
   obtain⟨_,_,rfl⟩:=Eb.form;apply Zq.bO.1;refine ih ((D++[Bg],p6)) _ _ _ ?_ ?_ Yb Yc
   .show p6.l.length<l4.length;omega
   .refine⟨L6,V6,Kr,O9,_,Dy,Np,?_,hS,?_,?_,?_,?_⟩
    .exact Yc6
    .exact OB
    .show p6.l.length<=_;omega
    .exact YeE
    .rw[hi,oM];simp
  |false=>
   have oM:=UB (f:=Ql 24) (p:=⟨l4,oP,false⟩) (by simp[rH]);dsimp only at oM;rw[oM]at hi;simp only[VF]at hi;have pY:=MP ⟨l4,oP,false⟩ [44] _ _ _ Dv (.tail _ hφ) hS;rw[rH]at pY;simp only[X6,XT]at pY;apply Zq.dF.X.n.f.fM.1;rintro _ w7 ⟨L5,rfl,Dx,oD⟩;apply Zq.a.1;replace hS:=oD;clear oD;apply Zq.q.bE.i.O.a6.n.1;have sM:=MP ⟨l4,oP,false⟩ [46] _ _ _ Dx (.tail _ hφ) hS
   cases pJ:PS.has ⟨l4,oP,false⟩ [46]with
   |true=>
    have Dw:PS.close ⟨l4,oP,false⟩ [46]=⟨l4.tail,oP,false⟩:=by unfold PS.close;rw[XA Yd,XB pJ];rfl
    rw[Dw]at hi;rw[hi];rw[pJ]at sM;simp only[X5,PS.pop]at sM;exact Ybh
   |false=>
    have Dw:PS.close ⟨l4,oP,false⟩ [46]=⟨l4,oP,true⟩:=by unfold PS.close;rw[XA Yd,XA (by simp[pJ])];rfl
    rw[Dw]at hi;rw[hi];rw[pJ]at sM;simp only[X6,XT]at sM;exact Ybh
def Qz1(f:PS->Nd×PS):Prop:=∀p,(f p).1.ar.nodes+(f p).2.l.length<=p.l.length
theorem Qia{f:PS->Nd×PS}(hf:Qz1 f):∀(n:Nat) (p:PS),(AJ (QL f n p).1).nodes+(QL f n p).2.l.length<=p.l.length
 |0,p=>by simp[QL,AJ,Ts.nodes]
 |n+1,p=>by
  unfold QL;split
  .rename_i h;have h1:=(PA h.2).1;have h2:=hf p.pop;have h3:=Qia hf n (f p.pop).2;exact Yd3
  .simp[AJ,Ts.nodes]
theorem Qb5{f:PS->Nd×PS}(hf:Qz1 f)(t:AA)(p:PS):(AJ (QO f t p).1).nodes+(QO f t p).2.l.length<=p.l.length+1:=by
 have h1:=Qia hf (f p).2.l.length (f p).2;have h2:=hf p;have h3:=QiT (QL f (f p).2.l.length (f p).2).2 t;simp only[QO,AJ,Ts.nodes];omega
theorem UR:∀d,Qz1 (Ql d)
 |0,p=>by simp[Ql,Nd.zero,Ts.nodes,PS.spoil]
 |d+1,p=>by
  unfold Ql;split
  .simp[Nd.zero,Ts.nodes,PS.spoil]
  .simp[Nd.zero,Ts.nodes,PS.spoil]
  .rename_i c r q hl;have h1:p.pop.l.length+1=p.l.length:=by simp[PS.pop,hl]
   split
   .exact KD
   split
   .simp only[Ts.nodes];rw[(QqZ _ _).1];omega
   split
   .exact KD
   split
   .simp[Nd.zero,Ts.nodes,PS.spoil]
   split
   .rename_i hp;have h2:=Qb5 (UR d) [41] p.pop.pop;have h3:=(PA hp).1;exact DM
   .exact KD
theorem Qhl:∀(n:Nat) (l:AA),(KB n l).length<=l.length
 |0,l=>by simp[KB]
 |n+1,[]=>by simp[KB]
 |n+1,c::r=>by
  unfold KB;split
  .have:=Qhl n r;simp;omega
  split
  .simp
  .rename_i h;have:=Qhl n ((c::r).drop (Qz (c::r)));rw[V0]at this;simp at this⊢;omega
theorem Qi4(l:AA):(FT l).length<=l.length:=Qhl _ _
theorem QzV(p:PS):(AJ (Q5 p).1).nodes<=p.l.length+1:=by
 unfold Q5;split
 .have h1:=Qb5 (UR 24) [46] p.pop;have h2:=PB p;unfold QJ;omega
 .simp[AJ,Ts.nodes]
section
variable{M:T6}{w0:TG}{H:T0}{F:T3}
theorem QjJ(l:AA)(w:TG)(yL:l.length<=1125899906842624)(hS:St M w0 H F w):
  Calls prog 47 #[sv l] w fun e w'=>∃v,e= .returned (.tuple #[v,.int .i64 (QF l).2])/\St M w0 H ((fun w=>EM w (fun _=>True) v (QF l).1)::F) w':=by
 have sE:∀w,EM w (fun _=>True) (.slice none 0 0) []:=fun w=>⟨none,0,rfl,XF _,fun h=>by cases h⟩
 have oV:∀w:TG,Sl w (fun _=>True) (.slice none 0 0) .nil:=fun w=>⟨none,0,rfl,XF _,fun h=>by cases h⟩
 by_cases rZ:2000<l.length
 .have e:QF l=([],3):=by unfold QF;rw[XB rZ]
  rw[e];apply Zq.k4.aY.m.c5.S.v.aY.fJ.1;exact⟨_,rfl,hS.learn fun w _=>sE w⟩
 have sL:=Qi4 l;apply Zq.k4.aY.m.c5.S.D.Z.1;refine XE (Qnd l _ Ya hS) ?_;rintro _ _ ⟨_,_,rfl,zR,oD⟩;apply Zq.a.1;obtain⟨φ,yB,hS⟩:=St.shutS zR oD;clear oD zR;obtain⟨_,_,rfl,uU⟩:=yB.form;apply Zq.lM.d3.1;clear hS;intro b1 _ hS;apply Zq.c.e.b8.1;refine Qp 5 (14::15::16::17::18::19::20::21::22::23::24::25::6::26::27::28::29::30::31::32::33::34::35::36::37::38::39::40::41::42::43::44::45::46::47::48::49::50::51::52::53::54::55::56::57::58::59::60::61::62::63::64::2::3::65::66::67::68::[]) (fun(x:List Cl×PS) v w'=>∃L V VH O xs,Sx φ L x.2.l/\GC x.2.vars V VH/\Row 65 6 v x.1.length xs O/\St M w0 ((b1,IR L V false)::(VH++(O++H))) ((fun w=>KT w x.1 xs)::φ::F) w'/\x.2.bad=false/\x.1.length+x.2.l.length<=2000/\FE (PS.start l).l.length (PS.start l)=(FE x.2.l.length x.2).map (x.1++·)) (fun x=>x.2.l.length) (([],PS.start l)) ?_ Yb ?_
 .exact⟨_,_,[],[],[],yB,Row.nil_,Row.nil_,hS.learn (fun _ _=>rfl),rfl,by show 0+(FT l).length<=_;omega,by simp⟩
 clear hS yB;rintro⟨D,p0⟩ _ _ _ ⟨_,_,xG,O2,Gn,Ko,sI,tY,hS,wA,uX,hi⟩ ih;obtain⟨l0,xO,_⟩:=p0;dsimp only at Ko sI tY hS wA uX hi;subst wA;obtain⟨A2,c2,rfl,sX⟩:=Ko.form;obtain⟨_,_,rfl⟩:=sI.form;obtain⟨_,_,rfl⟩:=tY.form
 cases l0 with
 |nil=>
  have hz:=Qgd (p:=⟨[],xO,false⟩) rfl;dsimp only at hz;rw[hz]at hi;simp only[X7,VF]at hi;by_cases zP:24<D.length
  .have e:QF l=([],3):=by unfold QF;rw[XA rZ,hi];simp only[XB zP]
   rw[e];apply Zq.bU.y.bP.bE.m.bP.v.aY.fJ.1;exact⟨_,rfl,(St.dropL (L:=O2) (St.dropL (L:=xG) hS.drop)).unlearn.unlearn.learn fun w _=>sE w⟩
  .have e:QF l=(D,0):=by unfold QF;rw[XA rZ,hi];simp only[XA zP]
   rw[e];apply Zq.bU.y.bP.bE.m.bP.D.h.K.fJ.a.1;have hq:=St.shutC tY (St.dropL (L:=xG) hS.drop)
   exact hq.forget fun ψ hψ=>by
    rcases XV.1 hψ with rfl|hψ
    .exact .head _
    .exact .tail _ (.tail _ hψ)
 |cons x0 r0=>
  have oN:(PS.mk (x0::r0) xO false).l≠[]:=by simp
  simp only[XJ]at sX;have aAc:(x0::r0).length=r0.length+1:=rfl;have pJ:Qv ⟨x0::r0,xO,false⟩=(⟨(Ql 24 ⟨x0::r0,[],false⟩).1.k,(Ql 24 ⟨x0::r0,[],false⟩).1.n,⟨(Ql 24 ⟨x0::r0,[],false⟩).1.s.toArray⟩,(Ql 24 ⟨x0::r0,[],false⟩).1.ar,AJ (Q5 (Ql 24 ⟨x0::r0,[],false⟩).2).1,((Q5 (Ql 24 ⟨x0::r0,[],false⟩).2).2.vars.length:Nat)⟩,(Q5 (Ql 24 ⟨x0::r0,[],false⟩).2).2):=rfl;have xF:=PK 24 ⟨x0::r0,[],false⟩;have tA:=TQ 24 ⟨x0::r0,[],false⟩;have Ks:=UR 24 ⟨x0::r0,[],false⟩;dsimp only at xF tA Ks;simp only[XP,XQ]at tA;apply Zq.bU.y.bP.c3.aT.L.J.1;clear hS;intro _ hS;apply Zq.b.h.1;replace hS:=St.dropMid (L:=xG) hS;apply Zq.f.1;refine XE (QpC ⟨x0::r0,[],false⟩ _ _ [] M w0 _ (O2++H) _ b1 φ (.tail _ (.head _)) (by show(x0::r0).length<=_;omega) (by show 0+(x0::r0).length<=_;omega) Ko Row.nil_ hS) ?_;rintro _ _ ⟨u,L3,_,uY,rfl,Ha,wL,oD⟩;apply Zq.a.1;replace hS:=oD;clear oD;obtain⟨A3,c3,rfl,_⟩:=(hS.fact (.head _)).form;generalize Ql 24 ⟨x0::r0,[],false⟩=r3 at*;obtain⟨nd,p1⟩:=r3;obtain⟨l1,pE,Rf⟩:=p1;dsimp only at*;have hbn:=QzV ⟨l1,pE,Rf⟩;dsimp only at hbn;obtain⟨_,_,rfl⟩:=wL.form;apply Zq.m1.eV.1;clear hS;intro _ _ hS;apply Zq.d.1;clear hS;intro _ hS;apply Zq.b.dF.X.g.1
  cases Rf with
  |true=>
   have pN:Q5 ⟨l1,pE,true⟩=([],⟨l1,pE,true⟩):=rfl;apply Zq.cG.q.gA.cY.O.a6.bX.q.dL.1;clear hS;intro vN hS;apply Zq.dT.aE.aC.cQ.J.1;clear hS;intro zO hS;apply Zq.b.dF.bX.H.aY.fJ.1
   have e:QF l=([],1):=by
    exact Ybp
   exact YaR
  |false=>
   cases rH:PS.has ⟨l1,pE,false⟩ [58,45]with
   |true=>
    have pN:Q5 ⟨l1,pE,false⟩=QJ ⟨l1.tail,pE,false⟩:=by unfold Q5;rw[XB ⟨rfl,rH⟩];rfl
    have pY:=MP ⟨l1,pE,false⟩ [58,45] _ _ _ Ha (.tail _ (.tail _ (.head _))) hS.swap;rw[rH]at pY;simp only[X5,PS.pop]at pY;have Jy:=(PA rH).1;dsimp only[PS.pop]at Jy;have Rg:=Qb5 (UR 24) [46] ⟨l1.tail,pE,false⟩
    have Hb:(AJ (QJ ⟨l1.tail,pE,false⟩).1).nodes<=l1.tail.length+1:=by unfold QJ;dsimp only at Rg;omega
    clear Rg;apply Zq.P.f.fM.1;rintro _ w4 ⟨L5,rfl,Dx,oD⟩;apply Zq.a.1;replace hS:=oD;clear oD;replace hS:=hS.swap;apply Zq.H.u.F.1;refine XE (QoE ⟨l1.tail,pE,false⟩ L5 _ uY M w0 _ _ _ b1 φ (.tail _ (.tail _ (.head _))) (by show l1.tail.length<=_;omega) (by show pE.length+l1.tail.length<=_;omega) Dx wL hS.sink1) ?_;rintro _ w5 ⟨v,L7,_,Rh,rfl,Ft,hV7,oD⟩;apply Zq.a.1;replace hS:=oD.raise1;clear oD pY;obtain⟨A7,c7,rfl,_⟩:=(hS.fact (.head _)).form;generalize QJ ⟨l1.tail,pE,false⟩=q7 at*;obtain⟨Bl,l7,tB,Ku⟩:=q7;dsimp only at*;obtain⟨_,_,rfl⟩:=hV7.form
    cases Ku with
    |true=>
     apply Zq.d4.J.1;clear hS;intro vN hS;apply Zq.dT.aE.aC.cQ.J.1;clear hS;intro zO hS;apply Zq.b.dF.bX.H.aY.fJ.1
     have e:QF l=([],1):=by
      exact Ybp
     exact YbH
    |false=>
     apply Zq.d4.J.1;clear hS;intro vN hS;apply Zq.dT.aE.aC.cQ.J.1;clear hS;intro zO hS;apply Zq.b.dF.t.fD.j.1;have hg:=Qff ⟨nd.k,nd.n,⟨nd.s.toArray⟩,nd.ar,(AJ Bl),(tB.length:Nat)⟩ _ _ _ (hS.fact (.tail _ (.head _))) (hS.fact (.head _)) YM YM;apply Zq.F.kA.1;rintro _ w8 ⟨rfl,Ec⟩;apply Zq.a.1;replace hS:=hS.grow Ec
     cases oK:cB ⟨nd.k,nd.n,⟨nd.s.toArray⟩,nd.ar,(AJ Bl),(tB.length:Nat)⟩with
     |false=>
      apply Zq.bW.H.aY.fJ.1
      have e:QF l=([],1):=by
       exact Ycj
      exact YbH
     |true=>
      have Kv:l7.length<(x0::r0).length:=by
       exact YcQ
      have oM:=U1 oN Yaw;rw[pJ,pN]at oM;dsimp only at oM;apply Zq.bW.N.u.fD.h9.1;clear hS;intro b3 Rd hS;refine EQ (sz:=6) (bts:=88) hS Yb rfl rfl rfl rfl (tY) rfl rfl (.cons _ (XK (_::_::Rh) O2 H)) Ya Ya rfl ?_;clear hS;intro v9 O9 w9 Eb hS
      replace hS:=(hS.perm (XK O9 (_::_::Rh) H)).conv2 (ψ:=fun w=>Sl w (fun _=>True) (.slice A3 nd.ar.length c3) nd.ar/\Sl w (fun _=>True) (.slice A7 ((AJ Bl):Ts).length c7) (AJ Bl)) fun w h1 h2=>⟨h2,h1⟩
      replace hS:=hS.conv2 (ψ:=fun w=>KT w (D++[⟨nd.k,nd.n,⟨nd.s.toArray⟩,nd.ar,(AJ Bl),(tB.length:Nat)⟩]) (Gn++[.int .i64 nd.k,.int .i64 nd.n,sv nd.s,.slice A3 nd.ar.length c3,.slice A7 ((AJ Bl):Ts).length c7,.int .i64 (tB.length:Nat)])) fun w h1 h2=>h2.app ⟨_,_,[],rfl,h1.1,h1.2,rfl⟩;obtain⟨A9,c9,rfl⟩:=Eb.form;apply Zq.bO.1;refine ih ((D++[⟨nd.k,nd.n,⟨nd.s.toArray⟩,nd.ar,(AJ Bl),(tB.length:Nat)⟩],⟨l7,tB,false⟩)) _ _ _ ?_ ?_ Yb Yc
      .exact Kv
      .refine⟨L7,_,Rh,O9,_,Ft,hV7,?_,hS.drop,rfl,?_,?_⟩
       .exact Yc6
       .exact OB
       .rw[hi,oM];simp[WR,Function.comp_def]
   |false=>
    have Ri:Q5 ⟨l1,pE,false⟩=([],PS.close ⟨l1,pE,false⟩ [46]):=by unfold Q5;rw[XA (by simp[rH])]
    have pY:=MP ⟨l1,pE,false⟩ [58,45] _ _ _ Ha (.tail _ (.tail _ (.head _))) hS.swap;rw[rH]at pY;simp only[X6,XT]at pY;apply Zq.P.f.fM.1;rintro _ w4 ⟨L5,rfl,Dx,oD⟩;apply Zq.a.1;replace hS:=oD;clear oD;replace hS:=hS.swap;apply Zq.q.gA.cY.O.a6.n.1;have sM:=MP ⟨l1,pE,false⟩ [46] _ _ _ Dx (.tail _ (.tail _ (.head _))) hS.swap
    cases hcl2:PS.has ⟨l1,pE,false⟩ [46]with
    |false=>
     have pN:Q5 ⟨l1,pE,false⟩=([],⟨l1,pE,true⟩):=by rw[Ri];unfold PS.close;rw[XA Yd,XA (by simp[hcl2])];rfl
     rw[hcl2]at sM;simp only[X6,XT]at sM;apply Zq.f.gP.1;rintro _ w5 ⟨L7,rfl,Ft,oD⟩;apply Zq.a.1;replace hS:=oD;clear oD;replace hS:=hS.swap;apply Zq.bW.q.dL.1;clear hS;intro vN hS;apply Zq.dT.aE.aC.cQ.J.1;clear hS;intro zO hS;apply Zq.b.dF.bX.H.aY.fJ.1
     have e:QF l=([],1):=by
      exact Ybp
     exact YaR
    |true=>
     have pN:Q5 ⟨l1,pE,false⟩=([],⟨l1.tail,pE,false⟩):=by rw[Ri];unfold PS.close;rw[XA Yd,XB hcl2];rfl
     rw[hcl2]at sM;simp only[X5,PS.pop]at sM;have vO:(AJ ([]:List Nd)).nodes=0:=rfl;apply Zq.f.gP.1;rintro _ w5 ⟨L7,rfl,Ft,oD⟩;apply Zq.a.1;replace hS:=oD;clear oD;replace hS:=hS.swap.learn (φ:=fun w=>Sl w (fun _=>True) (.slice none 0 0) (AJ [])) fun w _=>oV w;apply Zq.bW.q.dL.1;clear hS;intro vN hS;apply Zq.dT.aE.aC.cQ.J.1;clear hS;intro zO hS;apply Zq.b.dF.t.fD.j.1;have hg:=Qff ⟨nd.k,nd.n,⟨nd.s.toArray⟩,nd.ar,(AJ []),(pE.length:Nat)⟩ _ _ _ (hS.fact (.tail _ (.head _))) (hS.fact (.head _)) YM YM;apply Zq.F.kA.1;rintro _ w8 ⟨rfl,Ec⟩;apply Zq.a.1;replace hS:=hS.grow Ec
     cases oK:cB ⟨nd.k,nd.n,⟨nd.s.toArray⟩,nd.ar,(AJ []),(pE.length:Nat)⟩with
     |false=>
      apply Zq.bW.H.aY.fJ.1
      have e:QF l=([],1):=by
       exact Ycj
      exact YaR
     |true=>
      have Kv:l1.tail.length<(x0::r0).length:=by
       exact YcQ
      have oM:=U1 oN Yaw;rw[pJ,pN]at oM;dsimp only at oM;apply Zq.bW.N.u.fD.h9.1;clear hS;intro b3 Rd hS;refine EQ (sz:=6) (bts:=88) hS Yb rfl rfl rfl rfl (tY) rfl rfl (.cons _ (XK (_::_::uY) O2 H)) Ya Ya rfl ?_;clear hS;intro v9 O9 w9 Eb hS
      replace hS:=(hS.perm (XK O9 (_::_::uY) H)).conv2 (ψ:=fun w=>Sl w (fun _=>True) (.slice A3 nd.ar.length c3) nd.ar/\Sl w (fun _=>True) (.slice none ((AJ []):Ts).length 0) (AJ [])) fun w h1 h2=>⟨h2,h1⟩
      replace hS:=hS.conv2 (ψ:=fun w=>KT w (D++[⟨nd.k,nd.n,⟨nd.s.toArray⟩,nd.ar,(AJ []),(pE.length:Nat)⟩]) (Gn++[.int .i64 nd.k,.int .i64 nd.n,sv nd.s,.slice A3 nd.ar.length c3,.slice none ((AJ []):Ts).length 0,.int .i64 (pE.length:Nat)])) fun w h1 h2=>h2.app ⟨_,_,[],rfl,h1.1,h1.2,rfl⟩;obtain⟨A9,c9,rfl⟩:=Eb.form;apply Zq.bO.1;refine ih ((D++[⟨nd.k,nd.n,⟨nd.s.toArray⟩,nd.ar,(AJ []),(pE.length:Nat)⟩],⟨l1.tail,pE,false⟩)) _ _ _ ?_ ?_ Yb Yc
      .exact Kv
      .refine⟨L7,_,uY,O9,_,Ft,wL,?_,hS.drop,rfl,?_,?_⟩
       .exact Yc6
       .exact OB
       .rw[hi,oM];simp[WR,Function.comp_def]
end
section
variable{M:T6}{w0:TG}{H:T0}{F:T3}
theorem Qmi(l:AA)(w:TG)(yL:l.length<=1125899906842624)(hS:St M w0 H F w):
  Calls prog 48 #[sv l] w fun e w'=>∃v,e= .returned (.tuple #[v,.int .i64 ((MU l).2.1:Nat),.int .i64 (MU l).2.2])/\St M w0 H ((fun w=>Sl w (fun _=>True) v (MU l).1)::F) w':=by
 have oV:∀w:TG,Sl w (fun _=>True) (.slice none 0 0) .nil:=fun w=>⟨none,0,rfl,XF _,fun h=>by cases h⟩
 by_cases rZ:2000<l.length
 .have e:MU l=(.nil,0,3):=by unfold MU;rw[XB rZ]
  rw[e];apply Zq.k3.p.a3.m.c5.S.dG.a3.hK.1;exact⟨_,rfl,hS.learn fun w _=>oV w⟩
 have sL:=Qi4 l;apply Zq.k3.p.a3.m.c5.S.D.Z.1;refine XE (Qnd l _ Ya hS) ?_;rintro _ _ ⟨_,_,rfl,zR,oD⟩;apply Zq.a.1;obtain⟨φ,yB,hS⟩:=St.shutS zR oD;clear oD zR;obtain⟨_,_,rfl,uU⟩:=yB.form;apply Zq.lM.d3.1;clear hS;intro b1 _ hS;apply Zq.c.Z.1;refine XE (QoE (PS.start l) _ _ [] M w0 _ H _ b1 φ (.head _) (by show(FT l).length<=_;omega) (by show 0+(FT l).length<=_;omega) yB Row.nil_ hS) ?_;rintro _ _ ⟨v,L3,_,uY,rfl,Ha,wL,oD⟩;apply Zq.a.1;replace hS:=oD;clear oD;obtain⟨A3,c3,rfl,_⟩:=(hS.fact (.head _)).form;have Rg:=Qb5 (UR 24) [46] (PS.start l)
 have Hb:(AJ (QJ (PS.start l)).1).nodes<=2001:=by
  exact Ydp
 clear Rg
 have e0:MU l=if(QJ (PS.start l)).2.bad=true\/(QJ (PS.start l)).2.l≠[]\/qB ((QJ (PS.start l)).2.vars.length:Nat) (AJ (QJ (PS.start l)).1)=false then(.nil,0,1)else(AJ (QJ (PS.start l)).1,(QJ (PS.start l)).2.vars.length,0):=by unfold MU;rw[XA rZ]
 generalize QJ (PS.start l)=g at*;obtain⟨Bl,l7,tB,Ku⟩:=g;dsimp only at*;obtain⟨_,_,rfl⟩:=wL.form;obtain⟨_,_,rfl,_⟩:=Ha.form
 have xP:∀(w':TG) (X:Nat×Obj),St M w0 (X::(uY++H)) ((fun w=>Sl w (fun _=>True) (.slice A3 (AJ Bl).length c3) (AJ Bl))::φ::F) w'->St M w0 H ((fun w=>Sl w (fun _=>True) (.slice none 0 0) .nil)::F) w':=fun w' X h=>
  ((St.dropL (L:=uY) h.drop).forget (F':=F) fun ψ hψ=>by simp[hψ]).learn fun w _=>oV w
 cases Ku with
 |true=>
  rw[XB (.inl rfl)]at e0;rw[e0];apply Zq.c.dF.c8.q.c8.cG.H.p.a3.hK.1;exact Yel
 |false=>
  cases l7 with
  |cons x r=>
   rw[XB (.inr (.inl Yd))]at e0;rw[e0];have pU:(x::r).length=r.length+1:=rfl;apply Zq.c.dF.n.c9.aI.aK.dA.S.q.c8.cG.H.p.a3.hK.1;exact Yel
  |nil=>
   have hq:=Qgh (tB.length:Nat) (AJ Bl) _ _ (hS.fact (.head _)) Ya
   cases hqb:qB (tB.length:Nat) (AJ Bl)with
   |false=>
    rw[XB (.inr (.inr hqb))]at e0;rw[e0];rw[hqb]at hq;apply Zq.c.dF.n.c9.aI.aK.dA.S.dM.t.c9.L.aK.dA.f.1;refine XE (hq) ?_;rintro _ w4 ⟨rfl,sJ⟩;apply Zq.a.1;replace hS:=hS.grow sJ;apply Zq.bW.H.p.a3.hK.1;exact Yel
   |true=>
    rw[XA (by simp[hqb])]at e0;rw[e0];rw[hqb]at hq;apply Zq.c.dF.n.c9.aI.aK.dA.S.dM.t.c9.L.aK.dA.f.1;refine XE (hq) ?_;rintro _ w4 ⟨rfl,sJ⟩;apply Zq.a.1;replace hS:=hS.grow sJ;apply Zq.bW.N.E.nP.1;replace hS:=hS.drew;apply Zq.a5.aU.cM.aN.eH.bK.bK.bK.dK.hK.a.1
    exact(St.dropL (L:=uY) hS.drop).forget fun ψ hψ=>by
     rcases XV.1 hψ with rfl|hψ
     .exact .head _
     .exact .tail _ (.tail _ hψ)
end
section
variable{P:Program}{n:Nat}{e:AW}{w:TG}{ty:TypeId}{pos:String}{after:TE}{dst:TD}{x y:Operand}{t t2:TypeId}
theorem Qwx{a c m:Int}{ts:Array TypeId}(hx:ev n e x= .int .i64 a)(hy:ev n e y= .int .i64 c)(hm:m=if a<c then c else a):
  (execOp (ev n e) ⟨dst,.call ⟨.builtin .max, #[x,y],ts⟩,ty,pos,after,none⟩).run P w= .ok (.value (.int .i64 m)) w:=by
 subst hm;simp only[execOp,resolve,VZ,VE,JA,hx,hy,bind,pure,Sem.bind,invoke,builtin,Builtin.max_,List.foldlM,Builtin.max2];by_cases h:a<c
 .rw[XB h];simp[h,Sem.run,Sem.bind];try rfl
 .rw[XA h];simp[h,Sem.run,Sem.bind];try rfl
theorem QiE{a c m:Int}{ts:Array TypeId}(hx:ev n e x= .int .i64 a)(hy:ev n e y= .int .i64 c)(hm:m=if c<a then c else a):
  (execOp (ev n e) ⟨dst,.call ⟨.builtin .min, #[x,y],ts⟩,ty,pos,after,none⟩).run P w= .ok (.value (.int .i64 m)) w:=by
 subst hm;simp only[execOp,resolve,VZ,VE,JA,hx,hy,bind,pure,Sem.bind,invoke,builtin,Builtin.min_,List.foldlM,Builtin.min2];by_cases h:c<a
 .rw[XB h];simp[h,Sem.run,Sem.bind];try rfl
 .rw[XA h];simp[h,Sem.run,Sem.bind];try rfl
theorem QqR{a c:Int}(hx:ev n e x= .int .i64 a)(hy:ev n e y= .int .i64 c)(h0:0<c)(ha:0<=a):
  (execOp (ev n e) ⟨dst,.binOp .rem t x y t2,ty,pos,after,none⟩).run P w= .ok (.value (.int .i64 (a%c))) w:=by
 have h1:¬c=0:=by omega
 have h2:Op.intDiv .rem .i64 a c=pure (.int .i64 (a.tmod c)):=by unfold Op.intDiv;rw[XA h1]
 have h3:(execOp (ev n e) ⟨dst,.binOp .rem t x y t2,ty,pos,after,none⟩).run P w=((Op.intDiv .rem .i64 a c).bind fun r=>pure (.value r)).run P w:=by simp only[execOp,hx,hy];rfl
 rw[h3,h2,J2 ha];rfl
end
section
variable{P:Program}{n:Nat}{e:AW}{w:TG}{ty:TypeId}{pos:String}{after:TE}{dst:TD}{x y:Operand}{t t2:TypeId}
theorem Qym{a:Int}(hx:ev n e x= .int .i64 a)(h1: -9223372036854775808<=-a)(h2: -a<=9223372036854775807):
  (execOp (ev n e) ⟨dst,.unOp .neg t x,ty,pos,after,none⟩).run P w= .ok (.value (.int .i64 (-a))) w:=by
 have:(execOp (ev n e) ⟨dst,.unOp .neg t x,ty,pos,after,none⟩).run P w= .ok (.value (.int .i64 (IntKind.i64.wrap (0-a)))) w:=by simp only[execOp,hx];rfl
 rw[this,Int.zero_sub,N8 h1 h2]
theorem QnE{a:Int}(hx:ev n e x= .int .i64 a)(hy:ev n e y= .int .i64 10)(h1: -9223372036854775808<=a)(h2:a<=9223372036854775807):
  (execOp (ev n e) ⟨dst,.binOp .quo t x y t2,ty,pos,after,none⟩).run P w= .ok (.value (.int .i64 (a.tdiv 10))) w:=by
 have:(execOp (ev n e) ⟨dst,.binOp .quo t x y t2,ty,pos,after,none⟩).run P w= .ok (.value (.int .i64 (IntKind.i64.wrap (a.tdiv 10)))) w:=by simp only[execOp,hx,hy];rfl
 have h3: -9223372036854775808<=a.tdiv 10/\a.tdiv 10<=9223372036854775807:=by
  by_cases h:a<0
  .obtain⟨k,rfl⟩:∃k:Nat,a= -(k:Int):=⟨a.natAbs,by omega⟩
   rw[Int.neg_tdiv,SV Ya];omega
  .rw[SV Ya];omega
 rw[this,N8 h3.1 h3.2]
theorem QnD{a:Int}(hx:ev n e x= .int .i64 a)(hy:ev n e y= .int .i64 10):
  (execOp (ev n e) ⟨dst,.binOp .rem t x y t2,ty,pos,after,none⟩).run P w= .ok (.value (.int .i64 (a.tmod 10))) w:=by simp only[execOp,hx,hy];rfl
end
theorem QsT(m:Nat)(h:m<10):(([48,49,50,51,52,53,54,55,56,57]:AA).take (((m:Nat):Int)+1).toNat).drop ((m:Nat):Int).toNat=[UInt8.ofNat (48+m)]:=by
 have hh:∀i:Fin 10,(([48,49,50,51,52,53,54,55,56,57]:AA).take (((i.val:Nat):Int)+1).toNat).drop ((i.val:Nat):Int).toNat=[UInt8.ofNat (48+i.val)]:=by decide+kernel
 exact hh ⟨m,h⟩
theorem Qex(n:Int)(h0: -10<n)(h1:n<10)(w:TG):Calls prog 37 #[.int .i64 n] w fun e w'=>e= .returned (sv (Lib.itoa n))/\w'=w:=by
 have hS:=St.start w
 obtain⟨m,hm⟩:∃m:Nat,(m:Int)=if n< -n then -n else n:=⟨n.natAbs,by split<;>omega⟩
 have Kw:m<10:=by split at hm<;>omega
 have hd:=QsT m Kw
 have Ni:Lib.itoa n=if n<0 then 45::[UInt8.ofNat (48+m)]else[UInt8.ofNat (48+m)]:=by
  unfold Lib.itoa;by_cases h:n<0
  .rw[XB h,XB h,show n.natAbs=m by split at hm<;>omega,JZ Kw]
  .rw[XA h,XA h,show n.toNat=m by split at hm<;>omega,JZ Kw]
 refine Qg func37 rfl ntmps37 rfl ?_;apply Zq.bV.S.n.I.q.b.1;by_cases hn:n<0
 .rw[XB hn]at Ni;rw[Ni];apply Zq.cD.i.fL.fA.aO.fL.fA.C.eE.M.I.b.1;rw[hd];apply Zq.cD.h.iE.c.h7.1;exact FI
 .rw[XA hn]at Ni;rw[Ni];apply Zq.cD.i.fL.fA.aO.fL.fA.C.eE.M.I.b.1;rw[hd];apply Zq.bS.aW.aB.h7.1;exact FI
theorem Qu4(n:Int)(h:n<=-10\/10<=n):Lib.itoa n=Lib.itoa (n.tdiv 10)++Lib.itoa (if n.tmod 10< -(n.tmod 10)then -(n.tmod 10)else n.tmod 10):=by
 rcases h with h|h
 .obtain⟨k,rfl⟩:∃k:Nat,n= -(k:Int):=⟨n.natAbs,by omega⟩
  have hk:10<=k:=by omega
  have e1:(-(k:Int)).tdiv 10= -((k/10:Nat):Int):=by rw[Int.neg_tdiv,SV Ya];simp
  have e2:(-(k:Int)).tmod 10= -((k%10:Nat):Int):=by rw[Int.neg_tmod,J2 Ya];simp
  rw[e1,e2]
  have e3:(if -((k%10:Nat):Int)< - -((k%10:Nat):Int)then- -((k%10:Nat):Int)else -((k%10:Nat):Int))=((k%10:Nat):Int):=by split<;>omega
  rw[e3,Lib.itoa_neg k Ya,Lib.itoa_neg (k/10) Ya,XaP,Lib.decDigits,WO Ya,JZ (Nat.mod_lt _ Ya)];simp
 .obtain⟨k,rfl⟩:∃k:Nat,n=(k:Int):=⟨n.natAbs,by omega⟩
  have e1:(k:Int).tdiv 10=((k/10:Nat):Int):=by rw[SV Ya];simp
  have e2:(k:Int).tmod 10=((k%10:Nat):Int):=by rw[J2 Ya];simp
  rw[e1,e2]
  have e3:(if((k%10:Nat):Int)< -((k%10:Nat):Int)then -((k%10:Nat):Int)else((k%10:Nat):Int))=((k%10:Nat):Int):=by split<;>omega
  rw[e3,XaP,XaP,XaP,Lib.decDigits,WO Ya,JZ (Nat.mod_lt _ Ya)]
theorem Qkh:∀(m:Nat) (n:Int),n.natAbs<=m->-9223372036854775808<=n->n<=9223372036854775807->∀w:TG,Calls prog 37 #[.int .i64 n] w fun e w'=>e= .returned (sv (Lib.itoa n))/\w'=w:=by
 intro m
 induction m with
 |zero=>intro n hm _ _ w;exact Qex n Ya Ya w
 |succ m ih=>
  intro n hm _ h1 w;by_cases hs: -10<n/\n<10
  .exact Qex n hs.1 hs.2 w
  have uW:n<=-10\/10<=n:=by omega
  have oM:=Qu4 n uW
  have hq:(n.tdiv 10).natAbs<=m/\-9223372036854775808<=n.tdiv 10/\n.tdiv 10<=9223372036854775807:=by
   rcases uW with h|h
   .obtain⟨k,rfl⟩:∃k:Nat,n= -(k:Int):=⟨n.natAbs,by omega⟩
    rw[show(-(k:Int)).tdiv 10= -((k/10:Nat):Int) by rw[Int.neg_tdiv,SV Ya];simp];omega
   .rw[SV Ya];omega
  have hd: -10<n.tmod 10/\n.tmod 10<10:=by
   have h3:=Int.emod_lt_of_pos n (show(0:Int)<10 by omega);have h4:=Int.emod_nonneg n (show(10:Int)≠0 by omega);rw[Int.tmod_eq_emod];split<;>omega
  have tH:=XaO (n.tdiv 10) hq.2.1 hq.2.2;generalize hdm:(if n.tmod 10< -(n.tmod 10)then -(n.tmod 10)else n.tmod 10)=dm at oM
  have Rj: -10<dm/\dm<10:=by rw[<-hdm];split<;>omega
  have qY:=XaO dm Ya Ya;have Fh:=ih (n.tdiv 10) hq.1 hq.2.1 hq.2.2;have hi2:=Qex dm Rj.1 Rj.2;have aJa:=hdm.symm;rw[oM];generalize Lib.itoa (n.tdiv 10)=L1 at tH Fh;generalize Lib.itoa dm=L2 at qY hi2;have hS:=St.start w;refine Qg func37 rfl ntmps37 rfl ?_;by_cases hn:n<0
  .apply Zq.bV.S.aS.N.h.n2.b4.mB.F.1;exact Ybz
  .apply Zq.bV.S.n.I.N.h.n2.b4.mB.F.1;exact Ybz
end Go.Proofs.YthliapbflkfdiacGreatDoor
namespace Go.Proofs
open YthliapbflkfdiacGreatDoor
open Go.Shelf
def Tryz.lays156_ren:Go.Shelf.Ren:=⟨fun|156=>39|165=>70|166=>66|169=>69|240=>107|241=>111|276=>164|277=>167|n=>n,fun|31=>37|9=>9|3=>3|4=>4|0=>0|20=>20|72=>118|76=>122|70=>115|37=>116|75=>120|127=>167|164=>223|5=>5|80=>124|n=>n,fun|n=>n⟩
theorem Tryz.lays156:Go.Proofs.Lays.n156 Tryz.prog Tryz.lays156_ren:={
 mixed:=by kernel_rfl
 f156:=Tryz.func39.trans (XM some (by kernel_rfl))
 f165:=Tryz.func70.trans (XM some (by kernel_rfl))
 f166:=Tryz.func66.trans (XM some (by kernel_rfl))
 f169:=Tryz.func69.trans (XM some (by kernel_rfl))
 f240:=Tryz.func107.trans (XM some (by kernel_rfl))
 f241:=Tryz.func111.trans (XM some (by kernel_rfl))
 f276:=Tryz.func164.trans (XM some (by kernel_rfl))
 f277:=Tryz.func167.trans (XM some (by kernel_rfl))
 t0:=Tryz.underlying0
 a0:=Tryz.isAgg0
 z0:=Tryz.sizeOf0
 v0:=Tryz.zeroValue0
 t3:=Tryz.underlying3
 a3:=Tryz.isAgg3
 z3:=Tryz.sizeOf3
 v3:=Tryz.zeroValue3
 t4:=Tryz.underlying4
 a4:=Tryz.isAgg4
 z4:=Tryz.sizeOf4
 v4:=Tryz.zeroValue4
 t9:=Tryz.underlying9
 a9:=Tryz.isAgg9
 z9:=Tryz.sizeOf9
 v9:=Tryz.zeroValue9
 t20:=Tryz.underlying20
 a20:=Tryz.isAgg20
 z20:=Tryz.sizeOf20
 v20:=Tryz.zeroValue20
 t31:=Tryz.underlying37
 a31:=Tryz.isAgg37
 z31:=Tryz.sizeOf37
 v31:=Tryz.zeroValue37
 t37:=Tryz.underlying116
 a37:=Tryz.isAgg116
 z37:=Tryz.sizeOf116
 v37:=Tryz.zeroValue116
 t70:=Tryz.underlying115
 a70:=Tryz.isAgg115
 z70:=Tryz.sizeOf115
 v70:=Tryz.zeroValue115
 t72:=Tryz.underlying118
 a72:=Tryz.isAgg118
 z72:=Tryz.sizeOf118
 v72:=Tryz.zeroValue118
 t75:=Tryz.underlying120
 a75:=Tryz.isAgg120
 z75:=Tryz.sizeOf120
 v75:=Tryz.zeroValue120
 t76:=Tryz.underlying122
 a76:=Tryz.isAgg122
 z76:=Tryz.sizeOf122
 v76:=Tryz.zeroValue122
 t127:=Tryz.underlying167
 a127:=Tryz.isAgg167
 z127:=Tryz.sizeOf167
 v127:=Tryz.zeroValue167
 t164:=Tryz.underlying223
 a164:=Tryz.isAgg223
 z164:=Tryz.sizeOf223
 v164:=Tryz.zeroValue223 }
end Go.Proofs
namespace Go.Proofs.YthliapbflkfdiacGreatDoor
open Go.Proofs.Tryz
open Go.RowKit Go.Shelf
theorem QlG:Builder.Extra prog Tryz.lays156_ren where
 sizeBuilder:=by kernel_rfl
 liesBuilder:=by kernel_rfl
 t5:=underlying5
 a5:=isAgg5
 z5:=sizeOf5
 v5:=Tryz.zeroValue5
 infoByte:=by kernel_rfl
 cellsByte:=by kernel_rfl
 sizeByte:=by kernel_rfl
 neB5:=by decide
theorem Qrn{M:T6}{w0 w:TG}{H O:T0}{F:T3}{el:Nat}{A:T4}{c:Nat}(xs:List AA)(hx:0<xs.length)(oE:Row el 1 (.slice A xs.length c) xs.length (xs.map sv) O)(hn:xs.length<=1048576)(hl:(Lib.join xs [44]).length<=1073741824)(hS:St M w0 (O++H) F w):
  Calls prog 39 #[.slice A xs.length c,sv [44]] w fun e w'=>e= .returned (sv (Lib.join xs [44]))/\Below w.heap.size w w':=by
 have pQ:=oE.cap;obtain⟨g,sp,rfl,rfl,_⟩:=oE.some_ hx;have hb:=hS.own _ (X8 ..)
 have e1:(xs.map fun l=>(⟨l.toArray⟩:TJ)).map (·.data.toList)=xs:=by
  rw[VY];exact List.map_id xs
 have e2:(⟨#[44]⟩:TJ).data.toList=[44]:=rfl;have h:=Any.strings_Join Tryz.lays156 QlG g 0 c (xs.map fun l=>(⟨l.toArray⟩:TJ)) ⟨#[44]⟩ w (fun j x hj=> ?_) (IW hb) (by simpa using(by omega:xs.length<=140737488355328)) (by simpa using pQ) (by rw[e1,e2];omega)
 .rw[e1,e2,VQ]at h;exact h
 .rw[Qs hb,XQ];rw[VW]at hj
  cases hxj:xs[j]? with
  |none=>rw[hxj]at hj;cases hj
  |some l=>
   exact Ycb
def FQ(k n:Int)(s:AA)(a:Ts):AA:=DV k n s++if E5 k a then 40::(CU false a++[41])else[]
def I6:Ts->List AA
 | .nil=>[]
 | .cons k n s a r=>FQ k n s.data.toList a::I6 r
theorem QnW(T:Ts):(I6 T).length=T.length:=by
 induction T with
 |nil=>rfl
 |cons k n s a r _ ih=>simp only[I6,XJ,Ts.length,ih]
theorem QnX(T U:Ts):I6 (T.app U)=I6 T++I6 U:=by
 induction T with
 |nil=>rfl
 |cons k n s a r _ ih=>simp only[Ts.app,I6,ih,VI]
theorem Qsy(T:Ts):Lib.joinTail [44] (I6 T)=CU true T:=by
 induction T with
 |nil=>rfl
 |cons k n s a r _ ih=>
  have:Lib.joinTail [44] (I6 (.cons k n s a r))=[44]++FQ k n s.data.toList a++Lib.joinTail [44] (I6 r):=by simp[Lib.joinTail,I6]
  rw[this,ih];simp[CU,FQ]
theorem Qlv(T:Ts):Lib.join (I6 T) [44]=CU false T:=by
 cases T with
 |nil=>rfl
 |cons k n s a r=>
  rw[I6,Lib.join_cons,Qsy];simp[CU,FQ]
theorem Qul{D r:Ts}{k n:Int}{s:TJ}{a:Ts}(c:Bool):(FQ k n s.data.toList a).length<=(CU c (D.app (.cons k n s a r))).length:=by
 induction D generalizing c with
 |nil=>simp[Ts.app,CU,FQ];omega
 |cons k' n' s' a' r' _ ih=>
  have:=ih true;simp only[Ts.app,CU,XG];omega
end Go.Proofs.YthliapbflkfdiacGreatDoor
