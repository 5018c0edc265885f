/- Steps of the proof. -/
import Derived.Test.YthliapbflkfdiacGreatDoorG16
set_option linter.unusedVariables false
set_option linter.unusedSimpArgs false
set_option maxRecDepth 100000
set_option maxHeartbeats 1000000
namespace Go.Proofs.YthliapbflkfdiacGreatDoor
open Go.Proofs.Tryz
open Go.RowKit Go.Shelf
def Qz0(f:PS->Nd×PS):Prop:=∀p,(f p).2.vars.length+(f p).2.l.length<=p.vars.length+p.l.length
theorem S9(p:PS):p.pop.vars=p.vars:=rfl
theorem Qvn(p:PS)(t:AA):(p.close t).vars.length+(p.close t).l.length<=p.vars.length+p.l.length:=by
 have:=QiT p t
 have e:(p.close t).vars=p.vars:=by
  unfold PS.close;split
  .rfl
  split<;>rfl
 rw[e];omega
theorem QjI{f:PS->Nd×PS}(hf:Qz0 f):∀(n:Nat) (p:PS),(QL f n p).2.vars.length+(QL f n p).2.l.length<=p.vars.length+p.l.length
 |0,p=>XF _
 |n+1,p=>by
  unfold QL;split
  .have h1:=QjI hf n (f p.pop).2;have h2:=hf p.pop;have h3:=PB p;rw[S9]at h2;exact DM
  .exact XF _
theorem QnL{f:PS->Nd×PS}(hf:Qz0 f)(t:AA)(p:PS):(QO f t p).2.vars.length+(QO f t p).2.l.length<=p.vars.length+p.l.length:=by
 have h1:=QjI hf (f p).2.l.length (f p).2;have h2:=hf p;have h3:=Qvn (QL f (f p).2.l.length (f p).2).2 t;simp only[QO];omega
theorem TQ:∀d,Qz0 (Ql d)
 |0,p=>XF _
 | d + 1, p => by
  unfold Ql;have h1:=PB p;split
  .exact XF _
  .exact XF _
  .rename_i c r q hl;have h1:p.pop.l.length+1=p.l.length:=by simp[PS.pop,hl]
   split
   .simp only[S9];omega
   split
   .simp only;rw[(QqZ _ _).1]
    have:(p.pop.var (c::r)).2.vars.length<=p.vars.length+1:=by
     unfold PS.var;split
     .simp[PS.pop]
     .simp[PS.pop]
    omega
   split
   .simp only[S9];omega
   split
   .exact XF _
   split
   .have h2:=QnL (TQ d) [41] p.pop.pop;have h3:=PB p.pop;rw[S9,S9]at h2;exact DM
   .simp only[S9];omega
theorem St.raise3{M:T6}{w0 w:TG}{H L O:T0}{F:T3}{x y p:Nat×Obj}(h:St M w0 (y::p::(L++(O++x::H))) F w):St M w0 (x::y::p::(L++(O++H))) F w:=
 h.perm (by have:=VP (a:=x) (l₁:=y::p::(L++O)) (l₂:=H);simpa using this)
def Qhh (d : Nat) : Prop := ∀ (p : PS) (L V : TH) (VH : List (Nat × Obj)) (M : T6) (w0 w : TG) (H : List (Nat × Obj)) (F : List (TG -> Prop)) (b : Nat) (φ : TG -> Prop), φ ∈ F ->
    p.l.length<=2000->p.vars.length+p.l.length<=4000->Sx φ L p.l->GC p.vars V VH->St M w0 ((b,IR L V p.bad)::(VH++H)) F w->
    Calls prog 80 #[ptr b,.int .i64 (d:Nat)] w fun e w'=>∃v L' V' sZ,e= .returned (.agg #[.int .i64 (Ql d p).1.k,.int .i64 (Ql d p).1.n,sv (Ql d p).1.s,v])/\
     Sx φ L' (Ql d p).2.l/\GC (Ql d p).2.vars V' sZ/\St M w0 ((b,IR L' V' (Ql d p).2.bad)::(sZ++H)) ((fun w=>Sl w (fun _=>True) v (Ql d p).1.ar)::F) w'
theorem QnP (d : Nat) (hd : d <= 100) (ht : ∀ e, d = e + 1 -> Qhh e) : Qhh d := by
 intro p L V VH M w0 w H F b φ hφ hl qY hL hV hS;obtain⟨A,vc,rfl⟩:=hV.form
 have oV:∀w:TG,Sl w (fun _=>True) (.slice none 0 0) .nil:=fun w=>⟨none,0,rfl,XF _,fun h=>by cases h⟩
 obtain⟨l,vars,bad⟩:=p;dsimp only at hl qY hS hV hL;by_cases hf:l.headD []=[]
 .have e:Ql d ⟨l,vars,bad⟩=(Nd.zero,⟨l,vars,true⟩):=by
   cases d with
   |zero=>rfl
   |succ d=>
    cases l with
    |nil=>rfl
    |cons x r=>cases x with|nil=>rfl|cons c q=>simp at hf
  rw[e];apply Zq.eD.p.R.1;clear hS;intro b1 oQ hS;apply Zq.b.Z.1;refine XE (QoF ⟨l,vars,bad⟩ L _ _ hL hφ hS.swap) ?_;rintro _ w1 ⟨rfl,rfl⟩;apply Zq.a.1;rw[hf];apply Zq.M.V.aS.H.aT.fT.1;clear hS;intro pP hS;apply Zq.cT.d2.d.1;clear hS;intro pM hS;apply Zq.b.dY.1;exact⟨.slice none 0 0,L,_,VH,rfl,hL,hV,hS.drop.learn fun w _=>oV w⟩
 cases l with
 |nil=>exact absurd rfl hf
 | cons x rest =>
  cases x with
  |nil=>exact absurd rfl hf
  | cons c r =>
   clear hf;obtain⟨A0,c0,rfl,Nn⟩:=hL.form;have hlr:((c::r)::rest).length=rest.length+1:=rfl;have Gh:=hL.tail;have Cz:=fun w (H':T0)=>QoF (M:=M) (w0:=w0) (H:=H') (F:=F) (b:=b) (φ:=φ) ⟨(c::r)::rest,vars,bad⟩ (.slice A0 ((c::r)::rest).length c0) (.slice A vars.length vc) w hL hφ;simp only[List.headD_cons]at Cz;simp only[XJ]at hl qY Nn
   cases d with
   |zero=>
    have e:Ql 0 ⟨(c::r)::rest,vars,bad⟩=(Nd.zero,⟨(c::r)::rest,vars,true⟩):=rfl;rw[e];apply Zq.eD.p.R.1;clear hS;intro b1 oQ hS;apply Zq.b.Z.eL.1;rintro _ w1 ⟨rfl,rfl⟩;apply Zq.a.M.V.n.l.H.aT.fT.1;exact YA
   | succ d =>
    have e0:Ql (d+1) ⟨(c::r)::rest,vars,bad⟩=if c::r=[33]then(⟨1,0,[33],.nil⟩,⟨rest,vars,bad⟩)
      else if EL c then(⟨0,(PS.var ⟨rest,vars,bad⟩ (c::r)).1,[],.nil⟩,(PS.var ⟨rest,vars,bad⟩ (c::r)).2)
      else if(c==45)||AR c then(⟨2,(E4 (c::r)).getD 0,[],.nil⟩,⟨rest,vars,bad||(E4 (c::r)).isNone⟩)
      else if BF c=false then(Nd.zero,⟨(c::r)::rest,vars,true⟩)
      else if PS.has ⟨rest,vars,bad⟩ [40]then(⟨3,0,c::r,AJ (QO (Ql d) [41] ⟨rest.tail,vars,bad⟩).1⟩,(QO (Ql d) [41] ⟨rest.tail,vars,bad⟩).2)
      else(⟨1,0,c::r,.nil⟩,⟨rest,vars,bad⟩):=rfl
    have Df:(c::r)[(0:Int).toNat]?=some c:=rfl;by_cases yN:c::r=[33]
    .have e:Ql (d+1) ⟨(c::r)::rest,vars,bad⟩=(⟨1,0,[33],.nil⟩,⟨rest,vars,bad⟩):=by rw[e0,XB yN]
     rw[e]
     have hb:(c::r==[33])=true:=by rw[yN];rfl
     apply Zq.eD.p.R.1;clear hS;intro b1 oQ hS;apply Zq.b.Z.eL.1;rintro _ w1 ⟨rfl,rfl⟩;apply Zq.a.M.V.n.l.N.h.aP.c2.h.V.c.1;rw[hb];apply Zq.cD.i.bL.y.e2.bL.J.1;clear hS;intro pP hS;apply Zq.cT.d9.d.1;exact Yb5
    have hb:(c::r==[33])=false:=by simpa using yN
    rw[XA yN]at e0
    cases sC:EL c with
    |true=>
     rw[XB sC]at e0
     have aAa:65<=c.toNat/\c.toNat<=90:=by simp[EL]at sC;omega
     apply Zq.eD.p.R.1;clear hS;intro b1 oQ hS;apply Zq.b.Z.eL.1;rintro _ w1 ⟨rfl,rfl⟩;apply Zq.a.M.V.n.l.N.h.aP.c2.h.V.c.1;rw[hb];apply Zq.bS.h.r.n.cP.cR.i.bL.y.e2.bL.J.1;clear hS;intro pP hS;apply Zq.b.aH.aE.aQ.1;refine Qp3 hS 58 (59::60::61::62::7::8::63::64::65::66::67::68::[]) (fun(R:List AA) v=>∃D,vars=D++R/\v= .int .i64 (D.length:Nat)/\(c::r)∉D) (fun R=>R.length) (vars) ?_ Yb ?_
     .exact⟨[],rfl,rfl,by simp⟩
     rintro R _ w3 jv3 ⟨D,hD,rfl,hx⟩ hS ih;have oG:vars.length=D.length+R.length:=by rw[hD,XG]
     cases R with
     |nil=>
      simp only[XP]at oG
      have hnm:(c::r)∉vars:=by rw[hD,VF];exact hx
      have ev:PS.var ⟨rest,vars,bad⟩ (c::r)=(vars.length,⟨rest,vars++[c::r],bad⟩):=by unfold PS.var;rw[XA hnm]
      rw[ev]at e0;rw[e0];apply Zq.W.i.O.aE.g.bH.1;clear hS;intro b2 pM hS;refine EQ (sz:=1) (bts:=16) hS Yb rfl rfl rfl rfl (hV) rfl rfl (.cons _ (XK [_,_] VH H)) Ya Ya rfl ?_;clear hS;intro V' sZ w4 zL hS;replace hS:=hS.perm (XK sZ [_,_] H);obtain⟨A',c',rfl⟩:=zL.form;apply Zq.O.L.J.1;clear hS;intro sR hS;apply Zq.dT.aE.bQ.gT.d.1;clear hS;intro vN hS;apply Zq.b.dY.1;refine⟨.slice none 0 0,_,_,sZ,?_,Gh,?_,hS.drop.learn fun w _=>oV w⟩
      .simp
      .show Row _ _ _ (vars++[c::r]).length ((vars++[c::r]).map sv) _;rw[VD,XG];exact zL
     |cons y q=>
      simp only[XJ]at oG
      have oL:w3.cell? ⟨A.elim 0 (·.block),0+((D.length:Nat):Int).toNat*1,none⟩=some (sv y)/\∃g,A=some ⟨g,0,none⟩:=by
       have hr:Row 9 1 (.slice A vars.length vc) vars.length (vars.map sv) VH:=hV;generalize xE:vars.map sv=xs at hr;generalize Dg:vars.length=vl at hr oG
       cases hr with
       |nil_=>omega
       |own_ h1 h2 h3 tJ=>
        rename_i bl sp _;refine⟨?_,bl,rfl⟩;have rA:w3.heap[bl]?=some (.cells (xs++sp).toArray 9):=hS.own (bl,_) Yd;show w3.cell? ⟨bl,_,none⟩=_;rw[Qs rA,<-xE,hD];simp
      obtain⟨oL,g,rfl⟩:=oL;have yO:w3.cell? ⟨g,0+((D.length:Nat):Int).toNat*1,none⟩=some (sv y):=oL;clear oL;apply Zq.a8.h.T.y.K.i.V.b.1;refine MI rfl (fun h=> ?_) (fun h=> ?_)
      .obtain rfl:y=c::r:=by simpa using h
       have hm:(c::r)∈vars:=by rw[hD];simp
       have ev:PS.var ⟨rest,vars,bad⟩ (c::r)=(D.length,⟨rest,vars,bad⟩):=by unfold PS.var;rw[XB hm,hD,QpX q hx]
       rw[ev]at e0;rw[e0];apply Zq.h.gT.d.1;exact Yb5
      .have h':¬y=c::r:=by simpa using h
       apply Zq.aW.aZ.1;refine ih (q) _ _ _ ?_ ?_ ?_ Yb Yc
       .simp
       .exact⟨D++[y],by rw[hD,VB];rfl,by simp,by simp[hx];exact fun e=>h' e.symm⟩
       .exact hS
    |false=>
     rw[XA (by simp[sC])]at e0
     have hnu:¬(65<=c.toNat/\c.toNat<=90):=by
      intro h
      have:EL c=true:=by simp[EL];omega
      rw[this]at sC;cases sC
     cases Iu:((c==45)||AR c)with
     |true=>
      rw[XB Iu]at e0;rw[e0]
      have aIz:c.toNat<65:=by
       have hh:∀n:Fin 256,((UInt8.ofNat n.val==45)||AR (UInt8.ofNat n.val))=true->n.val<65:=by decide+kernel
       have:=hh ⟨c.toNat,c.toNat_lt⟩;simp only[WP]at this;exact this Iu
      by_cases xH:c=45
      .have An:c.toNat=45:=by rw[xH];rfl
       skip
       cases bad with
       |true=>
        apply Zq.eD.p.R.1;clear hS;intro b1 oQ hS;apply Zq.b.Z.eL.1;rintro _ w1 ⟨rfl,rfl⟩;apply Zq.a.M.V.n.l.N.h.aP.c2.h.V.c.1;rw[hb];apply Zq.bS.h.r.aS.c4.l.bX.aL.U.cR.Z.h8.1;exact YaO
       |false=>
        apply Zq.eD.p.R.1;clear hS;intro b1 oQ hS;apply Zq.b.Z.eL.1;rintro _ w1 ⟨rfl,rfl⟩;apply Zq.a.M.V.n.l.N.h.aP.c2.h.V.c.1;rw[hb];apply Zq.bS.h.r.aS.c4.l.bX.aL.U.cR.Z.h8.1;rintro _ w3 ⟨rfl,oZ⟩;apply Zq.a.1;replace hS:=hS.grow oZ;apply Zq.b2.i.O.a6.n.X.q.dL.1;clear hS;intro pP hS;apply Zq.cZ.bL.y.e2.bL.J.1;clear hS;intro pM hS;apply Zq.b.h.d9.d.1;clear hS;intro sR hS;apply Zq.b.dY.mU.1;have hq:=hS.drop.learn (φ:=fun w=>Sl w (fun _=>True) (.slice none 0 0) .nil) fun w _=>oV w;simpa using hq
      .have An:c.toNat≠45:=fun h=>xH (OH (n:=45) h)
       have hdd:48<=c.toNat/\c.toNat<=57:=by simp[xH,AR]at Iu;omega
       skip
       cases bad with
       |true=>
        apply Zq.eD.p.R.1;clear hS;intro b1 oQ hS;apply Zq.b.Z.eL.1;rintro _ w1 ⟨rfl,rfl⟩;apply Zq.a.M.V.n.l.N.h.aP.c2.h.V.c.1;rw[hb];apply Zq.bS.h.r.aS.c4.l.n.r.j.n.cP.bG.cR.Z.h8.1;exact YaO
       |false=>
        apply Zq.eD.p.R.1;clear hS;intro b1 oQ hS;apply Zq.b.Z.eL.1;rintro _ w1 ⟨rfl,rfl⟩;apply Zq.a.M.V.n.l.N.h.aP.c2.h.V.c.1;rw[hb];apply Zq.bS.h.r.aS.c4.l.n.r.j.n.cP.bG.cR.Z.h8.1;rintro _ w3 ⟨rfl,oZ⟩;apply Zq.a.1;replace hS:=hS.grow oZ;apply Zq.b2.i.O.a6.n.X.q.dL.1;clear hS;intro pP hS;apply Zq.cZ.bL.y.e2.bL.J.1;clear hS;intro pM hS;apply Zq.b.h.d9.d.1;clear hS;intro sR hS;apply Zq.b.dY.mU.1;have hq:=hS.drop.learn (φ:=fun w=>Sl w (fun _=>True) (.slice none 0 0) .nil) fun w _=>oV w;simpa using hq
     |false=>
      rw[XA (by simp[Iu])]at e0;have xH:c≠45:=fun h=>by simp[h]at Iu
      have An:c.toNat≠45:=fun h=>xH (OH (n:=45) h)
      have Rb:¬(48<=c.toNat/\c.toNat<=57):=by
       intro h
       have:AR c=true:=by simp[AR];omega
       simp[this]at Iu
      cases qI:BF c with
      |false=>
       rw[XB qI]at e0;rw[e0]
       have Vn:¬(97<=c.toNat/\c.toNat<=122):=by
        intro h
        have:BF c=true:=by simp[BF];omega
        rw[this]at qI;cases qI
       by_cases q1:c.toNat<48
       .skip
        apply Zq.eD.p.R.1;clear hS;intro b1 oQ hS;apply Zq.b.Z.eL.1;rintro _ w1 ⟨rfl,rfl⟩;apply Zq.a.M.V.n.l.N.h.aP.c2.h.V.c.1;rw[hb];apply Zq.bS.h.r.aS.c4.l.n.r.j.aS.bG.c4.I.aS.cR.aT.fT.1;exact YA
       by_cases q2:c.toNat<65
       .skip
        apply Zq.eD.p.R.1;clear hS;intro b1 oQ hS;apply Zq.b.Z.eL.1;rintro _ w1 ⟨rfl,rfl⟩;apply Zq.a.M.V.n.l.N.h.aP.c2.h.V.c.1;rw[hb];apply Zq.bS.h.r.aS.c4.l.n.r.j.n.cP.bG.c4.I.aS.cR.aT.fT.1;exact YA
       by_cases q3:c.toNat<97
       .skip
        apply Zq.eD.p.R.1;clear hS;intro b1 oQ hS;apply Zq.b.Z.eL.1;rintro _ w1 ⟨rfl,rfl⟩;apply Zq.a.M.V.n.l.N.h.aP.c2.h.V.c.1;rw[hb];apply Zq.bS.h.r.n.cP.c4.l.n.r.j.n.cP.bG.c4.I.aS.cR.aT.fT.1;exact YA
       have q4:122<c.toNat:=by omega
       apply Zq.eD.p.R.1;clear hS;intro b1 oQ hS;apply Zq.b.Z.eL.1;rintro _ w1 ⟨rfl,rfl⟩;apply Zq.a.M.V.n.l.N.h.aP.c2.h.V.c.1;rw[hb];apply Zq.bS.h.r.n.cP.c4.l.n.r.j.n.cP.bG.c4.I.n.S.cR.aT.fT.1;exact YA
      |true=>
       rw[XA (by simp[qI])]at e0
       have rD:97<=c.toNat/\c.toNat<=122:=by simp[BF]at qI;omega
       have aAc:((c::r)::rest).length-(1:Int).toNat=rest.length:=rfl;apply Zq.eD.p.R.1;clear hS;intro b1 oQ hS;apply Zq.b.Z.eL.1;rintro _ w1 ⟨rfl,rfl⟩;apply Zq.a.M.V.n.l.N.h.aP.c2.h.V.c.1;rw[hb];apply Zq.bS.h.r.n.cP.c4.l.n.r.j.n.cP.bG.c4.I.g.1;replace hS:=hS.sink1;apply Zq.P.S.cN.aW.aX.i.bL.y.e2.bL.J.1;clear hS;intro pP hS;apply Zq.b.h.d9.R.1;clear hS;intro b2 pM hS;apply Zq.d.1;clear hS;intro sR hS;apply Zq.b.m.1
       cases hh:PS.has ⟨rest,vars,bad⟩ [40]with
       |false=>
        have e:Ql (d+1) ⟨(c::r)::rest,vars,bad⟩=(⟨1,0,c::r,.nil⟩,⟨rest,vars,bad⟩):=by rw[e0,XA (by simp[hh])]
        rw[e];have pY:=MP ⟨rest,vars,bad⟩ [40] _ _ _ Gh hφ hS.swap;rw[hh]at pY;simp only[X6,XT]at pY;apply Zq.f.fM.1;rintro _ w3 ⟨L2,rfl,Ko,oD⟩;apply Zq.a.1;replace hS:=oD;clear oD;replace hS:=hS.swap.raise2;apply Zq.D.p.cE.d.1;clear hS;intro vN hS;apply Zq.b.dY.1;exact⟨.slice none 0 0,L2,_,VH,rfl,Ko,hV,hS.drop.drop.learn fun w _=>oV w⟩
       |true=>
        have e:Ql (d+1) ⟨(c::r)::rest,vars,bad⟩=(⟨3,0,c::r,AJ (QO (Ql d) [41] ⟨rest.tail,vars,bad⟩).1⟩,(QO (Ql d) [41] ⟨rest.tail,vars,bad⟩).2):=by rw[e0,XB hh]
        have Jy:=(PA hh).1;dsimp only[PS.pop]at Jy;rw[e];clear e e0;have pY:=MP ⟨rest,vars,bad⟩ [40] _ _ _ Gh hφ hS.swap;rw[hh]at pY;simp only[X5,PS.pop]at pY;apply Zq.f.fM.1;rintro _ w3 ⟨L2,rfl,Ko,oD⟩;apply Zq.a.1;replace hS:=oD;clear oD;replace hS:=hS.swap;apply Zq.v.bD.J.1;clear hS;intro vN hS;apply Zq.a2.mL.1;replace hS:=hS.drew;apply Zq.eA.aN.dS.iI.aR.f.1;have tT:=ht d rfl ⟨rest.tail,vars,bad⟩ L2 _ VH M w0 _ _ F b φ hφ (by show rest.tail.length<=_;omega) (by show vars.length+rest.tail.length<=_;omega) Ko hV hS.sink1;rw[show((d:Nat):Int)=((d+1:Nat):Int)-1 by omega]at tT;refine XE tT ?_;rintro _ w4 ⟨v,L3,V3,uY,rfl,Ha,wL,oD⟩;apply Zq.a.1;replace hS:=oD.raise1;clear oD;obtain⟨A3,c3,rfl,_⟩:=(hS.fact (.head _)).form;have hf:=PK d;have xF:=hf ⟨rest.tail,vars,bad⟩;have tA:=TQ d ⟨rest.tail,vars,bad⟩;dsimp only at xF tA;have hi:QO (Ql d) [41] ⟨rest.tail,vars,bad⟩=([(Ql d ⟨rest.tail,vars,bad⟩).1]++(QL (Ql d) (Ql d ⟨rest.tail,vars,bad⟩).2.l.length (Ql d ⟨rest.tail,vars,bad⟩).2).1,(QL (Ql d) (Ql d ⟨rest.tail,vars,bad⟩).2.l.length (Ql d ⟨rest.tail,vars,bad⟩).2).2.close [41]):=rfl;generalize Ql d ⟨rest.tail,vars,bad⟩=r3 at*;obtain⟨nd,p3⟩:=r3;dsimp only at*;apply Zq.eX.aR.dZ.1;clear hS;intro b3 zO hS;apply Zq.eX.aR.1;refine EQ (sz:=4) (bts:=56) hS Yb rfl rfl rfl rfl ((Row.nil_ (el:=63) (sz:=4))) rfl rfl (List.Perm.refl _) Ya Ya rfl ?_;clear hS;intro v4 O4 w5 Fj hS
        replace hS:=(hS.perm (XK O4 (_::_::uY) (_::H))).conv (ψ:=fun w=>Cs w (fun _=>True) (AJ [nd]) [.int .i64 nd.k,.int .i64 nd.n,sv nd.s,.slice A3 nd.ar.length c3]) fun w h=>⟨_,[],rfl,h,rfl⟩
        obtain⟨A4,c4,rfl⟩:=Fj.form;apply Zq.eX.eA.aD.J.1;clear hS;intro Rd hS;apply Zq.a2.c7.1;clear Nn Gh Cz pY tT;refine QhK  (156::157::158::159::160::161::162::163::164::165::166::167::168::169::170::171::172::173::[]) (fun(x:List Nd×PS) w'=>∃L V VH Av O xs,Sx φ L x.2.l/\GC x.2.vars V VH/\Row 63 4 Av x.1.length xs O/\St M w0 ((b2,.cells [.int .i64 3,.int .i64 0,sv (c::r),Av].toArray 63)::(b,IR L V x.2.bad)::(VH++(O++(b1,.cells [.int .i64 0,.int .i64 0,sv [],.slice none 0 0].toArray 63)::H))) ((fun w=>Cs w (fun _=>True) (AJ x.1) xs)::F) w'/\x.1.length+x.2.l.length<=2001/\x.2.l.length<=2000/\x.2.vars.length+x.2.l.length<=4000/\QO (Ql d) [41] ⟨rest.tail,vars,bad⟩=(x.1++(QL (Ql d) x.2.l.length x.2).1,(QL (Ql d) x.2.l.length x.2).2.close [41])) (fun x=>x.2.l.length) (([nd],p3)) ?_ ?_
        .exact⟨L3,V3,uY,_,O4,_,Ha,wL,Fj,hS,by show 1+p3.l.length<=_;omega,by show p3.l.length<=_;omega,by show p3.vars.length+p3.l.length<=_;omega,hi⟩
        clear hS hi wL Ha;rintro⟨D,p4⟩ w6 jv6 ⟨L4,V4,yU,Av,O5,xs,Dv,Bf,pK,hS,uX,vW,Jv,hi⟩ ih;dsimp only at Dv Bf pK hS uX vW Jv hi;obtain⟨l4,oP,Kp⟩:=p4;dsimp only at Dv Bf pK hS uX vW Jv hi;obtain⟨Ao,co,rfl⟩:=pK.form
        have rP:∀(L:TH) (bd:Bool) (w':TG),St M w0 ((b1,.cells [.int .i64 3,.int .i64 0,sv (c::r),.slice Ao D.length co].toArray 63)::(b2,.cells [.int .i64 3,.int .i64 0,sv (c::r),.slice Ao D.length co].toArray 63)::(b,IR L V4 bd)::(yU++(O5++H))) ((fun w=>Cs w (fun _=>True) (AJ D) xs)::F) w'->St M w0 ((b,IR L V4 bd)::(yU++H)) ((fun w=>Sl w (fun _=>True) (.slice Ao D.length co) (AJ D))::F) w':=by
         intro L bd w' h;have h2:=h.drop.drop.perm (XK ((b,IR L V4 bd)::yU) O5 H);exact YdU
        cases Kp with
        |true=>
         have oM:=UB (f:=Ql d) (p:=⟨l4,oP,true⟩) Yd;dsimp only at oM;rw[oM]at hi;have Dw:PS.close ⟨l4,oP,true⟩ [41]=⟨l4,oP,true⟩:=rfl;simp only[VF,Dw]at hi;rw[hi];replace hS:=St.raise3 hS;apply Zq.dF.X.aS.q.bE.cY.O.a6.bX.q.dL.1;clear hS;intro Vv hS;apply Zq.cT.cE.d.1;clear hS;intro Vx hS;apply Zq.b.dY.1;exact Yek
        |false=>
         cases rH:PS.has ⟨l4,oP,false⟩ [44]with
         |true=>
          have oM:=Qe5 hf (p:=⟨l4,oP,false⟩) ⟨rfl,rH⟩;have Kq:=(PA rH).1;dsimp only[PS.pop]at Kq oM;have pY:=MP ⟨l4,oP,false⟩ [44] _ _ _ Dv (.tail _ hφ) hS.swap;rw[rH]at pY;simp only[X5,PS.pop]at pY;apply Zq.dF.X.n.f.fM.1;rintro _ w7 ⟨L5,rfl,Dx,oD⟩;apply Zq.a.1;replace hS:=oD;clear oD;replace hS:=hS.swap;apply Zq.H.eM.mL.1;replace hS:=hS.drew;apply Zq.eA.aN.dS.iI.aR.f.1;have tT:=ht d rfl ⟨l4.tail,oP,false⟩ L5 _ yU M w0 _ _ _ b φ (.tail _ hφ) (by show l4.tail.length<=_;omega) (by show oP.length+l4.tail.length<=_;omega) Dx Bf hS.sink1;rw[show((d:Nat):Int)=((d+1:Nat):Int)-1 by omega]at tT;refine XE tT ?_;rintro _ w8 ⟨v,L6,V6,Kr,rfl,Dy,Np,oD⟩;apply Zq.a.1;replace hS:=oD.raise1;clear oD tT pY;obtain⟨A6,c6,rfl,_⟩:=(hS.fact (.head _)).form;have Dz:=hf ⟨l4.tail,oP,false⟩;have Ea:=TQ d ⟨l4.tail,oP,false⟩;dsimp only at Dz Ea;generalize Ql d ⟨l4.tail,oP,false⟩=r6 at*;obtain⟨Bg,p6⟩:=r6;dsimp only at*;apply Zq.eX.aR.dZ.1;clear hS;intro b4 Vv hS;apply Zq.eX.aR.1;refine EQ (sz:=4) (bts:=56) hS Yb rfl rfl rfl rfl (pK) rfl rfl (.cons _ (XK (_::_::Kr) O5 (_::H))) Ya Ya rfl ?_;clear hS;intro v9 O9 w9 Eb hS;replace hS:=hS.perm (XK O9 (_::_::Kr) (_::H));obtain⟨A9,c9,rfl⟩:=Eb.form;apply Zq.eX.eA.aD.J.1;clear hS;intro Vx hS;apply Zq.b.aX.1
          replace hS:=St.conv2 hS (ψ:=fun w=>Cs w (fun _=>True) (AJ (D++[Bg])) (xs++[.int .i64 Bg.k,.int .i64 Bg.n,sv Bg.s,.slice A6 Bg.ar.length c6])) fun w h1 h2=>by
           exact Yct
          refine ih ((D++[Bg],p6)) _ _ ?_ ?_ Yc
          .show p6.l.length<l4.length;omega
          .refine⟨L6,V6,Kr,_,O9,_,Dy,Np,?_,hS,?_,?_,?_,?_⟩
           .exact Yc6
           .exact OB
           .show p6.l.length<=_;omega
           .exact YeE
           .rw[hi,oM];simp
         |false=>
          have oM:=UB (f:=Ql d) (p:=⟨l4,oP,false⟩) (by simp[rH]);dsimp only at oM;rw[oM]at hi;simp only[VF]at hi;have pY:=MP ⟨l4,oP,false⟩ [44] _ _ _ Dv (.tail _ hφ) hS.swap;rw[rH]at pY;simp only[X6,XT]at pY;apply Zq.dF.X.n.f.fM.1;rintro _ w7 ⟨L5,rfl,Dx,oD⟩;apply Zq.a.1;replace hS:=oD;clear oD;replace hS:=hS.swap;apply Zq.q.bE.cY.O.a6.n.1;have sM:=MP ⟨l4,oP,false⟩ [41] _ _ _ Dx (.tail _ hφ) hS.swap
          cases pJ:PS.has ⟨l4,oP,false⟩ [41]with
          |true=>
           have Dw:PS.close ⟨l4,oP,false⟩ [41]=⟨l4.tail,oP,false⟩:=by unfold PS.close;rw[XA Yd,XB pJ];rfl
           rw[Dw]at hi;rw[hi];rw[pJ]at sM;simp only[X5,PS.pop]at sM;exact YaT
          |false=>
           have Dw:PS.close ⟨l4,oP,false⟩ [41]=⟨l4,oP,true⟩:=by unfold PS.close;rw[XA Yd,XA (by simp[pJ])];rfl
           rw[Dw]at hi;rw[hi];rw[pJ]at sM;simp only[X6,XT]at sM;exact YaT
end Go.Proofs.YthliapbflkfdiacGreatDoor
