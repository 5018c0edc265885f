/- Steps of the proof. -/
import Derived.Test.YthliapbflkfdiacGreatDoorG14
set_option linter.unusedVariables false
set_option linter.unusedSimpArgs false
set_option maxRecDepth 100000
set_option maxHeartbeats 1000000
namespace Go.Proofs.YthliapbflkfdiacGreatDoor
open Go.Proofs.Tryz
open Go.RowKit Go.Shelf
theorem QdY(c:UInt8)(w:TG):Calls prog 127 #[.int .u8 c.toNat] w fun e w'=>e= .returned (.bool (BF c))/\w'=w:=by
 refine Qg func127 rfl ntmps127 rfl ?_;apply Zq.e.h.r.g.1;unfold BF;cases decide ((c.toNat:Int)>=97)
 .apply Zq.cG.a9.1;exact Yeu
 .apply Zq.P.cP.a9.1;exact Yeu
theorem QdX(c:UInt8)(w:TG):Calls prog 128 #[.int .u8 c.toNat] w fun e w'=>e= .returned (.bool (AR c))/\w'=w:=by
 refine Qg func128 rfl ntmps128 rfl ?_;apply Zq.e.h.r.g.1;unfold AR;cases decide ((c.toNat:Int)>=48)
 .apply Zq.cG.a9.1;exact Yev
 .apply Zq.P.cP.a9.1;exact Yev
theorem Qu6(set:AA)(c:UInt8)(w:TG):Calls prog 129 #[sv set,.int .u8 c.toNat] w fun e w'=>e= .returned (.int .i64 (Lib.indexByte set c))/\w'=w:=by
 have h:=Any.strings_IndexByte Tryz.lays137 ⟨set.toArray⟩ (c.toNat:Int) w;refine XE h ?_;rintro e w' ⟨rfl,hw⟩;refine⟨?_,hw⟩;rw[OJ];have:((c.toNat:Nat):Int).toNat.toUInt8=c:=by simp
 rw[this]
def Qtl:AA:=[32,10,9,13]
theorem Qwg(c:UInt8):decide ((Lib.indexByte Qtl c)>=0)=N4 c:=by
 have h:∀n:Fin 256,decide ((Lib.indexByte Qtl (UInt8.ofNat n.val))>=0)=N4 (UInt8.ofNat n.val):=by decide+kernel
 have:=h ⟨c.toNat,c.toNat_lt⟩;simpa using this
theorem Qtm(c:UInt8)(w:TG):Calls prog 129 #[sv [32,10,9,13],.int .u8 c.toNat] w fun e w'=>(∃i:Int,e= .returned (.int .i64 i)/\decide (i>=0)=N4 c)/\w'=w:=by
 refine XE (Qu6 Qtl c w) ?_;rintro e w' ⟨rfl,rfl⟩;exact⟨⟨_,rfl,Qwg c⟩,rfl⟩
theorem QeZ{p:UInt8->Bool}:∀(E Q:AA),(∀c∈E,p c=true)->BL p (E++Q)=E.length+BL p Q
 |[],Q,_=>by simp
 |c::E,Q,h=>by
  simp only[VI,BL,h c (.head _),WD,XJ];rw[QeZ E Q fun x hx=>h x (.tail _ hx)];omega
theorem Qha{p:UInt8->Bool}{D:AA}{c:UInt8}(h:∀x∈D,p x=true)(hc:p c=true):∀x∈D++[c],p x=true:=by
 intro x hx;rcases VG.1 hx with hx|hx
 .exact h x hx
 .rw[VJ.1 hx];exact hc
theorem NB(D R:AA)(n:Nat)(i j:Int)(hi:i=(D.length:Nat))(hj:j=(D.length:Nat)+(n:Nat)):((D++R).take j.toNat).drop i.toNat=R.take n:=by
 have e1:i.toNat=D.length:=by omega
 have e2:j.toNat=D.length+n:=by omega
 rw[e1,e2,List.take_length_add_append,Xbe]
section
variable{M:T6}{w0:TG}{H:T0}{F:T3}
theorem Qnd (l : AA) (w : TG) (hl : l.length <= 2000) (hS : St M w0 H F w) :
  Calls prog 79 #[sv l] w fun e w'=>∃v O,e= .returned v/\Row 9 1 v (FT l).length ((FT l).map sv) O/\St M w0 (O++H) F w':=by
 refine Qg func79 rfl ntmps79 rfl ?_;apply Zq.e.e.e.e.E.e.c7.1;refine Qx 3 6 (9::10::11::12::13::14::15::7::8::20::21::22::19::23::24::26::27::28::29::30::31::32::33::34::35::36::25::37::38::39::40::41::42::43::44::45::46::47::48::49::50::51::52::53::55::56::57::58::59::60::61::54::62::63::64::65::66::67::68::69::70::71::72::73::74::75::76::77::78::80::81::82::83::84::85::86::87::88::89::90::91::92::93::94::95::79::97::98::99::96::16::17::18::2::100::101::102::103::104::105::106::107::108::109::110::111::[]) (fun(R:AA) v i w'=>∃D tQ O,l=D++R/\i= .int .i64 (D.length:Nat)/\Row 9 1 v tQ.length (tQ.map sv) O/\St M w0 (O++H) F w'/\FT l=tQ++FT R/\tQ.length<=D.length) (fun R=>R.length) (l) ?_ Yb Yb ?_
 .exact⟨[],[],[],rfl,rfl,Row.nil_,hS,rfl,XF _⟩
 clear hS;rintro R _ _ _ _ ⟨D,tQ,O,hD,rfl,hR,hS,hW,_⟩ ih;have oG:l.length=D.length+R.length:=by rw[hD,XG]
 obtain⟨A,_,rfl⟩:=hR.form
 cases R with
 |nil=>
  simp only[XP]at oG;rw[Qtk,VF]at hW;apply Zq.aA.cH.bE.aB.hL.1;rw[hW];exact⟨_,O,rfl,hR,hS⟩
 | cons c r =>
  simp only[XJ]at oG
  have Df:l[((D.length:Nat):Int).toNat]?=some c:=by rw[hD];simp
  have sL:=Qr1 (c::r);simp only[XJ]at sL
  cases hw:N4 c with
  |true=>
   apply Zq.aA.cH.c3.i.aP.c.e.b8.aF.eP.1;rintro _ w3 ⟨⟨i,rfl,hi⟩,rfl⟩;apply Zq.a.1
   have uZ:0<=i:=by rw[hw]at hi;exact WM hi
   apply Zq.r.dQ.h.C.c.d5.1;refine ih (r) _ _ _ _ ?_ ?_ Yb Yb Yc
   .simp
   .exact⟨D++[c],tQ,O,by rw[hD,VB];rfl,by simp,hR,hS,by rw[hW,Qi3 r hw],by simp;omega⟩
  | false =>
   subst hD
   cases qI:BF c with
   |true=>
    apply Zq.aA.cH.c3.i.aP.c.e.b8.aF.eP.1;rintro _ w3 ⟨⟨i,rfl,hi⟩,rfl⟩;apply Zq.a.1
    have uZ:i<0:=by rw[hw]at hi;exact NC
    apply Zq.r.bT.i.bM.eS.1;rintro _ w4 ⟨rfl,rfl⟩;apply Zq.c0.1;rw[qI];apply Zq.cG.U.aL.U.cR.c7.1;refine Qp 8 (37::38::39::40::41::42::43::44::45::46::47::48::49::50::51::52::53::[]) (fun(Q:AA) v w'=>w'=w4/\∃E,r=E++Q/\v= .int .i64 ((1+E.length:Nat):Int)/\∀x∈E,BF x=true) (fun Q=>Q.length) (r) ?_ Yb ?_
    .exact UK
    rintro Q vq w6 jv4 ⟨rfl,E,hE,rfl,pO⟩ uV;have xN:r.length=E.length+Q.length:=by rw[hE,XG]
    have wQ:BL BF r=E.length+BL BF Q:=by rw[hE];exact QeZ E Q pO
    cases Q with
    |nil=>
     simp only[XP]at xN;apply Zq.aA.C.g.cH.c8.U.q.bE.aX.i.aO.a1.eE.bH.1;clear hS;intro b1 oQ hS;apply Zq.eC.1;clear hS;intro v5 O5 w5 pK hS;rw[NB D (c::r) (1+E.length) _ _ rfl]at pK
     .obtain⟨A5,c5,rfl⟩:=pK.form;apply Zq.c.u.a1.bO.1;refine ih (((c::r).drop (1+E.length))) _ _ _ _ ?_ ?_ Yb Yb Yc
      .simp<;>omega
      .have pI:Qz (c::r)=1+E.length:=by have e0:BL BF ([]:AA)=0:=rfl;simp only[Qz,qI,Xau,X5];rw[wQ,e0];rfl
       refine⟨D++(c::r).take (1+E.length),tQ++[(c::r).take (1+E.length)],O5,?_,?_,?_,hS,?_,?_⟩
       .rw[VB,VR]
       .rw[pI]at sL;simp<;>omega
       .exact NY
       .rw[hW,MC r hw Ya,pI];simp
       .rw[pI]at sL;simp<;>omega
     .omega
    |cons x q=>
     simp only[XJ]at xN
     have Du:(D++c::r)[(((D.length:Nat):Int)+((1+E.length:Nat):Int)).toNat]?=some x:=by
      have e1:(((D.length:Nat):Int)+((1+E.length:Nat):Int)).toNat=(D++c::E).length:=by simp;omega
      rw[e1,hE,show D++c::(E++x::q)=(D++c::E)++x::q by simp];simp
     cases hx:BF x with
     |true=>
      apply Zq.aA.C.g.cH.n.n.t.C.j.aP.j.bM.iB.1;rintro _ w5 ⟨rfl,rfl⟩;apply Zq.a.q.b.1;rw[hx];apply Zq.cD.eM.u.C.bO.iW.1;simp
     |false=>
      apply Zq.aA.C.g.cH.n.n.t.C.j.aP.j.bM.iB.1;rintro _ w5 ⟨rfl,rfl⟩;apply Zq.a.q.b.1;rw[hx];apply Zq.h5.aX.i.aO.a1.eE.bH.1;clear hS;intro b1 oQ hS;apply Zq.eC.1;clear hS;intro v5 O5 w5 pK hS;rw[NB D (c::r) (1+E.length) _ _ rfl]at pK
      .obtain⟨A5,c5,rfl⟩:=pK.form;apply Zq.c.u.a1.bO.1;refine ih (((c::r).drop (1+E.length))) _ _ _ _ ?_ ?_ Yb Yb Yc
       .simp<;>omega
       .have pI:Qz (c::r)=1+E.length:=by have e0:BL BF (x::q)=0:=(by simp[BL,hx]);simp only[Qz,qI,Xau,X5];rw[wQ,e0];rfl
        refine⟨D++(c::r).take (1+E.length),tQ++[(c::r).take (1+E.length)],O5,?_,?_,?_,hS,?_,?_⟩
        .rw[VB,VR]
        .rw[pI]at sL;simp<;>omega
        .exact NY
        .rw[hW,MC r hw Ya,pI];simp
        .rw[pI]at sL;simp<;>omega
      .omega
   | false =>
    cases sC:EL c with
    |true=>
     have aAa:65<=c.toNat/\c.toNat<=90:=by simp[EL]at sC;omega
     apply Zq.aA.cH.c3.i.aP.c.e.b8.aF.eP.1;rintro _ w3 ⟨⟨i,rfl,hi⟩,rfl⟩;apply Zq.a.1
     have uZ:i<0:=by rw[hw]at hi;exact NC
     apply Zq.r.bT.i.bM.eS.1;rintro _ w4 ⟨rfl,rfl⟩;apply Zq.c0.1;rw[qI];apply Zq.P.r.j.n.cP.bG.cR.c7.1;refine Qp 8 (37::38::39::40::41::42::43::44::45::46::47::48::49::50::51::52::53::[]) (fun(Q:AA) v w'=>w'=w4/\∃E,r=E++Q/\v= .int .i64 ((1+E.length:Nat):Int)/\∀x∈E,BF x=true) (fun Q=>Q.length) (r) ?_ Yb ?_
     .exact UK
     rintro Q vq w6 jv4 ⟨rfl,E,hE,rfl,pO⟩ uV;have xN:r.length=E.length+Q.length:=by rw[hE,XG]
     have wQ:BL BF r=E.length+BL BF Q:=by rw[hE];exact QeZ E Q pO
     cases Q with
     |nil=>
      simp only[XP]at xN;apply Zq.aA.C.g.cH.c8.U.q.bE.aX.i.aO.a1.eE.bH.1;clear hS;intro b1 oQ hS;apply Zq.eC.1;clear hS;intro v5 O5 w5 pK hS;rw[NB D (c::r) (1+E.length) _ _ rfl]at pK
      .obtain⟨A5,c5,rfl⟩:=pK.form;apply Zq.c.u.a1.bO.1;refine ih (((c::r).drop (1+E.length))) _ _ _ _ ?_ ?_ Yb Yb Yc
       .simp<;>omega
       .have pI:Qz (c::r)=1+E.length:=by have e0:BL BF ([]:AA)=0:=rfl;exact YeD
        refine⟨D++(c::r).take (1+E.length),tQ++[(c::r).take (1+E.length)],O5,?_,?_,?_,hS,?_,?_⟩
        .rw[VB,VR]
        .rw[pI]at sL;simp<;>omega
        .exact NY
        .rw[hW,MC r hw Ya,pI];simp
        .rw[pI]at sL;simp<;>omega
      .omega
     |cons x q=>
      simp only[XJ]at xN
      have Du:(D++c::r)[(((D.length:Nat):Int)+((1+E.length:Nat):Int)).toNat]?=some x:=by
       have e1:(((D.length:Nat):Int)+((1+E.length:Nat):Int)).toNat=(D++c::E).length:=by simp;omega
       rw[e1,hE,show D++c::(E++x::q)=(D++c::E)++x::q by simp];simp
      cases hx:BF x with
      |true=>
       apply Zq.aA.C.g.cH.n.n.t.C.j.aP.j.bM.iB.1;rintro _ w5 ⟨rfl,rfl⟩;apply Zq.a.q.b.1;rw[hx];apply Zq.cD.eM.u.C.bO.iW.1;simp
      |false=>
       apply Zq.aA.C.g.cH.n.n.t.C.j.aP.j.bM.iB.1;rintro _ w5 ⟨rfl,rfl⟩;apply Zq.a.q.b.1;rw[hx];apply Zq.h5.aX.i.aO.a1.eE.bH.1;clear hS;intro b1 oQ hS;apply Zq.eC.1;clear hS;intro v5 O5 w5 pK hS;rw[NB D (c::r) (1+E.length) _ _ rfl]at pK
       .obtain⟨A5,c5,rfl⟩:=pK.form;apply Zq.c.u.a1.bO.1;refine ih (((c::r).drop (1+E.length))) _ _ _ _ ?_ ?_ Yb Yb Yc
        .simp<;>omega
        .have pI:Qz (c::r)=1+E.length:=by have e0:BL BF (x::q)=0:=(by simp[BL,hx]);exact YeD
         refine⟨D++(c::r).take (1+E.length),tQ++[(c::r).take (1+E.length)],O5,?_,?_,?_,hS,?_,?_⟩
         .rw[VB,VR]
         .rw[pI]at sL;simp<;>omega
         .exact NY
         .rw[hW,MC r hw Ya,pI];simp
         .rw[pI]at sL;simp<;>omega
       .omega
    |false=>
     have hnu:¬(65<=c.toNat/\c.toNat<=90):=by
      intro h
      have:EL c=true:=by simp[EL];omega
      rw[this]at sC;cases sC
     cases hdg:AR c with
     |true=>
      have Nl:48<=c.toNat/\c.toNat<=57:=by simp[AR]at hdg;omega
      apply Zq.aA.cH.c3.i.aP.c.e.b8.aF.eP.1;rintro _ w3 ⟨⟨i,rfl,hi⟩,rfl⟩;apply Zq.a.1
      have uZ:i<0:=by rw[hw]at hi;exact NC
      apply Zq.r.bT.i.bM.eS.1;rintro _ w4 ⟨rfl,rfl⟩;apply Zq.c0.1;rw[qI];apply Zq.P.r.j.aS.bG.cN.i.bM.fP.1;rintro _ w4 ⟨rfl,rfl⟩;apply Zq.c0.1;rw[hdg];apply Zq.cG.cR.c7.1;refine Qp 8 (62::63::64::65::66::67::68::69::70::71::72::73::74::75::76::77::78::[]) (fun(Q:AA) v w'=>w'=w4/\∃E,r=E++Q/\v= .int .i64 ((1+E.length:Nat):Int)/\∀x∈E,AR x=true) (fun Q=>Q.length) (r) ?_ Yb ?_
      .exact UK
      rintro Q vq w6 jv4 ⟨rfl,E,hE,rfl,pO⟩ uV;have xN:r.length=E.length+Q.length:=by rw[hE,XG]
      have wQ:BL AR r=E.length+BL AR Q:=by rw[hE];exact QeZ E Q pO
      cases Q with
      |nil=>
       simp only[XP]at xN;apply Zq.aA.C.g.cH.c8.U.q.bE.aX.i.aO.a1.eE.bH.1;clear hS;intro b1 oQ hS;apply Zq.eC.1;clear hS;intro v5 O5 w5 pK hS;rw[NB D (c::r) (1+E.length) _ _ rfl]at pK
       .obtain⟨A5,c5,rfl⟩:=pK.form;apply Zq.c.u.a1.bO.1;refine ih (((c::r).drop (1+E.length))) _ _ _ _ ?_ ?_ Yb Yb Yc
        .simp<;>omega
        .have pI:Qz (c::r)=1+E.length:=by have e0:BL AR ([]:AA)=0:=rfl;exact YdP
         refine⟨D++(c::r).take (1+E.length),tQ++[(c::r).take (1+E.length)],O5,?_,?_,?_,hS,?_,?_⟩
         .rw[VB,VR]
         .rw[pI]at sL;simp<;>omega
         .exact NY
         .rw[hW,MC r hw Ya,pI];simp
         .rw[pI]at sL;simp<;>omega
       .omega
      |cons x q=>
       simp only[XJ]at xN
       have Du:(D++c::r)[(((D.length:Nat):Int)+((1+E.length:Nat):Int)).toNat]?=some x:=by
        have e1:(((D.length:Nat):Int)+((1+E.length:Nat):Int)).toNat=(D++c::E).length:=by simp;omega
        rw[e1,hE,show D++c::(E++x::q)=(D++c::E)++x::q by simp];simp
       cases hx:AR x with
       |true=>
        apply Zq.aA.C.g.cH.n.n.t.C.j.aP.j.bM.i7.1;rintro _ w5 ⟨rfl,rfl⟩;apply Zq.a.q.b.1;rw[hx];apply Zq.cD.eM.u.C.bO.iW.1;simp
       |false=>
        apply Zq.aA.C.g.cH.n.n.t.C.j.aP.j.bM.i7.1;rintro _ w5 ⟨rfl,rfl⟩;apply Zq.a.q.b.1;rw[hx];apply Zq.h5.aX.i.aO.a1.eE.bH.1;clear hS;intro b1 oQ hS;apply Zq.eC.1;clear hS;intro v5 O5 w5 pK hS;rw[NB D (c::r) (1+E.length) _ _ rfl]at pK
        .obtain⟨A5,c5,rfl⟩:=pK.form;apply Zq.c.u.a1.bO.1;refine ih (((c::r).drop (1+E.length))) _ _ _ _ ?_ ?_ Yb Yb Yc
         .simp<;>omega
         .have pI:Qz (c::r)=1+E.length:=by have e0:BL AR (x::q)=0:=(by simp[BL,hx]);exact YdP
          refine⟨D++(c::r).take (1+E.length),tQ++[(c::r).take (1+E.length)],O5,?_,?_,?_,hS,?_,?_⟩
          .rw[VB,VR]
          .rw[pI]at sL;simp<;>omega
          .exact NY
          .rw[hW,MC r hw Ya,pI];simp
          .rw[pI]at sL;simp<;>omega
        .omega
     |false=>
      by_cases xH:c=45
      .have An:c.toNat=45:=by rw[xH];rfl
       have Bc:(c==45)=true:=by simp[xH]
       apply Zq.aA.cH.c3.i.aP.c.e.b8.aF.eP.1;rintro _ w3 ⟨⟨i,rfl,hi⟩,rfl⟩;apply Zq.a.1
       have uZ:i<0:=by rw[hw]at hi;exact NC
       apply Zq.r.bT.i.bM.eS.1;rintro _ w4 ⟨rfl,rfl⟩;apply Zq.c0.1;rw[qI];apply Zq.P.r.j.aS.bG.cN.i.bM.fP.1;rintro _ w4 ⟨rfl,rfl⟩;apply Zq.c0.1;rw[hdg];apply Zq.P.l.cR.c7.1;refine Qp 8 (62::63::64::65::66::67::68::69::70::71::72::73::74::75::76::77::78::[]) (fun(Q:AA) v w'=>w'=w4/\∃E,r=E++Q/\v= .int .i64 ((1+E.length:Nat):Int)/\∀x∈E,AR x=true) (fun Q=>Q.length) (r) ?_ Yb ?_
       .exact UK
       rintro Q vq w6 jv4 ⟨rfl,E,hE,rfl,pO⟩ uV;have xN:r.length=E.length+Q.length:=by rw[hE,XG]
       have wQ:BL AR r=E.length+BL AR Q:=by rw[hE];exact QeZ E Q pO
       cases Q with
       |nil=>
        simp only[XP]at xN;apply Zq.aA.C.g.cH.c8.U.q.bE.aX.i.aO.a1.eE.bH.1;clear hS;intro b1 oQ hS;apply Zq.eC.1;clear hS;intro v5 O5 w5 pK hS;rw[NB D (c::r) (1+E.length) _ _ rfl]at pK
        .obtain⟨A5,c5,rfl⟩:=pK.form;apply Zq.c.u.a1.bO.1;refine ih (((c::r).drop (1+E.length))) _ _ _ _ ?_ ?_ Yb Yb Yc
         .simp<;>omega
         .have pI:Qz (c::r)=1+E.length:=by have e0:BL AR ([]:AA)=0:=rfl;exact Yc5
          refine⟨D++(c::r).take (1+E.length),tQ++[(c::r).take (1+E.length)],O5,?_,?_,?_,hS,?_,?_⟩
          .rw[VB,VR]
          .rw[pI]at sL;simp<;>omega
          .exact NY
          .rw[hW,MC r hw Ya,pI];simp
          .rw[pI]at sL;simp<;>omega
        .omega
       |cons x q=>
        simp only[XJ]at xN
        have Du:(D++c::r)[(((D.length:Nat):Int)+((1+E.length:Nat):Int)).toNat]?=some x:=by
         have e1:(((D.length:Nat):Int)+((1+E.length:Nat):Int)).toNat=(D++c::E).length:=by simp;omega
         rw[e1,hE,show D++c::(E++x::q)=(D++c::E)++x::q by simp];simp
        cases hx:AR x with
        |true=>
         apply Zq.aA.C.g.cH.n.n.t.C.j.aP.j.bM.i7.1;rintro _ w5 ⟨rfl,rfl⟩;apply Zq.a.q.b.1;rw[hx];apply Zq.cD.eM.u.C.bO.iW.1;simp
        |false=>
         apply Zq.aA.C.g.cH.n.n.t.C.j.aP.j.bM.i7.1;rintro _ w5 ⟨rfl,rfl⟩;apply Zq.a.q.b.1;rw[hx];apply Zq.h5.aX.i.aO.a1.eE.bH.1;clear hS;intro b1 oQ hS;apply Zq.eC.1;clear hS;intro v5 O5 w5 pK hS;rw[NB D (c::r) (1+E.length) _ _ rfl]at pK
         .obtain⟨A5,c5,rfl⟩:=pK.form;apply Zq.c.u.a1.bO.1;refine ih (((c::r).drop (1+E.length))) _ _ _ _ ?_ ?_ Yb Yb Yc
          .simp<;>omega
          .have pI:Qz (c::r)=1+E.length:=by have e0:BL AR (x::q)=0:=(by simp[BL,hx]);exact Yc5
           refine⟨D++(c::r).take (1+E.length),tQ++[(c::r).take (1+E.length)],O5,?_,?_,?_,hS,?_,?_⟩
           .rw[VB,VR]
           .rw[pI]at sL;simp<;>omega
           .exact NY
           .rw[hW,MC r hw Ya,pI];simp
           .rw[pI]at sL;simp<;>omega
         .omega
      have An:c.toNat≠45:=fun h=>xH (OH (n:=45) h);have Bc:(c==45)=false:=by simp[xH]
      have Nm:=QtS c;by_cases Pz:c=58
      .have aAb:c.toNat=58:=by rw[Pz];rfl
       have xK:EP.contains c=false:=by rw[Pz];decide
       rw[xK]at Nm
       have hsn:Lib.indexByte EP c<0:=by have:=JG Nm;omega
       have hnp:([58,45]:AA).isPrefixOf (c::r)=true\/Qz (c::r)=0:=by
        cases hp:([58,45]:AA).isPrefixOf (c::r)with
        |true=>exact .inl rfl
        |false=>right;simp only[Qz,qI,sC,hdg,Bc,hp,xK,J0,X6,XT]
       cases r with
       |nil=>
        have wA:Qz [c]=0:=by
         rcases hnp with h|h
         .simp[List.isPrefixOf]at h
         .exact h
        simp only[XP]at oG;apply Zq.aA.cH.c3.i.aP.c.e.b8.aF.eP.1;rintro _ w3 ⟨⟨i,rfl,hi⟩,rfl⟩;apply Zq.a.1
        have uZ:i<0:=by rw[hw]at hi;exact NC
        apply Zq.r.bT.i.bM.eS.1;rintro _ w4 ⟨rfl,rfl⟩;apply Zq.c0.1;rw[qI];apply Zq.P.r.j.aS.bG.cN.i.bM.fP.1;rintro _ w4 ⟨rfl,rfl⟩;apply Zq.c0.1;rw[hdg];apply Zq.P.l.c4.l.n.C.P.c5.j.I.q.bB.U.cN.aF.hP.1;rintro _ w5 ⟨rfl,rfl⟩;apply Zq.a.1;generalize Lib.indexByte EP c=si at*;apply Zq.r.bT.h.bH.1;clear hS;intro b1 oQ hS;apply Zq.eC.1;clear hS;intro v5 O5 w5 pK hS;obtain⟨A5,c5,rfl⟩:=pK.form;apply Zq.c.hL.jB.1;rw[hW,QeQ [] hw wA,VD,XG];exact pK
       |cons x q=>
        simp only[XJ]at oG
        have aEx:(D++c::x::q)[(((D.length:Nat):Int)+1).toNat]?=some x:=by
         have e1:(((D.length:Nat):Int)+1).toNat=(D++[c]).length:=by simp<;>omega
         rw[e1,show D++c::x::q=(D++[c])++x::q by simp];simp
        by_cases hx:x=45
        .have wN:x.toNat=45:=by rw[hx];rfl
         apply Zq.aA.cH.c3.i.aP.c.e.b8.aF.eP.1;rintro _ w3 ⟨⟨i,rfl,hi⟩,rfl⟩;apply Zq.a.1
         have uZ:i<0:=by rw[hw]at hi;exact NC
         apply Zq.r.bT.i.bM.eS.1;rintro _ w4 ⟨rfl,rfl⟩;apply Zq.c0.1;rw[qI];apply Zq.P.r.j.aS.bG.cN.i.bM.fP.1;rintro _ w4 ⟨rfl,rfl⟩;apply Zq.c0.1;rw[hdg];apply Zq.P.l.c4.l.n.C.P.c5.j.I.dM.t.C.j.aP.j.l.cR.d8.bO.i.aO.a1.eE.bH.1;clear hS;intro b1 oQ hS;apply Zq.eC.1;clear hS;intro v5 O5 w5 pK hS;rw[NB D (c::x::q) (2) _ _ rfl]at pK
         .obtain⟨A5,c5,rfl⟩:=pK.form;apply Zq.c.u.a1.bO.1;refine ih (((c::x::q).drop (2))) _ _ _ _ ?_ ?_ Yb Yb Yc
          .simp<;>omega
          .have pI:Qz (c::x::q)=2:=by subst Pz hx;rfl
           refine⟨D++(c::x::q).take (2),tQ++[(c::x::q).take (2)],O5,?_,?_,?_,hS,?_,?_⟩
           .rw[VB,VR]
           .rw[pI]at sL;simp<;>omega
           .exact NY
           .rw[hW,MC (x::q) hw Ya,pI];simp
           .rw[pI]at sL;simp<;>omega
         .omega
        .have wN:x.toNat≠45:=fun h=>hx (OH (n:=45) h)
         have wA:Qz (c::x::q)=0:=by
          rcases hnp with h|h
          .exfalso;simp[List.isPrefixOf]at h;exact hx h.2.symm
          .exact h
         apply Zq.aA.cH.c3.i.aP.c.e.b8.aF.eP.1;rintro _ w3 ⟨⟨i,rfl,hi⟩,rfl⟩;apply Zq.a.1
         have uZ:i<0:=by rw[hw]at hi;exact NC
         apply Zq.r.bT.i.bM.eS.1;rintro _ w4 ⟨rfl,rfl⟩;apply Zq.c0.1;rw[qI];apply Zq.P.r.j.aS.bG.cN.i.bM.fP.1;rintro _ w4 ⟨rfl,rfl⟩;apply Zq.c0.1;rw[hdg];apply Zq.P.l.c4.l.n.C.P.c5.j.I.dM.t.C.j.aP.j.l.cN.aF.hP.1;rintro _ w5 ⟨rfl,rfl⟩;apply Zq.a.1;generalize Lib.indexByte EP c=si at*;apply Zq.r.bT.h.bH.1;clear hS;intro b1 oQ hS;apply Zq.eC.1;clear hS;intro v5 O5 w5 pK hS;obtain⟨A5,c5,rfl⟩:=pK.form;apply Zq.c.hL.jB.1;rw[hW,QeQ (x::q) hw wA,VD,XG];exact pK
      .have aAb:c.toNat≠58:=fun h=>Pz (OH (n:=58) h);have hp:([58,45]:AA).isPrefixOf (c::r)=false:=by simp[List.isPrefixOf,JS Pz]
       cases xK:EP.contains c with
       |true=>
        rw[xK]at Nm;have hsn:0<=Lib.indexByte EP c:=WM Nm
        have aIs:c.toNat<65:=by
         have hh:∀n:Fin 256,EP.contains (UInt8.ofNat n.val)=true->n.val<65:=by decide+kernel
         have:=hh ⟨c.toNat,c.toNat_lt⟩;simp only[WP]at this;exact this xK
        apply Zq.aA.cH.c3.i.aP.c.e.b8.aF.eP.1;rintro _ w3 ⟨⟨i,rfl,hi⟩,rfl⟩;apply Zq.a.1
        have uZ:i<0:=by rw[hw]at hi;exact NC
        apply Zq.r.bT.i.bM.eS.1;rintro _ w4 ⟨rfl,rfl⟩;apply Zq.c0.1;rw[qI];apply Zq.P.r.j.aS.bG.cN.i.bM.fP.1;rintro _ w4 ⟨rfl,rfl⟩;apply Zq.c0.1;rw[hdg];apply Zq.P.l.c4.l.bB.U.q.bB.U.cN.aF.hP.1;rintro _ w5 ⟨rfl,rfl⟩;apply Zq.a.1;generalize Lib.indexByte EP c=si at*;apply Zq.r.dQ.aW.aX.i.aO.a1.eE.bH.1;clear hS;intro b1 oQ hS;apply Zq.eC.1;clear hS;intro v5 O5 w5 pK hS;rw[NB D (c::r) (1) _ _ rfl]at pK
        .obtain⟨A5,c5,rfl⟩:=pK.form;apply Zq.c.u.a1.bO.1;refine ih (((c::r).drop (1))) _ _ _ _ ?_ ?_ Yb Yb Yc
         .simp<;>omega
         .have pI:Qz (c::r)=1:=by simp only[Qz,qI,sC,hdg,Bc,hp,xK,J0,X6,XT,X5]
          refine⟨D++(c::r).take (1),tQ++[(c::r).take (1)],O5,?_,?_,?_,hS,?_,?_⟩
          .rw[VB,VR]
          .rw[pI]at sL;simp<;>omega
          .exact NY
          .rw[hW,MC r hw Ya,pI];simp
          .rw[pI]at sL;simp<;>omega
        .omega
       |false=>
        rw[xK]at Nm
        have hsn:Lib.indexByte EP c<0:=by have:=JG Nm;omega
        have wA:Qz (c::r)=0:=by simp only[Qz,qI,sC,hdg,Bc,hp,xK,J0,X6,XT]
        by_cases h65:65<=c.toNat
        .have h90:90<c.toNat:=by omega
         apply Zq.aA.cH.c3.i.aP.c.e.b8.aF.eP.1;rintro _ w3 ⟨⟨i,rfl,hi⟩,rfl⟩;apply Zq.a.1
         have uZ:i<0:=by rw[hw]at hi;exact NC
         apply Zq.r.bT.i.bM.eS.1;rintro _ w4 ⟨rfl,rfl⟩;apply Zq.c0.1;rw[qI];apply Zq.P.r.j.n.cP.bG.cN.i.bM.fP.1;exact YN
        .have h64:c.toNat<65:=by omega
         apply Zq.aA.cH.c3.i.aP.c.e.b8.aF.eP.1;rintro _ w3 ⟨⟨i,rfl,hi⟩,rfl⟩;apply Zq.a.1
         have uZ:i<0:=by rw[hw]at hi;exact NC
         apply Zq.r.bT.i.bM.eS.1;rintro _ w4 ⟨rfl,rfl⟩;apply Zq.c0.1;rw[qI];apply Zq.P.r.j.aS.bG.cN.i.bM.fP.1;exact YN
end
end Go.Proofs.YthliapbflkfdiacGreatDoor
