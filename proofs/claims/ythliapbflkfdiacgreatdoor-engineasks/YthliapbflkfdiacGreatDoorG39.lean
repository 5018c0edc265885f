/- Steps of the proof. -/
import Derived.Test.YthliapbflkfdiacGreatDoorG38
set_option linter.unusedVariables false
set_option linter.unusedSimpArgs false
set_option maxRecDepth 100000
set_option maxHeartbeats 1000000
namespace Go.Proofs.YthliapbflkfdiacGreatDoor
open Go.Proofs.Tryz
open Go.RowKit
abbrev ES(b:Nat):TH:= .pointer (some ⟨b,0,none⟩)
section
variable{M:T6}{w0:TG}{H:T0}{F0:T3}{b:Nat}{P:List LB}{pA:T4}{pc vars fuel every:Nat}
theorem LR.setH{x:XS}{d:XD}{F:T3}(h:LR P pA pc x d F){h':HH}{A B:T4}{c e:Nat}(hh:AB F (FR h' A c B e)):LR P pA pc (x.setH h') ⟨A,c,B,e,d.LA,d.lc,d.O1,d.cs,d.CA,d.cc,d.O2,d.evs,d.EA,d.ec,d.O3⟩ F:=
 ⟨hh,h.row1,h.hc,h.rc,h.row2,h.he,h.re,h.row3,h.rp⟩
theorem Qoc(x:XS)(K:List HC)(A2:T4)(c2:Nat)(w:TG)(hK:AB F0 (QG 3 (AE K) A2 K.length c2))(hs:BT M w0 H F0 b P pA pc vars fuel every x w):
  Calls prog 53 #[ES b,.slice A2 K.length c2] w fun e w'=>e= .returned (.int .i64 ((BN x.h K).2.1:Nat))/\BT M w0 H F0 b P pA pc vars fuel every (x.setH (BN x.h K).1) w':=by
 obtain⟨d,F,oU,oK,hS⟩:=hs;obtain⟨hA,hc,hB,hd,_,_,_,cs,_,_,_,_,_,_,_⟩:=d;have Cd:=hK.mono oU;refine Qh func53 rfl ntmps53 rfl ?_;apply Zq.e.bN.b1.g.f.1;refine XE (Qrc x.h K hA hB A2 hc hd c2 _ oK.hh Cd hS) ?_;rintro _ _ ⟨_,_,_,_,F',rfl,uE,yJ,oD⟩;apply Zq.a.1;replace hS:=oD;clear oD;apply Zq.dV.dH.1;clear hS;intro _ _ hS;apply Zq.d.1;clear hS;intro _ hS;apply Zq.K.h.b1.bL.d.1;clear hS;intro _ hS;apply Zq.b.aB.1;refine Qd func53 rfl Yb ?_;exact⟨rfl,_,F',fun φ h=>uE φ (oU φ h),(oK.mono uE).setH yJ,hS.drop⟩
theorem QsA(x:XS)(i j:Int)(w:TG)(hs:BT M w0 H F0 b P pA pc vars fuel every x w):
  Calls prog 153 #[ES b,.int .i64 i,.int .i64 j] w fun e w'=>e= .returned (.tuple #[.bool (CX x.h i j).2.1,.bool (decide ((CX x.h i j).2.2≠0))])/\BT M w0 H F0 b P pA pc vars fuel every (x.setH (CX x.h i j).1) w':=by
 obtain⟨d,F,oU,oK,hS⟩:=hs;obtain⟨hA,hc,hB,hd,_,_,_,cs,_,_,_,_,_,_,_⟩:=d;refine QQ func153 rfl ntmps153 rfl ?_;apply Zq.aY.bN.b1.aO.bA.1;refine XE (Qnk x.h i j hA hB hc hd _ oK.hh hS) ?_;rintro _ _ ⟨_,_,_,_,F',rfl,uE,yJ,oD⟩;apply Zq.a.1;replace hS:=oD;clear oD;by_cases h0:(CX x.h i j).2.2=0
 .rw[X4 (fun h=>h h0)];exact YaW
 .rw[X1 h0];exact YaW
theorem Qn9(x:XS)(c:LX)(w:TG)(hs:BT M w0 H F0 b P pA pc vars fuel every x w):
  Calls prog 146 #[ES b,.agg (xcs c).toArray] w fun e w'=>e= .returned (.tuple #[])/\BT M w0 H F0 b P pA pc vars fuel every (x.setH (IJ (GF x.h (c.bound:Nat)).1 (c.cells:Nat)).1) w':=by
 obtain⟨d,F,oU,oK,hS⟩:=hs;obtain⟨hA,hc,hB,hd,LA,lc,O1,cs,CA,cc,O2,evs,EA,ec,O3⟩:=d;refine Qh func146 rfl ntmps146 rfl ?_;apply Zq.w.1;clear hS;intro b1 _ hS;apply Zq.a2.1;refine Qd9 4 5 (7::8::9::10::11::12::13::6::14::15::[]) (fun y z w'=>∃(b4:Nat) (A':T4) (c':Nat) (B':T4) (d':Nat) (F':T3),y= .pointer (some ⟨b4,0,none⟩)/\z= .int .i64 (GF x.h (c.bound:Nat)).2/\(∀φ∈F,φ∈F')/\AB F' (FR (GF x.h (c.bound:Nat)).1 A' c' B' d')/\St M w0 ((b4,.cells [.slice A' (GF x.h (c.bound:Nat)).1.cs.length c',.slice B' (GF x.h (c.bound:Nat)).1.tr.length d'].toArray 56)::(b1,.cells (xcs c).toArray 151)::(b,CO P pA pc vars fuel every x ⟨hA,hc,hB,hd,LA,lc,O1,cs,CA,cc,O2,evs,EA,ec,O3⟩)::(O1++(O2++(O3++H)))) F' w') ?_ ?_
 .intro oF;refine K1 (St _ _ _ _) 13 (.read 0 (.read 1 (.read 2 (.read 3 (.read 4 (.read 5 (.pick 6 (.read 7 (.read 8 (.read 9 (.pick 10 (.pick 11 (.read 12 .tail) .none) .none)))) (.pick 10 (.pick 6 (.read 7 (.read 8 (.read 9 (.pick 11 (.read 12 .tail) .none)))) .none) .none)))))))) Yc Yc hS.drew ?_;replace hS:=hS.drew;apply Zq.a7.kL.fB.1
  first
   |refine Qj rfl (fun _ hS=>Qb (k:=2) hS rfl rfl rfl Ym Yh) rfl ?_
   |refine Qj rfl (fun _ hS=>Qb (k:=2) hS rfl rfl rfl Ym Ye) rfl ?_
   |refine Qj rfl (fun _ hS=>M3 rfl rfl rfl (by first|assumption|exact hS.cell0 Ye) (by first|assumption|exact hS.cell0 Ye)) rfl ?_
  refine Qj rfl (fun _ hS=>Qi (off:=3) rfl rfl) rfl ?_;apply Zq.kJ.1;refine QA rfl ?_ ?_
  .apply Zq.f.mV.1;rintro _ w3 ⟨A',c',B',d',F9,rfl,rI,yJ,oD⟩;apply Zq.a.1;replace hS:=oD;clear oD;apply Zq.eK.a7.dO.dO.a0.dH.1;clear hS;intro _ _ hS;apply Zq.eK.a0.d.1;exact YdY
  apply Zq.a0.dH.1;clear hS;intro _ _ hS;apply Zq.eK.jF.mV.1;rintro _ w3 ⟨A',c',B',d',F9,rfl,rI,yJ,oD⟩;apply Zq.a.1;replace hS:=oD;clear oD;apply Zq.eK.a7.dO.dO.a0.d.1;exact YdY
 clear hS;rintro _ _ _ w3 ⟨b4,A',c',B',d',F',rfl,rfl,uE,yJ,hS⟩;apply Zq.u.b1.a6.f.1;refine XE (QyS (GF x.h (c.bound:Nat)).1 (c.cells:Nat) A' B' c' d' _ yJ hS) ?_;rintro _ _ ⟨A2,c2,_,_,F2,rfl,pF,Tz,oD⟩;apply Zq.a.1;replace hS:=oD;clear oD;apply Zq.e1.bL.d.1;clear hS;intro _ hS;apply Zq.b.1;refine QN func146 rfl ?_;exact⟨rfl,_,F2,fun φ h=>pF φ (uE φ (oU φ h)),((oK.mono uE).mono pF).setH Tz,hS.drop.drop⟩
theorem Qob(x:XS)(a:Int)(w:TG)(hl:∃z,AD x.h.cs (Qw x.h.cs a)=some z)(oG:x.h.cs.length<=65536)(hs:BT M w0 H F0 b P pA pc vars fuel every x w):
  Calls prog 193 #[ES b,.int .i64 a] w fun e w'=>e= .returned (cvv (BC x.h a))/\BT M w0 H F0 b P pA pc vars fuel every x w':=by
 obtain⟨z,hz⟩:=hl
 have Wk:BC x.h a=z:=by unfold BC;rw[hz];rfl
 rw[Wk];obtain⟨d,F,oU,oK,hS⟩:=hs;obtain⟨hA,hc,hB,hd,_,_,_,cs,_,_,_,_,_,_,_⟩:=d;obtain⟨_,_,z2⟩:=AZ.1 hz;obtain⟨Mj,Ml,rfl⟩:∃b o,hA=some ⟨b,o,none⟩:=(hS.und oK.hh).1.some_ (by show 0<x.h.cs.length;omega);have oL:∀{H'} w',St M w0 H' F w'->_:=fun w' hS=>((hS.und oK.hh).1).cell z2;refine Qh func193 rfl ntmps193 rfl ?_;apply Zq.p.cK.1;clear hS;intro _ _ hS;apply Zq.a2.1;refine QH (St _ _ _ _) 13 ((0,true)::(1,true)::(2,true)::(3,true)::(4,true)::(5,true)::(6,true)::(7,true)::(8,true)::(9,true)::(10,false)::(11,true)::(12,true)::[]) Yc Yc (hS.drew) ?_;replace hS:=hS.drew;apply Zq.cA.bC.cL.cA.1
 first
  |refine Qe rfl (fun _ hS=>Qb (k:=2) hS rfl rfl rfl Ym Yh) rfl ?_
  |refine Qe rfl (fun _ hS=>Qb (k:=2) hS rfl rfl rfl Ym Ye) rfl ?_
  |refine Qe rfl (fun _ hS=>M3 rfl rfl rfl YE YE) rfl ?_
 apply Zq.a5.aR.f.1;refine XE (Qmv x.h.cs (some ⟨Mj,Ml,none⟩) hB hc x.h.tr.length hd a _ (hS.und oK.hh).1 Ya) ?_;rintro _ _ ⟨rfl,oZ⟩;apply Zq.a.1;replace hS:=hS.grow oZ;apply Zq.fK.d0.hA.aD.d.1;clear hS;intro _ hS;apply Zq.b.1;refine PO (sz:=3) hS func193 rfl rfl rfl rfl Ym Yh ?_;exact⟨rfl,_,F,oU,oK,hS.drop⟩
end
section
variable{n:Nat}{e:AW}{w:TG}{ty:TypeId}{pos:String}{after:TE}{dst:TD}{x y:Operand}
theorem Qh7{a b:HC}(hx:ev n e x= .agg (AP a).toArray)(hy:ev n e y= .agg (AP b).toArray):
  (execOp (ev n e) ⟨dst,.binOp .eql 104 x y 104,ty,pos,after,none⟩).run prog w= .ok (.value (.bool (decide (a=b)))) w:=by
 simp only[execOp,hx,hy,bind,pure];rw[XN,XN,run_eqGuard_agg w _ _ _ _ _ _ Yc];simp only[XW];rw[run_eql_struct,QjC];rfl
theorem QkE{a b:HC}(hx:ev n e x= .agg (AP a).toArray)(hy:ev n e y= .agg (AP b).toArray)(h:a=b):
  (execOp (ev n e) ⟨dst,.binOp .eql 104 x y 104,ty,pos,after,none⟩).run prog w= .ok (.value (.bool true)) w:=by
 rw[Qh7 hx hy,X1 h]
theorem QkF{a b:HC}(hx:ev n e x= .agg (AP a).toArray)(hy:ev n e y= .agg (AP b).toArray)(h:a≠b):
  (execOp (ev n e) ⟨dst,.binOp .eql 104 x y 104,ty,pos,after,none⟩).run prog w= .ok (.value (.bool false)) w:=by
 rw[Qh7 hx hy,X4 h]
end
theorem BT.weaken{M:T6}{w0:TG}{H:T0}{F0 F1:T3}{b:Nat}{P:List LB}{pA:T4}{pc vars fuel every:Nat}{x:XS}{w:TG}(h:BT M w0 H F1 b P pA pc vars fuel every x w)(hF:∀φ∈F0,φ∈F1):BT M w0 H F0 b P pA pc vars fuel every x w:=by
 obtain⟨d,F,h1,h2,h3⟩:=h;exact⟨d,F,fun φ h=>h1 φ (hF φ h),h2,h3⟩
theorem St.freezeLB{M:T6}{w0 w:TG}{H O:T0}{F:T3}{el:Nat}{A:T4}{c:Nat}{L:List LB}(hr:Row el 4 (.slice A L.length c) L.length (G0 L) O)(hR:∀x∈L,AB F (QzG x))(hS:St M w0 (O++H) F w):
  ∃F',(∀φ∈F,φ∈F')/\AB F' (KK L A c)/\St M w0 H F' w:=by
 obtain⟨F',h1,h2,h3⟩:=St.freezeL hS;refine⟨F',h1,fun w' Cn=>⟨⟨Qj0 L,hr.cap,fun hl=> ?_⟩,fun x hx=>(hR x hx).mono h1 w' Cn⟩,h3⟩;obtain⟨g,sp,rfl,rfl,_⟩:=hr.some_ hl;refine⟨g,0,rfl,fun j u hu=> ?_⟩
 have tX:j<(G0 L).length:=by
  rcases XY j (G0 L).length with hh|hh
  .exact hh
  .rw[XX hh]at hu;cases hu
 exact YbR
def LB.ok(x:LB):Prop:=0<=x.cl.vars/\x.cl.vars<=1048576/\(QB x.cl).length<=1048576/\AD (QB x.cl) x.cl.vars=some (MO x.cl)
def II(z:HC)(x:LB):Bool:=decide (MO x.cl=z)
section
variable{M:T6}{w0:TG}{H:T0}{F0:T3}{b:Nat}{P:List LB}{pA:T4}{pc vars fuel every:Nat}
theorem Qmq(x:XS)(z:HC)(w:TG)(hP:∀p∈P,p.ok)(hl:P.length<=24)(hs:BT M w0 H F0 b P pA pc vars fuel every x w):
  Calls prog 99 #[ES b,.agg (AP z).toArray] w fun e w'=>∃(A:T4) (c:Nat) (F1:T3),e= .returned (.slice A (P.filter (II z)).length c)/\(∀φ∈F0,φ∈F1)/\AB F1 (KK (P.filter (II z)) A c)/\BT M w0 H F1 b P pA pc vars fuel every x w':=by
 obtain⟨d,F,oU,oK,hS⟩:=hs;obtain⟨hA,hc,hB,hd,LA,lc,O1,cs,CA,cc,O2,evs,EA,ec,O3⟩:=d;have Jg:AB F (KK P pA pc):=oK.rp;refine Qh func99 rfl ntmps99 rfl ?_;apply Zq.w.1;clear hS;intro b1 _ hS;apply Zq.c.e.dF.aQ.1;refine Qx 13 5 (14::15::16::7::17::18::19::20::21::22::23::24::25::26::27::28::29::[]) (fun(R:List LB) v u w'=>∃(D:List LB) (O:T0),P=D++R/\v= .int .i64 (D.length:Nat)/\Row 94 4 u (D.filter (II z)).length (G0 (D.filter (II z))) O/\St M w0 ((b1,.cells (AP z).toArray 104)::(b,CO P pA pc vars fuel every x ⟨hA,hc,hB,hd,LA,lc,O1,cs,CA,cc,O2,evs,EA,ec,O3⟩)::(O++(O1++(O2++(O3++H))))) F w') (fun R=>R.length) (P) ?_ Yb Yb ?_
 .exact⟨[],[],rfl,rfl,Row.nil_,hS⟩
 clear hS;rintro R _ _ _ _ ⟨D,O,rG,rfl,oE,hS⟩ ih
 have oG:P.length=D.length+R.length:=by rw[rG];simp
 obtain⟨Av,cv,rfl⟩:=oE.form
 cases R with
 |nil=>
  simp only[XP]at oG
  have e:P=D:=by rw[rG];simp
  apply Zq.W.aB.1;refine Qd func99 rfl Yb ?_;rw[<-e]at oE⊢;obtain⟨F',h1,h2,h3⟩:=St.freezeLB (H:=(b,CO P pA pc vars fuel every x ⟨hA,hc,hB,hd,LA,lc,O1,cs,CA,cc,O2,evs,EA,ec,O3⟩)::(O1++(O2++(O3++H)))) oE (fun y hy=>Jg.imp fun w h=>h.2 y (JK.1 hy).1) (hS.drop.perm (XK [_] _ _));exact⟨Av,cv,F',rfl,fun φ h=>h1 φ (oU φ h),h2,_,F',fun φ h=>h,oK.mono h1,h3⟩
 |cons y R=>
  simp only[XJ]at oG;have hyo:y.ok:=hP y Y8;rw[rG]at Jg;obtain⟨_,_,rfl⟩:=(hS.und Jg).some_ Yg;obtain⟨q0,_,_,_⟩:=(hS.und Jg).cells;have uH:AB F (QzG y):=Jg.imp fun w h=>h.2 y Yd;have So:=J3 (II z) D;obtain⟨_,_,_,v3⟩:=hyo;have vb:=(AZ.1 v3).2.1;obtain⟨b8,o8,Ec⟩:∃b o,y.A=some ⟨b,o,none⟩:=(hS.und uH).1.some_ (by have:=(AZ.1 v3).2.1;omega);have oL:∀{H'} w',St M w0 H' F w'->_:=fun{H'} w' (hS:St M w0 H' F w')=>QG.cell (b:=b8) (o:=o8) (Ec ▸ (hS.und uH).1) (AZ.1 v3).2.2;rw[Ec]at q0;by_cases he:MO y.cl=z
  .have pZ:(D++[y]).filter (II z)=D.filter (II z)++[y]:=by rw[WV];simp[II,he]
   apply Zq.cB.cF.cE.R.1;clear hS;intro b2 pP hS;apply Zq.d.1;clear hS;intro pM hS;apply Zq.a2.lY.1;replace hS:=hS.drew;apply Zq.bC.cL.b5.cL.d0.hA.hA.mO.aD.v.u.k0.dZ.1;clear hS;intro _ _ hS;refine EQ (sz:=4) (bts:=64) hS Yb rfl rfl rfl rfl (oE) rfl rfl (.cons _ (XK [_,_,_] _ _)) Ya Ya rfl ?_;clear hS;intro _ O' _ pR hS;replace hS:=hS.perm (XK O' [_,_,_] _);apply Zq.dN.1;refine ih (R) _ _ _ _ ?_ ?_ Yb Yb Yc
   .simp
   .exact⟨D++[y],O',by rw[rG];simp,by simp,by
     have e1:G0 [y]=[.slice (some ⟨b8,o8,none⟩) (QB y.cl).length y.c,.int .i64 y.cl.vars,.int .i64 y.cl.vars,.slice y.B (EE y.cl).length y.d]:=by simp only[G0,PY,Ec,VF]
     rw[pZ,Qmx,XG,e1];exact pR,hS.drop⟩
  .have pZ:(D++[y]).filter (II z)=D.filter (II z):=by rw[WV];simp[II,he]
   apply Zq.cB.cF.k0.R.1;clear hS;intro b2 pP hS;apply Zq.d.1;clear hS;intro pM hS;apply Zq.a2.lY.1;replace hS:=hS.drew;apply Zq.bC.cL.b5.cL.d0.hA.hA.mO.aD.D.aZ.1;refine ih (R) _ _ _ _ ?_ ?_ Yb Yb Yc
   .simp
   .exact⟨D++[y],O,by rw[rG];simp,by simp,by rw[pZ];exact oE,hS.drop⟩
end
section
variable{M:T6}{w0:TG}{H:T0}{F0:T3}{b:Nat}{P:List LB}{pA:T4}{pc vars fuel every:Nat}
theorem QrI(st o:Nat):∀(G:T7) (nx:Int) (L:List XL),(BU st o G nx L).1.length=L.length+G.length
 |[],nx,L=>by simp[BU]
 |g::r,nx,L=>by simp only[BU,XG,XJ,XP,QrI st o r nx L];omega
theorem QvB(st o:Nat)(G:T7)(nx:Int)(L:List XL)(i:Nat)(g:Int)(hg:G[i]?=some g):BU st o (G.drop i) nx L=((BU st o (G.drop (i+1)) nx L).1++[⟨st+g,o,(BU st o (G.drop (i+1)) nx L).2⟩],(((BU st o (G.drop (i+1)) nx L).1.length:Nat):Int)):=by
 have hi:i<G.length:=by
  rcases XY i G.length with h|h
  .exact h
  .rw[XX h]at hg;cases hg
 have e:G.drop i=g::G.drop (i+1):=by
  rw[Xbo hi]
  have:G[i]=g:=by rw[VN hi]at hg;simpa using hg
  rw[this]
 rw[e];rfl
def XS.links(s:XS)(L:List XL):XS:=⟨s.h,s.goals,L,s.first,s.ch,s.ev⟩
theorem QjU{F:T3}(x:XS)(G:T7)(gA:T4)(gc st o:Nat)(nx:Int)(hA hB:T4)(hc hd:Nat)(LA:T4)(lc:Nat)(O1:T0)(cs:List LX)(CA:T4)(cc:Nat)(O2:T0)(evs:List LE)(EA:T4)(ec:Nat)(O3:T0)(w:TG)(oM:st<=1048576)(hG:∀g∈G,0<=g/\g<=1048576)(Be:x.ln.length+G.length<=1048576)(Ul:AB F (QG 1 (Qr G) gA G.length gc))
  (oK:LR P pA pc x ⟨hA,hc,hB,hd,LA,lc,O1,cs,CA,cc,O2,evs,EA,ec,O3⟩ F) (hS:St M w0 ((b,CO P pA pc vars fuel every x ⟨hA,hc,hB,hd,LA,lc,O1,cs,CA,cc,O2,evs,EA,ec,O3⟩)::(O1++(O2++(O3++H)))) F w):
  Calls prog 54 #[ES b,.slice gA G.length gc,.int .i64 (st:Nat),.int .i64 (o:Nat),.int .i64 nx] w fun e w'=>e= .returned (.int .i64 (BU st o G nx x.ln).2)/\∃(Mm:T4) (Mn:Nat) (O1':T0),LR P pA pc (x.links (BU st o G nx x.ln).1) ⟨hA,hc,hB,hd,Mm,Mn,O1',cs,CA,cc,O2,evs,EA,ec,O3⟩ F/\St M w0 ((b,CO P pA pc vars fuel every (x.links (BU st o G nx x.ln).1) ⟨hA,hc,hB,hd,Mm,Mn,O1',cs,CA,cc,O2,evs,EA,ec,O3⟩)::(O1'++(O2++(O3++H)))) F w':=by
 refine Qet func54 rfl ntmps54 rfl ?_;apply Zq.bV.bQ.c.c7.1;refine Qx 11 4 (15::16::19::20::21::22::23::24::25::26::27::28::29::30::31::32::33::34::35::36::37::38::39::40::41::42::17::18::[]) (fun(i:Nat) v u w'=>i<=G.length/\v= .int .i64 ((i:Nat)-1:Int)/\u= .int .i64 (BU st o (G.drop i) nx x.ln).2/\∃(Mm:T4) (Mn:Nat) (O':T0),Row 101 3 (.slice Mm (BU st o (G.drop i) nx x.ln).1.length Mn) (BU st o (G.drop i) nx x.ln).1.length (BP (BU st o (G.drop i) nx x.ln).1) O'/\St M w0 ((b,CO P pA pc vars fuel every (x.links (BU st o (G.drop i) nx x.ln).1) ⟨hA,hc,hB,hd,Mm,Mn,O',cs,CA,cc,O2,evs,EA,ec,O3⟩)::(O'++(O2++(O3++H)))) F w') (fun i=>i) (G.length) ?_ Yb Yb ?_
 .rw[Xbj];exact⟨XF _,by simp,rfl,LA,lc,O1,oK.row1,hS⟩
 clear hS;rintro i _ _ _ _ ⟨_,rfl,rfl,Mm,Mn,O',oE,hS⟩ ih;have hlb:=QrI st o (G.drop i) nx x.ln;have yA:(G.drop i).length<=G.length:=by simp
 cases i with
 |zero=>
  apply Zq.m.r.bE.aB.1;refine Qd func54 rfl Yb ?_;exact⟨rfl,Mm,Mn,O',⟨oK.hh,oE,oK.hc,oK.rc,oK.row2,oK.he,oK.re,oK.row3,oK.rp⟩,hS⟩
 |succ i=>
  have Lz:i<G.length:=by omega
  obtain⟨g,hg⟩:∃g,G[i]?=some g:=⟨G[i],VN Lz⟩
  have hgm:g∈G:=XaX hg;have hg0:=hG g hgm;have sS:=QvB st o G nx x.ln i g hg;obtain⟨gb,go,rfl⟩:∃b o,gA=some ⟨b,o,none⟩:=(hS.und Ul).some_ Ya;have hgi:(Qr G)[i]?=some (.int .i64 g):=by simp[Qr,hg]
  have sH:∀{H'} w',St M w0 H' F w'->w'.cell? ⟨gb,go+((i:Nat):Int).toNat*1,none⟩=some (.int .i64 g):=fun w' hS=>by
   have:=(hS.und Ul).get hgi
   rwa [X0,JN]
  rw[show(((i+1:Nat):Int)-1)=((i:Nat):Int) by omega];apply Zq.m.r.v.eR.E.1;refine QH (St _ w0 [_] _) 18 ((0,true)::(1,true)::(2,true)::(3,true)::(4,true)::(5,true)::(6,true)::(7,true)::(8,true)::(9,true)::(10,true)::(11,true)::(12,true)::(13,true)::(14,false)::(15,false)::(16,true)::(17,true)::[]) Yc Yc (hS.drew.only1) ?_;replace hS:=hS.drew;apply Zq.a5.aU.g5.lH.dS.a5.gC.lH.iY.dS.1;refine Qe rfl (fun _ hS=>QD (cells:=[_,_,_]) (.cons Yb (.cons Yb (.cons Yb .nil))) rfl) rfl ?_;apply Zq.aR.gN.1;clear hS;intro _ _ hS;apply Zq.eX.aR.1;refine EQ (sz:=3) (bts:=24) hS rfl rfl rfl rfl rfl oE rfl rfl (.cons _ (XK [_] _ _)) Ya Ya rfl ?_;clear hS;intro _ O8 _ pC hS;obtain⟨A8,c8,rfl⟩:=pC.form;replace hS:=hS.perm (XK [_] _ _).symm;apply Zq.eX.eF.g5.aD.J.1;clear hS;intro _ hS;apply Zq.b.u.O.hE.1
  first
   |refine Qa (Qf hS rfl rfl Ym Yh) rfl ?_
   |refine Qa (Qm rfl rfl (by first|assumption|exact sH _ hS|exact hS.cell0 Ye|exact Qt hS|exact Qu hS)) rfl ?_
  apply Zq.bQ.bO.u.b3.c.1;refine ih (i) _ _ _ _ ?_ ?_ Yb Yb Yc
  .omega
  .refine⟨by omega,by simp,?_,A8,c8,O8,?_,?_⟩
   .rw[sS];exact XM (Value.int IntKind.i64) (by show(((_+1:Nat):Int)-1)=_;omega)
   .rw[sS];have e:=Qx7 (BU st o (G.drop (i+1)) nx x.ln).1 [⟨st+g,o,(BU st o (G.drop (i+1)) nx x.ln).2⟩];show Row _ 3 (.slice A8 (_++[_]).length c8) (_++[_]).length (BP (_++[_])) O8;rw[e,XG];exact pC
   .rw[sS];show St M w0 ((b,CO P pA pc vars fuel every (x.links (_++[_])) _)::_) F _;unfold CO LS XS.links;rw[XG];exact hS
end
end Go.Proofs.YthliapbflkfdiacGreatDoor
