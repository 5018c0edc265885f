/- Steps of the proof. -/
import Derived.Test.YthliapbflkfdiacGreatDoorG32
set_option linter.unusedVariables false
set_option linter.unusedSimpArgs false
set_option maxRecDepth 100000
set_option maxHeartbeats 1000000
namespace Go.Proofs.YthliapbflkfdiacGreatDoor
open Go.Proofs.Tryz
open Go.RowKit
theorem QoS(L:List HC)(A B:T4)(c m d:Nat)(a:Int)(x:HC)(w:TG)(hL:QG 3 (AE L) A L.length c w)(hx:AD L a=some x):
  Calls prog 215 #[OT A L.length c B m d,.int .i64 a] w fun e w'=>e= .returned (.bool (decide (x.k=0/\x.n≠a)))/\Below w.heap.size w w':=by
 have hS:=(St.start w).flat (M:=[]) hL;obtain⟨_,h1,hg⟩:=O0 hx;obtain⟨b,o,rfl⟩:=hL.some_ Ya;have oS:∀{H'} w',St [] w H' [QG 3 (AE L) (some ⟨b,o,none⟩) L.length c] w'->_:=fun w' hS=>(hS.fact (.head _)).cell hg;refine Qh func215 rfl ntmps215 rfl ?_;by_cases hk:x.k=0
 .by_cases hn:x.n=a
  .rw[X4 (by simp[hn])];exact Ybr
  .rw[X1 ⟨hk,hn⟩];exact Ybr
 .rw[X4 (by simp[hk])];apply Zq.w.1;clear hS;intro b1 oQ hS;apply Zq.c.bD.dU.bR.eT.cK.1;clear hS;intro b2 pP hS;apply Zq.d.1;clear hS;intro pM hS;apply Zq.b.bD.aV.l.bB.a9.kG.1;exact Yn
abbrev C6(A:T4)(n c:Nat)(B:T4)(m d:Nat):Obj:= .cells [.slice A n c,.slice B m d].toArray 56
theorem Qmv(L:List HC)(A B:T4)(c m d:Nat)(a:Int)(w:TG)(hL:QG 3 (AE L) A L.length c w)(aKw:L.length<=9223372036854775807):
  Calls prog 218 #[OT A L.length c B m d,.int .i64 a] w fun e w'=>e= .returned (.int .i64 (Qw L a))/\Below w.heap.size w w':=by
 have hS:=(St.start w).flat (M:=[]) hL;refine Qh func218 rfl ntmps218 rfl ?_;apply Zq.w.1;clear hS;intro b1 _ hS;apply Zq.gB.aV.aQ.1;refine Qx 8 1 (9::10::11::12::13::4::14::15::16::17::18::19::20::21::22::23::24::25::[]) (fun(f:Nat) v u w'=>∃a' i:Nat,∃x:Int,i+f=L.length/\v= .int .i64 (i:Nat)/\u= .int .i64 x/\Qw L a=FG L f x/\St [] w [(b1,C6 A L.length c B m d)] [QG 3 (AE L) A L.length c] w') (fun f=>f) (L.length) ?_ Yb Yb ?_
 .exact⟨0,0,a,by omega,rfl,rfl,rfl,hS⟩
 clear hS;rintro f _ _ _ _ ⟨_,i,x,_,rfl,rfl,hl,hS⟩ ih
 cases f with
 |zero=>
  apply Zq.W.e.jS.1;rw[hl];exact Yn
 |succ f=>
  apply Zq.a8.b0.fC.g.f.1;refine XE (QbQ L.length c A B m d x _) ?_;rintro _ _ ⟨rfl,oZ⟩;apply Zq.a.1;replace hS:=hS.grow oZ;by_cases hx:0<=x/\x<L.length
  case neg=>
   rw[show(decide (0<=x)&&decide (x<(L.length:Nat)))=false by rw[Bool.and_eq_false_iff];simp only[WI];omega];apply Zq.X.cI.jS.1;rw[hl,QpY (Qrt hx)];exact Yn
  rw[show(decide (0<=x)&&decide (x<(L.length:Nat)))=true by rw[XI];simp only[XO];exact hx];obtain⟨y,hy,hg⟩:=QiO hx.1 hx.2;obtain⟨b,o,rfl⟩:=hL.some_ Ya;have oS:∀{H'} w',St [] w H' [QG 3 (AE L) (some ⟨b,o,none⟩) L.length c] w'->_:=fun w' hS=>(hS.fact (.head _)).cell hg
  have e1:FG L (f+1) x=if y.k=0/\y.n≠x then FG L f y.n else x:=by simp only[FG,hy]
  apply Zq.bF.b0.fC.g.f.1;refine XE (QoS L _ B c m d x y _ (hS.fact (.head _)) hy) ?_;rintro _ _ ⟨rfl,sJ⟩;apply Zq.a.1;replace hS:=hS.grow sJ;by_cases hb:y.k=0/\y.n≠x
  .rw[X1 hb];rw[XB hb]at e1;apply Zq.bF.d8.aI.dU.bR.L.aV.dN.1;refine ih (f) _ _ _ _ ?_ ?_ Yb Yb Yc
   .omega
   .exact⟨0,i+1,y.n,by omega,by simp,rfl,by rw[hl,e1],hS⟩
  .rw[X4 hb];rw[XA hb]at e1;apply Zq.X.v.aB.jS.1;rw[hl,e1];exact Yn
theorem QmL(L:List HC)(T:T7)(A B:T4)(c d:Nat)(w:TG)(hL:QG 3 (AE L) A L.length c w)(hT:QG 1 (Qr T) B T.length d w):
  Calls prog 185 #[OT A L.length c B T.length d] w fun e w'=>e= .returned (.bool (KC L T))/\Below w.heap.size w w':=by
 have hS:=((St.start w).flat (M:=[]) hL).flat (M:=[]) hT;refine Qg func185 rfl ntmps185 rfl ?_;by_cases hl:65536<T.length
 .rw[show KC L T=false by unfold KC;rw[X4 Ya];rfl];apply Zq.w.1;clear hS;intro b1 oQ hS;apply Zq.c.b0.L.aV.bP.cI.iC.1;exact Yn
 rw[show KC L T=T.all (GG L) by unfold KC;rw[X1 Ya];rfl];apply Zq.w.1;clear hS;intro b1 oQ hS;apply Zq.c.b0.L.aV.bP.D.b0.L.aV.aQ.1;refine Qp 12 (13::14::15::4::16::17::18::19::20::21::22::23::24::25::26::27::28::2::29::[]) (fun(R:List Int) v w'=>∃D,T=D++R/\v= .int .i64 (D.length:Nat)/\T.all (GG L)=R.all (GG L)/\St [] w [(b1,C6 A L.length c B T.length d)] [QG 1 (Qr T) B T.length d,QG 3 (AE L) A L.length c] w') (fun R=>R.length) (T) ?_ Yb ?_
 .exact⟨[],rfl,rfl,rfl,hS⟩
 clear hS;rintro R _ _ _ ⟨D,hD,rfl,hg,hS⟩ ih
 have oG:T.length=D.length+R.length:=by rw[hD];simp
 cases R with
 |nil=>
  simp only[XP]at oG;apply Zq.W.e.iC.1;rw[hg];exact Yn
 |cons x R=>
  simp only[XJ]at oG;obtain⟨b,o,rfl⟩:=hT.some_ Ya
  have hx:T[D.length]?=some x:=by rw[hD];simp
  have tT:∀{H'} w',St [] w H' [QG 1 (Qr T) (some ⟨b,o,none⟩) T.length d,QG 3 (AE L) A L.length c] w'->_:=fun w' hS=>(hS.fact (.head _)).int hx;apply Zq.cB.T.eU.c.p.eN.g.f.1;refine XE (QbQ L.length c A _ T.length d x _) ?_;rintro _ _ ⟨rfl,oZ⟩;apply Zq.a.1;replace hS:=hS.grow oZ;by_cases hx:0<=x/\x<L.length
  case neg=>
   rw[show(decide (0<=x)&&decide (x<(L.length:Nat)))=false by rw[Bool.and_eq_false_iff];simp only[WI];omega];apply Zq.X.c8.U.H.e.iC.1;rw[hg];refine⟨?_,hS.ext.below⟩;simp[GG,Qrt hx]
  rw[show(decide (0<=x)&&decide (x<(L.length:Nat)))=true by rw[XI];simp only[XO];exact hx];obtain⟨y,hy,Tn⟩:=QiO hx.1 hx.2;obtain⟨b2,o2,rfl⟩:=hL.some_ Ya;have oS:∀{H'} w',St [] w H' [QG 1 (Qr T) (some ⟨b,o,none⟩) T.length d,QG 3 (AE L) (some ⟨b2,o2,none⟩) L.length c] w'->_:=fun w' hS=>(hS.fact (.tail _ (.head _))).cell Tn;by_cases hk:y.k=0
  .apply Zq.X.t.cO.aV.P.bR.j.cO.aV.j.Q.N.aZ.1;refine ih (R) _ _ _ ?_ ?_ Yb Yc
   .simp
   .refine⟨D++[x],by rw[hD];simp,by simp,?_,hS⟩;rw[hg];simp[GG,hy,hk]
  .apply Zq.X.t.cO.aV.P.bR.j.cO.aV.j.Q.H.e.iC.1;rw[hg];refine⟨?_,hS.ext.below⟩;simp[GG,hy,hk]
theorem Qru(h:HH)(A B:T4)(c d:Nat)(w:TG)(hH:FR h A c B d w):
  Calls prog 139 #[hv h A c B d] w fun e w'=>e= .returned (.bool (QS h))/\Below w.heap.size w w':=by
 have hS:=(St.start w).base (φ:=FR h A c B d) fun w' hx=>hH.ext hx;refine Qg func139 rfl ntmps139 rfl ?_;apply Zq.w.1;clear hS;intro _ _ hS;apply Zq.c.bD.aV.F.1;refine XE (QgW h.cs A c _ (hS.fact (.head _)).1) ?_;rintro _ _ ⟨rfl,oZ⟩;apply Zq.a.1;replace hS:=hS.grow oZ
 cases hg:D7 h.cs with
 |false=>
  rw[show QS h=false by unfold QS;rw[hg];rfl];apply Zq.aS.a9.1;exact YeB
 |true=>
  rw[show QS h=KC h.cs h.tr by unfold QS;rw[hg];rfl];apply Zq.t.fC.j.F.1;refine XE (QmL h.cs h.tr A B c d _ (hS.fact (.head _)).1 (hS.fact (.head _)).2) ?_;rintro _ _ ⟨rfl,sJ⟩;apply Zq.a.1;replace hS:=hS.grow sJ;apply Zq.a9.1;exact YeB
theorem RX{h:HH}(hg:QS h=true):h.cs.length<=65536/\h.tr.length<=65536:=by
 exact YcW
section
variable{M:T6}{w0:TG}{H:T0}{F:T3}
theorem UH{P:Program}{n:Nat}{e:AW}{w:TG}{Q:Exit->Act->TG->Prop}{oI:TB}{rest:TC}{ty:TypeId}{pos:String}{after:TE}{d:Nat}{H':T0}{x y:Operand}{v:TH}{t tx:TypeId}{el len c:Nat}{A:T4}{L:List HC}{xs:T5}{O:T0}(hS:St M w0 H F w)(hx:ev n e x=v)(hy:ev n e y= .slice A L.length c)
  (hT:QE P t=some el) (sO:QE P tx=some el) (hi:LV P el=some (3,32)) (hL:QG 3 (AE L) A L.length c w) (oE:Rw el 3 v len xs O)
  (hP:H.Perm (O++H')) (qU:len+L.length<=4398046511104) (hd:Nat.blt d n=true)
  (h:∀v' O' w',Rw el 3 v' (len+L.length) (xs++AE L) O'->St M w0 (O'++H') F w'->AU P Q oI rest n ((d,v')::e) w'):
  AU P Q oI (⟨some d,.call ⟨.builtin .append, #[x,y], #[t,tx]⟩,ty,pos,after,none⟩::rest) n e w:=by
 obtain⟨_,_,h2,h3,h4,h5,h6⟩:=K6 hi;refine RI hS hx hy hT sO h2 h3 h4 (by rw[h5];exact GQ L) (by rw[h5];exact hL.src sO (QiN L)) TP hP RC Ya hd ?_;rw[h5];exact h
theorem QiK{P:Program}{n:Nat}{e:AW}{w:TG}{Q:Exit->Act->TG->Prop}{oI:TB}{rest:TC}{ty:TypeId}{pos:String}{after:TE}{d:Nat}{H':T0}{x y:Operand}{v:TH}{t tx:TypeId}{el len c:Nat}{A:T4}{L:T7}{xs:T5}{O:T0}(hS:St M w0 H F w)(hx:ev n e x=v)(hy:ev n e y= .slice A L.length c)
  (hT:QE P t=some el) (sO:QE P tx=some el) (hi:LV P el=some (1,8)) (hL:QG 1 (Qr L) A L.length c w) (oE:Rw el 1 v len xs O)
  (hP:H.Perm (O++H')) (qU:len+L.length<=17592186044416) (hd:Nat.blt d n=true)
  (h:∀v' O' w',Rw el 1 v' (len+L.length) (xs++Qr L) O'->St M w0 (O'++H') F w'->AU P Q oI rest n ((d,v')::e) w'):
  AU P Q oI (⟨some d,.call ⟨.builtin .append, #[x,y], #[t,tx]⟩,ty,pos,after,none⟩::rest) n e w:=by
 obtain⟨_,_,h2,h3,h4,h5,h6⟩:=K6 hi;refine RI hS hx hy hT sO h2 h3 h4 (by rw[h5];exact Qj2 L) (by rw[h5];exact hL.src sO (Qoq L)) TP hP RC Ya hd ?_;rw[h5];exact h
end
section
variable{M:T6}{w0:TG}{H:T0}{F:T3}
theorem QlS(L:List HC)(A:T4)(c:Nat)(w:TG)(hL:AB F (QG 3 (AE L) A L.length c))(hl:L.length<=4398046511104)(hS:St M w0 H F w):
  Calls prog 194 #[.slice A L.length c] w fun e w'=>∃(A':T4) (c':Nat) (O:T0),e= .returned (.slice A' L.length c')/\Rw 104 3 (.slice A' L.length c') L.length (AE L) O/\St M w0 (O++H) F w':=by
 refine Qg func194 rfl ntmps194 rfl ?_
 cases A with
 |none=>
  have h0:L.length=0:=by
   rcases JW L.length with h|h
   .exact h
   .obtain⟨b,_,e⟩:=(hS.und hL).some_ h;cases e
  obtain rfl:L=[]:=VL h0;apply Zq.bV.jD.cI.1;refine Qd func194 rfl Yb ?_;exact⟨none,0,[],rfl,Rw.zero_,hS⟩
 |some a=>
  apply Zq.bV.jD.D.p.1;refine Qfb (sz:=3) hS rfl rfl rfl ?_;clear hS;intro _ _ hS;apply Zq.g.1;obtain⟨_,_,h2,h3,h4,h5,h6⟩:=K6 (P:=prog) (el:=104) (sz:=3) (bts:=32) rfl;refine RI (xs:=[]) (O:=[]) hS Yb Yb rfl rfl h2 h3 h4 (by rw[h5];exact GQ L) (by rw[h5];exact(hS.und hL).src rfl (QiN L)) Rw.zero_ (.refl _) RC Ya rfl ?_;rw[h5];clear hS;intro _ O' w' oE hS;rw[XQ,WX]at oE;obtain⟨A',c',rfl,_⟩:=oE.form;apply Zq.c.1;refine Qd func194 rfl Yb ?_;exact YdI
theorem Qvq(len c:Nat)(A:T4)(w:TG)(hl:len<=c):
  Calls prog 217 #[.slice A len c] w fun e w'=>e= .returned (.slice A len len)/\Below w.heap.size w w':=by
 have hS:=St.start w;refine Qg func217 rfl ntmps217 rfl ?_;apply Zq.e.i.aC.g.aC.1;refine Qa (QfR (sz:=3) rfl rfl rfl rfl rfl rfl rfl Ya) rfl ?_;apply Zq.c.1;refine Qd func217 rfl Yb ?_;exact Yn
theorem QsY(L:T7)(A:T4)(c:Nat)(w:TG)(hL:AB F (QG 1 (Qr L) A L.length c))(hl:L.length<=4398046511104)(hS:St M w0 H F w):
  Calls prog 195 #[.slice A L.length c] w fun e w'=>∃(A':T4) (c':Nat) (O:T0),e= .returned (.slice A' L.length c')/\Rw 3 1 (.slice A' L.length c') L.length (Qr L) O/\St M w0 (O++H) F w':=by
 refine Qg func195 rfl ntmps195 rfl ?_
 cases A with
 |none=>
  have h0:L.length=0:=by
   rcases JW L.length with h|h
   .exact h
   .obtain⟨b,_,e⟩:=(hS.und hL).some_ h;cases e
  obtain rfl:L=[]:=VL h0;apply Zq.bV.jD.cI.1;refine Qd func195 rfl Yb ?_;exact⟨none,0,[],rfl,Rw.zero_,hS⟩
 |some a=>
  apply Zq.bV.jD.D.p.1;refine Qfb (sz:=1) hS rfl rfl rfl ?_;clear hS;intro _ _ hS;apply Zq.g.1;obtain⟨_,_,h2,h3,h4,h5,h6⟩:=K6 (P:=prog) (el:=3) (sz:=1) (bts:=8) rfl;refine RI (xs:=[]) (O:=[]) hS Yb Yb rfl rfl h2 h3 h4 (by rw[h5];exact Qj2 L) (by rw[h5];exact(hS.und hL).src rfl (Qoq L)) Rw.zero_ (.refl _) RC Ya rfl ?_;rw[h5];clear hS;intro _ O' w' oE hS;rw[XQ,WX]at oE;obtain⟨A',c',rfl,_⟩:=oE.form;apply Zq.c.1;refine Qd func195 rfl Yb ?_;exact YdI
theorem Qvp(len c:Nat)(A:T4)(w:TG)(hl:len<=c):
  Calls prog 216 #[.slice A len c] w fun e w'=>e= .returned (.slice A len len)/\Below w.heap.size w w':=by
 have hS:=St.start w;refine Qg func216 rfl ntmps216 rfl ?_;apply Zq.e.i.aC.g.aC.1;refine Qa (QfR (sz:=1) rfl rfl rfl rfl rfl rfl rfl Ya) rfl ?_;apply Zq.c.1;refine Qd func216 rfl Yb ?_;exact Yn
theorem QrE(len c:Nat)(A:T4)(w:TG)(hl:len<=c)(hS:St M w0 H F w):
  Calls prog 217 #[.slice A len c] w fun e w'=>e= .returned (.slice A len len)/\St M w0 H F w':=
 (Qvq len c A w hl).mono fun e w' h=>⟨h.1,hS.grow h.2⟩
theorem Qw6(k:Nat)(w:TG)(hk:k<=65536)(hS:St M w0 H F w):
  Calls prog 187 #[.slice none 0 0,.int .i64 (k:Nat)] w fun e w'=>∃(v:TH) (O:T0),e= .returned v/\Rw 104 3 v 0 [] O/\St M w0 (O++H) F w':=by
 refine Qh func187 rfl ntmps187 rfl ?_;by_cases h0:0<k
 .apply Zq.bV.c1.aA.j1.g.bQ.b3.b4.S.v.cY.j1.l9.g.1;refine QkJ (sz:=3) (bts:=32) (k:=k) (ki:= .i64) hS rfl (by show Value.int .i64 ((k:Int)-(((0:Nat):Int)-((0:Nat):Int)))=_;congr 1) rfl rfl rfl Ya h0 Ya Ya rfl ?_;clear hS;intro b _ zs _ hc hz hS;apply Zq.g.aC.l9.c.aB.1;refine Qd func187 rfl Yb ?_;exact⟨_,[(b,.cells zs.toArray _)],rfl,Rw.own_ (xs:=[]) (sp:=zs) rfl (by simpa using hz) (J8 _) Ya,hS⟩
 .apply Zq.bV.c1.aA.j1.g.bQ.b3.b4.S.D.aB.1;refine Qd func187 rfl Yb ?_;exact⟨_,[],rfl,Rw.zero_,hS⟩
theorem QsV(L K:List HC)(A B:T4)(c d sb:Nat)(w:TG)(hL:AB F (QG 3 (AE L) A L.length c))(hK:AB F (QG 3 (AE K) B K.length d))(hl:L.length+K.length<=65536)
  (hS:St M w0 ((sb,.cells [.slice A L.length c,.slice B K.length d].toArray 53)::H) F w):
  Calls prog 141 #[.slice (some ⟨sb,0,none⟩) 2 2] w fun e w'=>∃(A':T4) (c':Nat) (O:T0),e= .returned (.slice A' (L++K).length c')/\Rw 104 3 (.slice A' (L++K).length c') (L++K).length (AE (L++K)) O/\St M w0 (O++H) F w':=by
 refine Qg func141 rfl ntmps141 rfl ?_;apply Zq.e.bV.aQ.1;refine Qx 11 3 (12::13::14::5::15::16::17::18::19::20::21::22::[]) (fun(i:Nat) v u w'=>∃j:Nat,j+i=2/\v= .int .i64 (j:Nat)/\u= .int .i64 ((if j=0 then 0 else if j=1 then L.length else L.length+K.length:Nat):Int)/\St M w0 ((sb,.cells [.slice A L.length c,.slice B K.length d].toArray 53)::H) F w') (fun i=>i) (2) ?_ Yb Yb ?_
 .exact⟨0,rfl,rfl,rfl,hS⟩
 clear hS;rintro i _ _ _ _ ⟨j,hj,rfl,rfl,hS⟩ ih
 match i,hj with
 |2,hj=>
  obtain rfl:j=0:=by omega
  rw[XB rfl];apply Zq.cB.T.y.c.i.aC.C.b4.c1.aZ.1;refine ih (1) _ _ _ _ ?_ ?_ Yb Yb Yc
  .omega
  .exact⟨1,rfl,rfl,by simp,hS⟩
 |1,hj=>
  obtain rfl:j=1:=by omega
  rw[XA (show¬(1:Nat)=0 by omega),XB rfl];apply Zq.cB.T.y.c.i.aC.C.b4.c1.aZ.1;refine ih (0) _ _ _ _ ?_ ?_ Yb Yb Yc
  .omega
  .exact⟨2,rfl,rfl,by simp,hS⟩
 |0,hj=>
  obtain rfl:j=2:=by omega
  rw[XA (show¬(2:Nat)=0 by omega),XA (show¬(2:Nat)=1 by omega)];apply Zq.W.aF.1;refine XE (Qw6 (L.length+K.length) _ hl hS) ?_;rintro _ _ ⟨_,O3,rfl,qX,oD⟩;apply Zq.a.1;replace hS:=oD;clear oD;apply Zq.M.aQ.1;refine Qx 27 6 (28::29::30::8::31::32::33::34::[]) (fun(i:Nat) v u w'=>∃(j:Nat) (D:List HC) (O:T0),j+i=2/\v= .int .i64 (j:Nat)/\D=(if j=0 then[]else if j=1 then L else L++K)/\Rw 104 3 u D.length (AE D) O/\St M w0 (O++(sb,.cells [.slice A L.length c,.slice B K.length d].toArray 53)::H) F w') (fun i=>i) (2) ?_ Yb Yb ?_
  .exact⟨0,[],O3,rfl,rfl,rfl,qX,hS⟩
  clear hS;rintro i _ u _ _ ⟨j,D,O,hj,rfl,hD,oE,hS⟩ ih
  match i,hj with
  |2,hj=>
   obtain rfl:j=0:=by omega
   obtain rfl:D=[]:=hD;replace hS:=hS.raise;apply Zq.cB.T.y.c.cY.1;refine UH hS Yb Yb rfl rfl rfl (hS.und hL) oE (XK [_] O _) Yg rfl ?_;clear hS;intro v5 O5 w5 qM hS;apply Zq.dN.1;refine ih (1) _ _ _ _ ?_ ?_ Yb Yb Yc
   .omega
   .exact⟨1,L,O5,rfl,rfl,by simp,by simpa[AE]using qM,hS⟩
  |1,hj=>
   obtain rfl:j=1:=by omega
   have vW:D=L:=by simpa using hD
   rw[vW]at oE;replace hS:=hS.raise;apply Zq.cB.T.y.c.cY.1;refine UH hS Yb Yb rfl rfl rfl (hS.und hK) oE (XK [_] O _) Ya rfl ?_;clear hS;intro v5 O5 w5 qM hS;apply Zq.dN.1;refine ih (0) _ _ _ _ ?_ ?_ Yb Yb Yc
   .omega
   .exact⟨2,L++K,O5,rfl,rfl,by simp,by rw[NS,XG];exact qM,hS⟩
  |0,hj=>
   obtain rfl:j=2:=by omega
   have vW:D=L++K:=by simpa using hD
   rw[vW]at oE;obtain⟨A',c',rfl,_⟩:=oE.form;apply Zq.W.aB.1;refine Qd func141 rfl Yb ?_;exact⟨A',c',O,rfl,oE,hS.raise.drop⟩
end
abbrev DS:=T8×T7
def HJ(a:Int)(s:DS):DS:=if Qy s.1 a=true then s else(s.1.set a.toNat true,s.2++[a])
structure IK(L:List HC)(R:T7)(Ex:Int->Prop)(s:DS):Prop where
 len:s.1.length=L.length
 snd:∀i:Nat,s.1[i]?=some true->Rc L R (i:Int)
 wt:∀a∈s.2,Qo L a=true/\Qy s.1 a=true
 clo:∀(i:Int) (c:HC),Qy s.1 i=true->i∉s.2->¬Ex i->AD L i=some c->(c.k=0->Qy s.1 c.n=true)/\∀j:Int,0<=j->j<QU c->Qy s.1 (i+1+j)=true
def I1(s:DS):Nat:=2*s.1.count false+s.2.length
theorem SU{a b:Int}{s:DS}(h:Qy s.1 b=true):Qy (HJ a s).1 b=true:=by
 unfold HJ;split
 .exact h
 .rw[MH]at h⊢;rw[JI];split
  .rename_i e;rw[XB];rw[e];rcases XY b.toNat s.1.length with g|g
   .exact g
   .rw[XX g]at h;cases h
  .exact h
theorem Qel{L:List HC}{a:Int}{s:DS}(hl:s.1.length=L.length)(ha:Qo L a=true):Qy (HJ a s).1 a=true:=by
 have:=Qq.1 ha;unfold HJ;split
 .assumption
 .rw[MH,Xbn Ya]
theorem Qhx{L:List HC}{R:T7}{Ex:Int->Prop}{a:Int}{s:DS}(h:IK L R Ex s)(ha:Qo L a=true)(hr:Rc L R a):IK L R Ex (HJ a s):=by
 have Ah:=fun b=>SU (a:=a) (b:=b) (s:=s);have Ae:=Qel (a:=a) h.len ha;have haa:=Qq.1 ha;by_cases hm:Qy s.1 a=true
 .have e:HJ a s=s:=by unfold HJ;rw[XB hm]
  rw[e];exact h
 have e:HJ a s=(s.1.set a.toNat true,s.2++[a]):=by unfold HJ;rw[XA hm]
 rw[e]at Ah Ae⊢;refine⟨by simpa using h.len,fun i hi=> ?_,fun b hb=> ?_,fun i c hi hn hx hc=> ?_⟩
 .dsimp only at hi;rw[JI]at hi;split at hi
  .rename_i e2;rw[show((i:Nat):Int)=a by omega];exact hr
  .exact h.snd i hi
 .rcases VG.1 hb with hb|hb
  .exact⟨(h.wt b hb).1,Ah b (h.wt b hb).2⟩
  .rw[VJ.1 hb];exact⟨ha,Ae⟩
 .dsimp only at hi hn⊢;have hia:i≠a:=fun e=>hn (WW _ (by simp[e]));have tW:i∉s.2:=fun e=>hn (JO _ e);have hii:=(AZ.1 hc).1
  have Ju:Qy s.1 i=true:=by
   rw[MH]at hi⊢;rw[JI,XA Ya]at hi;exact hi
  obtain⟨g1,g2⟩:=h.clo i c Ju tW hx hc;exact⟨fun hk=>Ah _ (g1 hk),fun j j0 j1=>Ah _ (g2 j j0 j1)⟩
theorem QsU{M:T8}{i:Nat}(hl:i<M.length)(hm:M[i]?≠some true):(M.set i true).count false+1=M.count false:=by
 have e:M[i]=false:=by
  rw[VN hl]at hm;simpa using hm
 have tI:0<M.count false:=List.count_pos_iff.2 (by rw[<-e];exact List.getElem_mem hl);rw[List.count_set hl,e];simp;omega
theorem Qhw{L:List HC}{a:Int}{s:DS}(hl:s.1.length=L.length)(ha:Qo L a=true):I1 (HJ a s)<=I1 s:=by
 have:=Qq.1 ha;unfold HJ;split
 .exact XF _
 .rename_i hm;have:=QsU (M:=s.1) (i:=a.toNat) Ya (fun h=>hm (MH.2 h));unfold I1;exact OB
theorem IK.pop{L:List HC}{R:T7}{M:T8}{W:T7}{a:Int}(h:IK L R (fun _=>False) (M,W++[a])):IK L R (fun i=>i=a) (M,W):=
 ⟨h.len,h.snd,fun b hb=>h.wt b (JO _ hb),fun i c h1 h2 h3 h4=>h.clo i c h1 (fun hm=>by
  rcases VG.1 hm with hm|hm
  .exact h2 hm
  .exact h3 (by simpa using hm)) (fun e=>e) h4⟩
theorem IK.done{L:List HC}{R:T7}{a:Int}{c:HC}{s:DS}(h:IK L R (fun i=>i=a) s)(hc:AD L a=some c)(h1:c.k=0->Qy s.1 c.n=true)(h2:∀j:Int,0<=j->j<QU c->Qy s.1 (a+1+j)=true):IK L R (fun _=>False) s:=
 ⟨h.len,h.snd,h.wt,fun i d g1 g2 _ g4=>by
  by_cases e:i=a
  .subst e;rw[hc]at g4;cases g4;exact⟨h1,h2⟩
  .exact h.clo i d g1 g2 e g4⟩
theorem IK.fin{L:List HC}{R:T7}{M:T8}(hg:Q2 L.length L=true)(h:IK L R (fun _=>False) (M,[]))(hr:∀r∈R,Qo L r=true->Qy M r=true):M=QW L R:=by
 refine Qo2.eq ⟨h.len,fun i hi=>⟨h.snd i,fun vM=> ?_⟩⟩
 have key:∀a,Rc L R a->Qy M a=true:=by
  intro a ha
  induction ha with
  |root h1 h2=>exact hr _ h1 h2
  |ref h1 hc hk ih=>exact(h.clo _ _ ih Yd (fun e=>e) hc).1 hk
  |arg h1 hc i0 i1 ih=>exact(h.clo _ _ ih Yd (fun e=>e) hc).2 _ i0 i1
 have:=MH.1 (key _ vM)
 rwa [show((i:Nat):Int).toNat=i by omega]at this
theorem IK.start{L:List HC}{R:T7}{Ex:Int->Prop}:IK L R Ex (List.replicate L.length false,[]):=by
 have sE:∀i:Nat,(List.replicate L.length false)[i]?≠some true:=fun i h=>by
  rw[Xbc]at h;split at h<;>simp at h
 refine⟨by simp,fun i hi=>absurd hi (sE i),fun a ha=>by simp at ha,fun i c hi=> ?_⟩;exact absurd (MH.1 hi) (sE _)
noncomputable def QeF (h:HH) (R:T7):T8×Int:=if QS h=false then([],1)else(QW h.cs R,0)
end Go.Proofs.YthliapbflkfdiacGreatDoor
