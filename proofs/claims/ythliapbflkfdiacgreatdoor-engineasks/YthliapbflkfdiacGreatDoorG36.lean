/- Steps of the proof. -/
import Derived.Test.YthliapbflkfdiacGreatDoorG35
set_option linter.unusedVariables false
set_option linter.unusedSimpArgs false
set_option maxRecDepth 100000
set_option maxHeartbeats 1000000
namespace Go.Proofs.YthliapbflkfdiacGreatDoor
open Go.Proofs.Tryz
open Go.RowKit
abbrev KX(b:Nat):TH:= .pointer (some ⟨b,0,none⟩)
abbrev uob(g n c:Nat)(B:T4)(m d w:Nat)(lg:Bool):Obj:= .cells [.slice (some ⟨g,0,none⟩) n c,.slice B m d,.int .i64 (w:Nat),.bool lg].toArray 254
abbrev RE(L:List HC)(sp:T5):Obj:= .cells (AE L++sp).toArray 104
def EZ(M:T6)(w0:TG)(H:T0)(F:T3)(ub g c:Nat)(sp:T5)(u:HU)(w:TG):Prop:=
 ∃(B:T4) (d:Nat) (O:T0),Rw 3 1 (.slice B u.tr.length d) u.tr.length (Qr u.tr) O/\St M w0 ((ub,uob g u.cs.length c B u.tr.length d u.w u.lg)::(g,RE u.cs sp)::(O++H)) F w
section
variable{M:T6}{w0:TG}{H:T0}{F:T3}{ub g c:Nat}{sp:T5}
theorem QqL(u:HU)(w:TG)(hw:u.w<=100000)(hs:EZ M w0 H F ub g c sp u w):
  Calls prog 219 #[KX ub] w fun e w'=>e= .returned (.tuple #[])/\EZ M w0 H F ub g c sp u.step w':=by
 obtain⟨B,d,O,oE,hS⟩:=hs;refine Qg func219 rfl ntmps219 rfl ?_;by_cases h4:400<u.w+1
 .apply Zq.aT.a6.C.dL.1;clear hS;intro oQ hS;apply Zq.dT.a6.S.v.u.O.bI.J.1;clear hS;intro _ hS;apply Zq.b.1;refine QN func219 rfl ?_;exact⟨rfl,B,d,O,oE,by simp only[HU.step,X1 h4,Xaw];exact hS⟩
 .apply Zq.aT.a6.C.dL.1;clear hS;intro oQ hS;apply Zq.dT.a6.S.D.1;refine QN func219 rfl ?_;exact⟨rfl,B,d,O,oE,by simp only[HU.step,X4 h4,Bool.or_false];exact hS⟩
theorem Qjc(u:HU)(a:Int)(w:TG)(hl:u.cs.length<=65536)(hc:u.cs.length<=c)(hs:EZ M w0 H F ub g c sp u w):
  Calls prog 220 #[KX ub,.int .i64 a] w fun e w'=>e= .returned (.int .i64 (u.look a).1)/\EZ M w0 H F ub g c sp (u.look a).2 w':=by
 obtain⟨B,d,O,oE,hS⟩:=hs;refine Qh func220 rfl ntmps220 rfl ?_
 cases hg:u.lg with
 |true=>
  rw[hg]at hS
  have e0:u.look a=(-1,u):=by unfold HU.look;rw[XB hg]
  rw[e0];apply Zq.e.aH.cS.cI.kU.1;exact⟨rfl,B,d,O,oE,by rw[hg];exact hS⟩
 |false=>
  rw[hg]at hS
  have e0:u.look a=(Qw u.cs a,⟨u.cs,u.tr,u.w,decide (Qw u.cs a<0)⟩):=by unfold HU.look;rw[XA YT]
  rw[e0];have uH:∀{o H' F'} w',St M w0 ((ub,o)::(g,RE u.cs sp)::H') F' w'->QG 3 (AE u.cs) (some ⟨g,0,none⟩) u.cs.length c w':=fun w' hS=>QG.own (hS.own (g,_) (.tail _ (.head _))) (GQ _) hc;by_cases hn:Qw u.cs a<0
  .rw[X1 hn];apply Zq.e.aH.cS.D.bN.b1.g.f.k5.1;rintro _ w3 ⟨rfl,oZ⟩;apply Zq.a.1;replace hS:=hS.grow oZ;apply Zq.M.I.v.u.O.bI.J.1;clear hS;intro _ hS;apply Zq.b.aB.kU.1;exact Yci
  .rw[X4 hn];apply Zq.e.aH.cS.D.bN.b1.g.f.k5.1;rintro _ w3 ⟨rfl,oZ⟩;apply Zq.a.1;replace hS:=hS.grow oZ;apply Zq.M.c1.aB.kU.1;exact Yci
theorem Qjb(u:HU)(a:Int)(x:HC)(w:TG)(hx:AD u.cs a=some x)(hs:EZ M w0 H F ub g c sp u w):
  Calls prog 221 #[KX ub,.int .i64 a] w fun e w'=>e= .returned (.bool (decide (x.k=0)))/\EZ M w0 H F ub g c sp u w':=by
 obtain⟨B,d,O,oE,hS⟩:=hs;obtain⟨_,h1,hg⟩:=AZ.1 hx;have oS:∀{o H' F'} w',St M w0 ((ub,o)::(g,RE u.cs sp)::H') F' w'->_:=fun w' hS=>(QG.own (cap:=u.cs.length) (hS.own (g,_) (.tail _ (.head _))) (GQ u.cs) (XF _)).cell hg;refine Qh func221 rfl ntmps221 rfl ?_;by_cases hk:x.k=0
 .rw[X1 hk];exact YcH
 .rw[X4 hk];exact YcH
theorem Qnp(u:HU)(a:Int)(x:HC)(w:TG)(hx:AD u.cs a=some x)(hs:EZ M w0 H F ub g c sp u w):
  Calls prog 240 #[KX ub,.int .i64 a] w fun e w'=>e= .returned (.int .i64 (QU x))/\EZ M w0 H F ub g c sp u w':=by
 obtain⟨B,d,O,oE,hS⟩:=hs;obtain⟨_,h1,hg⟩:=AZ.1 hx;have oS:∀{o H' F'} w',St M w0 ((ub,o)::(g,RE u.cs sp)::H') F' w'->_:=fun w' hS=>(QG.own (cap:=u.cs.length) (hS.own (g,_) (.tail _ (.head _))) (GQ u.cs) (XF _)).cell hg;refine Qh func240 rfl ntmps240 rfl ?_;apply Zq.e.bN.aI.dU.bR.eT.F.1;refine XE (QrL x _) ?_;rintro _ _ ⟨rfl,oZ⟩;apply Zq.a.1;replace hS:=hS.grow oZ;apply Zq.c.1;refine Qd func240 rfl Yb ?_;exact Yci
theorem Qno(u:HU)(a x:Int)(y:HC)(w:TG)(hy:AD u.cs a=some y)(ht:u.tr.length<=1000000)(hs:EZ M w0 H F ub g c sp u w):
  Calls prog 222 #[KX ub,.int .i64 a,.int .i64 x] w fun e w'=>e= .returned (.tuple #[])/\EZ M w0 H F ub g c sp (u.bind a x) w':=by
 obtain⟨B,d,O,oE,hS⟩:=hs;obtain⟨_,h1,hg⟩:=AZ.1 hy;have qT:=QmI u.cs sp a.toNat x Ya;refine QQ func222 rfl ntmps222 rfl ?_;apply Zq.bN.aI.aV.aO.bR.L.n1.1;clear hS;intro _ hS;apply Zq.b.cY.bL.L.dU.bH.1;clear hS;intro _ _ hS;refine QiK (L:=[a]) hS Yb Yi rfl rfl rfl (QG.own (sp:=[]) (hS.own (_,_) (.head _)) rfl (XF _)) oE (XK [_,_,_] O _) Yg rfl ?_;clear hS;intro _ O7 _ pD hS;obtain⟨B7,d7,rfl,_⟩:=pD.form;replace hS:=(hS.perm (XK O7 [_,_,_] _)).drop;apply Zq.bL.L.J.1;clear hS;intro _ hS;apply Zq.b.1;refine QN func222 rfl ?_;refine⟨rfl,B7,d7,O7,?_,?_⟩
 .simp only[HU.bind,XG,Qr,VD]at pD⊢;exact pD
 .simp only[HU.bind,XG,NR];exact hS
def Qqm(n f:Nat):Prop:=∀(M:T6) (w0:TG) (H:T0) (F:T3) (ub g c:Nat) (sp:T5) (a b:Int) (u:HU) (w:TG),
 GU n u->n<=65536->n<=c->400<=u.w+f->u.w<=20000->f<=401->-1<=b->b<=100000->EZ M w0 H F ub g c sp u w->
  Calls prog 239 #[KX ub,.int .i64 a,.int .i64 b] w fun e w'=>e= .returned (.bool (B4 a f b u).1)/\EZ M w0 H F ub g c sp (B4 a f b u).2 w'
theorem QtN{u:HU}(h:400<=u.w):u.step.lg=true:=by simp only[HU.step,X1 (show 400<u.w+1 by omega),Xaw]
theorem EZ.lgS{u:HU}{w:TG}{b:Bool}(h:EZ M w0 H F ub g c sp u w)(hb:u.lg=b):∃(B:T4) (d:Nat) (O:T0),Rw 3 1 (.slice B u.tr.length d) u.tr.length (Qr u.tr) O/\St M w0 ((ub,uob g u.cs.length c B u.tr.length d u.w b)::(g,RE u.cs sp)::(O++H)) F w:=by
 obtain⟨B,d,O,h1,h2⟩:=h;rw[hb]at h2;exact⟨B,d,O,h1,h2⟩
theorem Qq4(n f:Nat)(ih:∀f',f=f'+1->Qqm n f'):Qqm n f:=by
 intro M w0 H F ub g c sp a b u w hG hn hc _ hk _ _ _ hs;have pW:(B4 a f b u).1=(B4 a f b u).1:=rfl;refine QQ func239 rfl ntmps239 rfl ?_;apply Zq.e.Z.1;refine XE (QqL u _ Ya hs) ?_;rintro _ _ ⟨rfl,rN⟩;apply Zq.a.cZ.f.1;refine XE (Qjc u.step b _ (by rw[hG.step.len];exact hn) (by rw[hG.step.len];exact hc) rN) ?_;rintro _ _ ⟨rfl,vY⟩;apply Zq.a.1;have hG3:=hG.step.look b;have Uc:(u.step.look b).2.cs=u.cs:=(LW u.step b).2.1;have hw3:(u.step.look b).2.w=u.w+1:=(LW u.step b).1
 cases sA:(u.step.look b).2.lg with
 |true=>
  have e0:B4 a f b u=(false,(u.step.look b).2):=by
   cases f with
   |zero=>rfl
   |succ f=>simp only[B4];rw[XB sA]
  rw[e0];obtain⟨B,d,O,oE,hS⟩:=vY.lgS sA;apply Zq.c.aH.bI.aV.cI.iL.1;exact YcO
 |false=>
  obtain⟨f,rfl⟩:∃f',f=f'+1:=by
   cases f with
   |succ f=>exact⟨f,rfl⟩
   |zero=>
    have:=(NW sA).1;rw[QtN Ya]at this;cases this
  have ih:=ih f rfl;obtain⟨tH,Hm,sV⟩:=NW sA;obtain⟨x,hx,_⟩:=TO sV;rw[<-Hm]at hx;replace hx:AD u.cs (u.step.look b).1=some x:=hx
  have Zz:AD (u.step.look b).2.cs (u.step.look b).1=some x:=by rw[Uc];exact hx
  obtain⟨_,Co,_⟩:=AZ.1 hx;rw[hG.len]at Co
  have e0:B4 a (f+1) b u=if a=(u.step.look b).1 then(true,(u.step.look b).2)else HI (B4 a f) (EG u.cs (u.step.look b).1) ((u.step.look b).1+1) (u.step.look b).2:=by
   simp only[B4];rw[XA (by rw[sA];decide)]
  rw[e0];have hw4:=hG3.wk sA;have hgA:=(Qj6 (a:=(u.step.look b).1) hG.good).1
  have hA:QU x=((EG u.cs (u.step.look b).1:Nat):Int):=by
   have:EG u.cs (u.step.look b).1=(QU x).toNat:=by unfold EG;rw[hx]
   rw[this];have:=Q4 (H9 hG.good hx);unfold QU;split<;>omega
  generalize hq:(u.step.look b).1=q at*;obtain⟨B,d,O,oE,hS⟩:=vY.lgS sA;by_cases haq:a=q
  .rw[XB haq];apply Zq.c.aH.bI.aV.D.aA.l.cI.iL.1;exact YcO
  .rw[XA haq];apply Zq.c.aH.bI.aV.D.aA.bY.aA.f.1;refine XE (Qnp (u.step.look b).2 q x _ Zz ⟨B,d,O,oE,by rw[sA];exact hS⟩) ?_;rintro _ _ ⟨rfl,Fa⟩;apply Zq.a.1;rw[hA];clear hS oE;apply Zq.g3.1;refine Qp 23 (24::25::7::26::27::28::29::30::31::32::6::33::[]) (fun(m:Nat) v w'=>∃(i:Nat) (u':HU),i+m=EG u.cs q/\v= .int .i64 (i:Nat)/\GU n u'/\u'.cs=u.cs/\u.w+1<=u'.w/\u'.w<=401+4*f+i/\HI (B4 a f) (EG u.cs q) (q+1) (u.step.look b).2=HI (B4 a f) m (q+1+(i:Nat)) u'/\EZ M w0 H F ub g c sp u' w') (fun m=>m) (EG u.cs q) ?_ Yb ?_
   .exact⟨0,(u.step.look b).2,by omega,rfl,hG3,Uc,by omega,by omega,by simp,Fa⟩
   clear Fa vY;rintro m _ _ _ ⟨i,u',_,rfl,Ht,aCt,sL,_,Me,uW⟩ ihl
   cases m with
   |zero=>
    apply Zq.W.e.iL.1;rw[Me];exact⟨rfl,uW⟩
   |succ m=>
    have Gd:=Qn1 (n:=n) a f (q+1+(i:Nat)) u' Ht.good Ht.wk;have oW:=Gd.le;have pU:=Gd.lt;have xB:=Ht.trl
    have hstep:HI (B4 a f) (m+1) (q+1+(i:Nat)) u'=if(B4 a f (q+1+(i:Nat)) u').1=true then B4 a f (q+1+(i:Nat)) u' else HI (B4 a f) m (q+1+(i:Nat)+1) (B4 a f (q+1+(i:Nat)) u').2:=rfl
    apply Zq.a8.aB.i.a1.a1.bA.1;refine XE (ih M w0 H F ub g c sp a (q+1+(i:Nat)) u' _ Ht hn hc Ya Ya Ya Ya Ya uW) ?_;rintro _ _ ⟨rfl,Ai⟩;apply Zq.a.1
    cases hr:(B4 a f (q+1+(i:Nat)) u').1 with
    |true=>
     apply Zq.cI.iL.1;rw[Me,hstep,XB hr,hr];exact⟨rfl,Ai⟩
    |false=>
     apply Zq.D.aZ.1;refine ihl m _ _ _ ?_ ?_ Yb Yc
     .omega
     .refine⟨i+1,(B4 a f (q+1+(i:Nat)) u').2,by omega,by simp,⟨by rw[Gd.cs];exact Ht.len,by rw[Gd.cs];exact Ht.good,Gd.wk,by rw[Gd.tr];omega⟩,by rw[Gd.cs];exact aCt,by omega,by omega,?_,Ai⟩;rw[Me,hstep,XA (by rw[hr];decide)];exact LI
theorem Qq5(n:Nat):∀f,Qqm n f
 |0=>Qq4 n 0 fun f' h=>by omega
 |f+1=>Qq4 n (f+1) fun f' h=>by
  obtain rfl:f=f':=by omega
  exact Qq5 n f
theorem QlV(n:Nat)(a b:Int)(y:HC)(u:HU)(w:TG)(hG:GU n u)(hn:n<=65536)(hc:n<=c)(sA:u.lg=false)(hy:AD u.cs a=some y)(Cm:0<=b)(qJ:b<n)(hs:EZ M w0 H F ub g c sp u w):
  Calls prog 223 #[KX ub,.int .i64 a,.int .i64 b] w fun e w'=>e= .returned (.bool (KN a b u).1)/\EZ M w0 H F ub g c sp (KN a b u).2 w':=by
 have hw:=hG.wk sA;have Gd:=Qn1 (n:=n) a 401 b u hG.good hG.wk;have xB:=hG.trl
 have e0:KN a b u=if(B4 a 401 b u).1=true\/(B4 a 401 b u).2.lg=true then(false,(B4 a 401 b u).2)else(true,(B4 a 401 b u).2.bind a b):=rfl
 rw[e0];refine QQ func223 rfl ntmps223 rfl ?_;apply Zq.e.aA.g.bA.1;refine XE (Qq5 n 401 M w0 H F ub g c sp a b u _ hG hn hc Ya Ya Ya Ya Ya hs) ?_;rintro _ _ ⟨rfl,vY⟩;apply Zq.a.1
 cases ho:(B4 a 401 b u).1 with
 |true=>
  rw[XB (.inl rfl)];apply Zq.bB.H.e.kN.1;exact⟨rfl,vY⟩
 |false=>
  cases hl:(B4 a 401 b u).2.lg with
  |true=>
   rw[XB (.inr rfl)];obtain⟨B,d,O,oE,hS⟩:=vY.lgS hl;apply Zq.n.c9.bI.j.aV.H.e.kN.1;exact⟨rfl,B,d,O,oE,by rw[hl];exact hS⟩
  |false=>
   rw[XA Yf];obtain⟨B,d,O,oE,hS⟩:=vY.lgS hl;apply Zq.n.c9.bI.j.aV.N.i.g.bA.1;refine XE (Qno (B4 a 401 b u).2 a b y _ (by rw[Gd.cs];exact hy) (by rw[Gd.tr];omega) ⟨B,d,O,oE,by rw[hl];exact hS⟩) ?_;rintro _ _ ⟨rfl,Fa⟩;apply Zq.a.b.e.kN.1;exact⟨rfl,Fa⟩
end
def Qm0(n f:Nat):Prop:=∀(M:T6) (w0:TG) (H:T0) (F:T3) (ub g c:Nat) (sp:T5) (a b:Int) (u:HU) (w:TG),
 GU n u->u.lg=false->n<=65536->n<=c->400<=u.w+f->f<=401->EZ M w0 H F ub g c sp u w->
  Calls prog 196 #[KX ub,.int .i64 a,.int .i64 b] w fun e w'=>e= .returned (.bool (CE f a b u).1)/\EZ M w0 H F ub g c sp (CE f a b u).2 w'
section
variable{M:T6}{w0:TG}{H:T0}{F:T3}{ub g c:Nat}{sp:T5}
theorem Quk(n f:Nat)(ih:Qm0 n f)(a b:Int)(x y:HC)(u:HU)(w:TG)(hG:GU n u)(sA:u.lg=false)(hn:n<=65536)(hc:n<=c)(hkf:400<=u.w+f)(hf:f<=401)(hx:AD u.cs a=some x)(hy:AD u.cs b=some y)(hs:EZ M w0 H F ub g c sp u w):
  Calls prog 224 #[KX ub,.int .i64 a,.int .i64 b] w fun e w'=>e= .returned (.bool (MJ (CE f) a b u).1)/\EZ M w0 H F ub g c sp (MJ (CE f) a b u).2 w':=by
 have hw:=hG.wk sA;obtain⟨_,_,Gc⟩:=AZ.1 hx;obtain⟨_,_,Tn⟩:=AZ.1 hy;have oG:=hG.len;have Ff:∀{o H' F'} w',St M w0 ((ub,o)::(g,RE u.cs sp)::H') F' w'->_:=fun w' hS=>(QG.own (cap:=u.cs.length) (hS.own (g,_) (.tail _ (.head _))) (GQ u.cs) (XF _)).cell Gc;have Ia:∀{o H' F'} w',St M w0 ((ub,o)::(g,RE u.cs sp)::H') F' w'->_:=fun w' hS=>(QG.own (cap:=u.cs.length) (hS.own (g,_) (.tail _ (.head _))) (GQ u.cs) (XF _)).cell Tn
 have hA:QU x=((EG u.cs a:Nat):Int):=by
  have:EG u.cs a=(QU x).toNat:=by unfold EG;rw[hx]
  rw[this];have:=Q4 (H9 hG.good hx);unfold QU;split<;>omega
 have hgA:=(Qj6 (a:=a) hG.good).1;obtain⟨B,d,O,oE,hS⟩:=hs.lgS sA;refine QQ func224 rfl ntmps224 rfl ?_;apply Zq.e.E.E.iM.1;replace hS:=hS.drew;apply Zq.cA.bC.kY.a5.d0.mP.cA.bC.kY.a5.d0.mP.1;refine Qe rfl (fun _ hS=>QnF rfl rfl) rfl ?_;apply Zq.dK.1;by_cases Gj:x=y
 case neg=>
  have e0:MJ (CE f) a b u=(false,u):=by unfold MJ;rw[hx,hy,XA (by simpa using Gj)]
  rw[e0,X4 Gj];apply Zq.cD.e.jR.1;exact YcO
 have e0:MJ (CE f) a b u=FY (CE f) (EG u.cs a) (a+1) (b+1) u:=by unfold MJ;rw[hx,hy,XB (by rw[Gj])]
 rw[e0,X1 Gj];apply Zq.bS.aW.aA.f.1;refine XE (Qnp u a x _ hx ⟨B,d,O,oE,by rw[sA];exact hS⟩) ?_;rintro _ _ ⟨rfl,Fa⟩;apply Zq.a.1;rw[hA];clear hS oE;apply Zq.g3.1;refine Qp 28 (29::30::7::31::32::33::34::35::36::37::38::39::40::41::6::42::[]) (fun(m:Nat) v w'=>∃(i:Nat) (u':HU),i+m=EG u.cs a/\v= .int .i64 (i:Nat)/\GU n u'/\u'.lg=false/\u.w<=u'.w/\FY (CE f) (EG u.cs a) (a+1) (b+1) u=FY (CE f) m (a+1+(i:Nat)) (b+1+(i:Nat)) u'/\EZ M w0 H F ub g c sp u' w') (fun m=>m) (EG u.cs a) ?_ Yb ?_
 .exact⟨0,u,by omega,rfl,hG,sA,XF _,by simp,Fa⟩
 clear Fa;rintro m _ _ _ ⟨i,u',_,rfl,Ht,Ky,sL,pO,uW⟩ ihl
 cases m with
 |zero=>
  apply Zq.W.e.jR.1;rw[pO];exact⟨rfl,uW⟩
 |succ m=>
  have Bt:=Qnl (n:=n) f (a+1+(i:Nat)) (b+1+(i:Nat)) u' Ht Ky
  have hstep:FY (CE f) (m+1) (a+1+(i:Nat)) (b+1+(i:Nat)) u'=if(CE f (a+1+(i:Nat)) (b+1+(i:Nat)) u').1=true then FY (CE f) m (a+1+(i:Nat)+1) (b+1+(i:Nat)+1) (CE f (a+1+(i:Nat)) (b+1+(i:Nat)) u').2 else CE f (a+1+(i:Nat)) (b+1+(i:Nat)) u':=rfl
  apply Zq.a8.aB.i.C.a1.a1.a1.bA.1;refine XE (ih M w0 H F ub g c sp (a+1+(i:Nat)) (b+1+(i:Nat)) u' _ Ht Ky hn hc Ya hf uW) ?_;rintro _ _ ⟨rfl,Ai⟩;apply Zq.a.1
  cases hr:(CE f (a+1+(i:Nat)) (b+1+(i:Nat)) u').1 with
  |true=>
   apply Zq.bF.aZ.1;refine ihl m _ _ _ ?_ ?_ Yb Yc
   .omega
   .have pU:=Bt.lt;refine⟨i+1,(CE f (a+1+(i:Nat)) (b+1+(i:Nat)) u').2,by omega,by simp,Bt.gu,Bt.ok hr,by omega,?_,Ai⟩;rw[pO,hstep,XB hr];congr 1<;>omega
  |false=>
   apply Zq.X.cI.jR.1;rw[pO,hstep,XA (by rw[hr];decide),hr];exact⟨rfl,Ai⟩
theorem Qqv(n f:Nat)(ih:∀f',f=f'+1->Qm0 n f'):Qm0 n f:=by
 intro M w0 H F ub g c sp a b u w hG sA hn hc _ _ hs;have hw:=hG.wk sA;refine QQ func196 rfl ntmps196 rfl ?_;apply Zq.e.Z.1;refine XE (QqL u _ Ya hs) ?_;rintro _ _ ⟨rfl,rN⟩;apply Zq.a.cZ.f.1;refine XE (Qjc u.step a _ (by rw[hG.step.len];exact hn) (by rw[hG.step.len];exact hc) rN) ?_;rintro _ _ ⟨rfl,vY⟩;apply Zq.a.1;have hGa:=hG.step.look a;apply Zq.aO.f.1;refine XE (Qjc (u.step.look a).2 b _ (by rw[hGa.len];exact hn) (by rw[hGa.len];exact hc) vY) ?_;rintro _ _ ⟨rfl,Fa⟩;apply Zq.a.1;have uF:=LW u.step a;have Af:=LW (u.step.look a).2 b;have Wo:GU n ((u.step.look a).2.look b).2:=hGa.look b
 have Ag:((u.step.look a).2.look b).2.w=u.w+1:=by rw[Af.1,uF.1];rfl
 have wH:((u.step.look a).2.look b).2.cs=u.cs:=by rw[Af.2.1,uF.2.1];rfl
 cases qY:((u.step.look a).2.look b).2.lg with
 |true=>
  have e0:CE f a b u=(false,((u.step.look a).2.look b).2):=by
   cases f with
   |zero=>rfl
   |succ f=>simp only[CE];rw[XB qY]
  rw[e0];obtain⟨B,d,O,oE,hS⟩:=Fa.lgS qY;apply Zq.K.aH.bI.lI.cI.gL.1;exact⟨rfl,B,d,O,oE,by rw[qY];exact hS⟩
 |false=>
  obtain⟨Hp,qJ,pH⟩:=NW qY;obtain⟨Ja,Nv,Fs⟩:=NW Hp
  obtain⟨f,rfl⟩:∃f',f=f'+1:=by
   cases f with
   |succ f=>exact⟨f,rfl⟩
   |zero=>rw[QtN Ya]at Ja;cases Ja
  have ih:=ih f rfl;rw[uF.2.1]at qJ pH;obtain⟨x,hx,Iz⟩:=TO Fs;obtain⟨y,hy,Db⟩:=TO pH;rw[<-Nv]at hx Iz;rw[<-qJ]at hy Db;replace hx:AD u.cs (u.step.look a).1=some x:=hx;replace hy:AD u.cs ((u.step.look a).2.look b).1=some y:=hy;obtain⟨x0,x1,_⟩:=AZ.1 hx;obtain⟨y0,y1,_⟩:=AZ.1 hy;rw[hG.len]at x1 y1;have xB:=Wo.trl
  have e0:CE (f+1) a b u=if x.k=0 then(if y.k=0 then(if(u.step.look a).1=((u.step.look a).2.look b).1 then(true,((u.step.look a).2.look b).2)else(true,((u.step.look a).2.look b).2.bind (max (u.step.look a).1 ((u.step.look a).2.look b).1) (min (u.step.look a).1 ((u.step.look a).2.look b).1)))else KN (u.step.look a).1 ((u.step.look a).2.look b).1 ((u.step.look a).2.look b).2)
    else if y.k=0 then KN ((u.step.look a).2.look b).1 (u.step.look a).1 ((u.step.look a).2.look b).2 else MJ (CE f) (u.step.look a).1 ((u.step.look a).2.look b).1 ((u.step.look a).2.look b).2:=by
   simp only[CE];rw[XA (by rw[qY];decide),show GH u.cs (u.step.look a).1=x.k by unfold GH;rw[hx],show GH u.cs ((u.step.look a).2.look b).1=y.k by unfold GH;rw[hy]]
  rw[e0]
  have wN:AD ((u.step.look a).2.look b).2.cs (u.step.look a).1=some x:=by rw[wH];exact hx
  have Lc:AD ((u.step.look a).2.look b).2.cs ((u.step.look a).2.look b).1=some y:=by rw[wH];exact hy
  clear vY rN e0 Af qJ Nv Iz Db hx hy;generalize((u.step.look a).2.look b).2=v at*;generalize((u.step.look a).2.look b).1=q at*;generalize(u.step.look a).1=p at*;obtain⟨B,d,O,oE,hS⟩:=Fa.lgS qY;apply Zq.K.aH.bI.lI.D.i.1;clear Fa
  have Ud:EZ M w0 H F ub g c sp v _:=⟨B,d,O,oE,by rw[qY];exact hS⟩
  clear oE hS;apply Zq.f.1;refine XE (Qjb v p x _ wN Ud) ?_;rintro _ _ ⟨rfl,Ai⟩;apply Zq.a.1;clear Ud;apply Zq.aO.f.1;refine XE (Qjb v q y _ Lc Ai) ?_;rintro _ _ ⟨rfl,Ue⟩;apply Zq.a.1;by_cases Cv:x.k=0
  .rw [XB Cv, X1 Cv];by_cases vE:y.k=0
   .rw[XB vE,X1 vE];by_cases Hd:p=q
    .rw[XB Hd];apply Zq.K.b8.h.t.g.cR.aA.Q.D.e.gL.1;exact⟨rfl,Ue⟩
    .rw[XA Hd];have aCv:=Qno (M:=M) (w0:=w0) (H:=H) (F:=F) (ub:=ub) (g:=g) (c:=c) (sp:=sp) v (max p q) (min p q);have Nr:max p q=(if p<q then q else p):=by omega
     have Cp:min p q=(if q<p then q else p):=by omega
     have aCw:∃z,AD v.cs (max p q)=some z:=by
      rcases WS p q with oW|oW
      .rw[XaQ oW];exact⟨y,Lc⟩
      .rw[XaR oW];exact⟨x,wN⟩
     obtain⟨z,hz⟩:=aCw;apply Zq.K.b8.h.t.g.cR.aA.Q.v.u.aO.fA.aO.kK.bA.1;refine XE (aCv z _ hz Ya Ue) ?_;rintro _ w8 ⟨rfl,Mf⟩;apply Zq.a.b.e.gL.1;exact⟨rfl,Mf⟩
   .rw[XA vE,X4 vE];apply Zq.K.b8.h.t.g.c4.dQ.i.g.bA.1;refine XE (QlV n p q x v _ Wo hn hc qY wN y0 y1 Ue) ?_;exact Yb4
  .rw[XA Cv,X4 Cv];by_cases vE:y.k=0
   .rw[XB vE,X1 vE];apply Zq.K.b8.i.U.c4.bT.h.dQ.i.g.bA.1;refine XE (QlV n q p y v _ Wo hn hc qY Lc x0 x1 Ue) ?_;exact Yb4
   .rw[XA vE,X4 vE];apply Zq.K.b8.i.U.c4.bT.h.bT.aW.aX.i.g.bA.1;refine XE (Quk n f ih p q x y v _ Wo qY hn hc Ya Ya wN Lc Ue) ?_;exact Yb4
theorem Qqw(n:Nat):∀f,Qm0 n f
 |0=>Qqv n 0 fun f' h=>by omega
 |f+1=>Qqv n (f+1) fun f' h=>by
  obtain rfl:f=f':=by omega
  exact Qqw n f
end
section
variable{M:T6}{w0:TG}{H:T0}{F:T3}
theorem St.freezeG{g c:Nat}{L:List HC}{sp:T5}{w:TG}(hS:St M w0 ((g,RE L sp)::H) F w)(hc:L.length<=c):St M w0 H (QG 3 (AE L) (some ⟨g,0,none⟩) L.length c::F) w:=by
 have ho:=hS.own (g,_) (.head _);refine hS.drop.learn fun w' hw=>QG.own (sp:=sp) (el:=104) ?_ (GQ L) hc;rw[hw.block g (IW ho) fun hm=> ?_]
 .exact ho
 .exact Yb0
theorem QzU{h:HH}{A3 B3:T4}{c3 d3 ub:Nat}{O3 O4:T0}{w:TG}(Ze:Rw 104 3 (.slice A3 h.cs.length c3) h.cs.length (AE h.cs) O3)(hr4:Rw 3 1 (.slice B3 h.tr.length d3) h.tr.length (Qr h.tr) O4)(hp:0<h.cs.length)
  (hS:St M w0 ((ub,.cells [.slice A3 h.cs.length c3,.slice B3 h.tr.length d3,.int .i64 0,.bool false].toArray 254)::(O4++(O3++H))) F w):
  ∃ub' g c sp,KX ub=KX ub'/\h.cs.length<=c/\EZ M w0 H F ub' g c sp ⟨h.cs,h.tr,0,false⟩ w:=by
 obtain⟨g,sp,rfl,rfl,_,oW,_⟩:=Ze.some_ hp;exact⟨ub,g,c3,sp,rfl,oW,B3,d3,O4,hr4,hS.perm (.cons _ (XK O4 [_] _))⟩
theorem Qnk(h:HH)(a b:Int)(A B:T4)(c d:Nat)(w:TG)(hH:AB F (FR h A c B d))(hS:St M w0 H F w):
  Calls prog 155 #[hv h A c B d,.int .i64 a,.int .i64 b] w (QzQ M w0 H F (CX h a b).1 fun A' c' B' d' e=>e= .returned (.tuple #[hv (CX h a b).1 A' c' B' d',.bool (CX h a b).2.1,.int .i64 (CX h a b).2.2])):=by
 have hL:AB F (QG 3 (AE h.cs) A h.cs.length c):=hH.imp fun _ h=>h.1;have hT:AB F (QG 1 (Qr h.tr) B h.tr.length d):=hH.imp fun _ h=>h.2;refine QQ func155 rfl ntmps155 rfl ?_;apply Zq.w.1;clear hS;intro b1 _ hS;apply Zq.dH.1;clear hS;intro b2 _ hS;apply Zq.K.b0.b1.F.g0.1;rintro _ _ ⟨rfl,pH⟩;apply Zq.a.1;replace hS:=hS.grow pH
 cases hg:QS h with
 |false=>
  have e0:CX h a b=(h,false,1):=by unfold CX;rw[XB hg]
  rw[e0];apply Zq.X.dG.b1.d.1;exact Ycy
 |true=>
 obtain⟨tH,qY⟩:=RX hg;apply Zq.bF.b0.b1.g.f.lF.1;rintro _ _ ⟨rfl,oZ⟩;apply Zq.a.1;replace hS:=hS.grow oZ
 cases ha:Qo h.cs a with
 |false=>
  have e0:CX h a b=(h,false,4):=by unfold CX;rw[XA YT,ha,XB Yd]
  rw[e0,show(decide (0<=a)&&decide (a<(h.cs.length:Nat)))=false from ha];apply Zq.X.bB.H.p.b1.d.1;exact Ycy
 |true=>
 rw[show(decide (0<=a)&&decide (a<(h.cs.length:Nat)))=true from ha];apply Zq.X.t.b1.P.f.1;refine XE (QbQ h.cs.length c A B h.tr.length d b _) ?_;rintro _ _ ⟨rfl,sJ⟩;apply Zq.a.1;replace hS:=hS.grow sJ
 cases hb:Qo h.cs b with
 |false=>
  have e0:CX h a b=(h,false,4):=by unfold CX;rw[XA YT,ha,hb,XB Yd]
  rw[e0,show(decide (0<=b)&&decide (b<(h.cs.length:Nat)))=false from hb];apply Zq.bW.H.p.b1.d.1;exact Ycy
 |true=>
 rw[show(decide (0<=b)&&decide (b<(h.cs.length:Nat)))=true from hb]
 have tI:0<h.cs.length:=by
  exact Yee
 apply Zq.bW.N.E.1;refine PX 9 (26::27::28::29::30::31::32::33::34::[]) (fun v w'=>∃ub g c' sp,v=KX ub/\h.cs.length<=c'/\EZ M w0 ((b2,C6 none 0 0 none 0 0)::(b1,C6 A h.cs.length c B h.tr.length d)::H) F ub g c' sp ⟨h.cs,h.tr,0,false⟩ w') ?_ ?_
 .intro oF;refine K1 (St _ _ _ _) 10 (.read 0 (.read 1 (.read 3 (.read 4 (.pick 2 (.pick 5 (.read 6 (.read 7 (.pick 8 (.read 9 .tail) .none))) .none) .none))))) Yc Yc hS.drew ?_;replace hS:=hS.drew;apply Zq.fB.kJ.j6.kJ.a0.F.1;refine XE (QlS h.cs A c _ hL Ya hS) ?_;rintro _ w5 ⟨_,_,_,rfl,qX,oD⟩;apply Zq.a.1;replace hS:=oD;clear oD;apply Zq.jM.a0.F.1;refine XE (QsY h.tr B d _ hT Ya hS) ?_;rintro _ w6 ⟨_,_,_,rfl,rB,oD⟩;apply Zq.a.1;replace hS:=oD;clear oD;apply Zq.jM.gF.1;refine Qj rfl (fun _ hS=>QD (cells:=[_,_,_,_]) (.cons Yb .nil) rfl) rfl ?_;apply Zq.a0.d3.1;clear hS;intro _ pM hS;apply Zq.jM.dX.eB.b.1;exact oF _ _ _ (QzU qX rB tI (by first|exact hS|exact hS.perm (.cons _ (XK _ _ _)))) Yb Yc
 clear hS;rintro _ _ w5 ⟨ub,g,c5,sp,rfl,Pr,Ud⟩
 have hG:GU h.cs.length ⟨h.cs,h.tr,0,false⟩:=by
  refine⟨rfl,?_,fun _=>by show(0:Nat)<=400;omega,by show h.tr.length<=65536+0;omega⟩;exact YbJ
 have Bt:=Qnl 401 a b _ hG rfl;have vT:=Qqw h.cs.length 401 M w0 ((b2,C6 none 0 0 none 0 0)::(b1,C6 A h.cs.length c B h.tr.length d)::H) F ub g c5 sp a b ⟨h.cs,h.tr,0,false⟩
 have e0:CX h a b=if(CE 401 a b ⟨h.cs,h.tr,0,false⟩).2.lg=true\/(CE 401 a b ⟨h.cs,h.tr,0,false⟩).1=true/\65536<(CE 401 a b ⟨h.cs,h.tr,0,false⟩).2.tr.length then(h,false,3)
   else if(CE 401 a b ⟨h.cs,h.tr,0,false⟩).1=false then(h,false,0)
   else(⟨(CE 401 a b ⟨h.cs,h.tr,0,false⟩).2.cs,(CE 401 a b ⟨h.cs,h.tr,0,false⟩).2.tr⟩,true,0):=by
  unfold CX;rw[XA YT,ha,hb,XA Yf]
 rw[e0];apply Zq.i.g.bA.1;refine XE (vT _ hG rfl tH Pr (by show 400<=0+401;omega) Ya Ud) ?_;rintro _ w6 ⟨rfl,Ai⟩;apply Zq.a.1;have Nu:=Bt.gu;have oK:=Bt.ok;clear Bt vT e0 Ud;generalize CE 401 a b ⟨h.cs,h.tr,0,false⟩=r at*;obtain⟨ok,u⟩:=r;dsimp only at*
 cases sA:u.lg with
 |true=>
  rw[XB (.inl rfl)];obtain⟨B6,d6,O6,rL,hS⟩:=Ai.lgS sA;replace hS:=hS.perm (.cons _ (.cons _ (XK O6 [_,_] _)));apply Zq.c.aH.cS.aS.aL.aL.aL.f1.U.H.p.b1.d.1;exact Ya2
 |false=>
  obtain⟨B6,d6,O6,rL,hS⟩:=Ai.lgS sA;replace hS:=hS.perm (.cons _ (.cons _ (XK O6 [_,_] _)))
  cases ok with
  |false=>
   rw[XA Yd,XB rfl];apply Zq.c.aH.cS.n.c8.U.bG.N.m.X.dG.b1.d.1;exact Ya2
  |true=>
   by_cases xB:65536<u.tr.length
   .rw[XB (.inr ⟨rfl,xB⟩)];apply Zq.c.aH.cS.n.n.c9.cO.L.aK.dA.S.bG.H.p.b1.d.1;exact Ya2
   .rw[XA Yg,XA Yf];apply Zq.c.aH.cS.n.n.c9.cO.L.aK.dA.S.bG.N.m.bF.bN.b1.d.1;clear hS;intro sR hS;apply Zq.K.fZ.1;have uJ:=(hS.drop.perm (XK [_] [_,_] _)).drop.drop;have hS3:=St.freezeG uJ (c:=c5) (by rw[Nu.len];exact Pr);have hS4:=St.freezeR rL hS3;exact⟨_,c5,B6,d6,_,rfl,fun φ h=> .tail _ (.tail _ h),fun w' hw=>⟨hw _ (.tail _ (.head _)),hw _ (.head _)⟩,hS4⟩
end
end Go.Proofs.YthliapbflkfdiacGreatDoor
