/- Steps of the proof. -/
import Derived.Test.YthliapbflkfdiacGreatDoorG33
set_option linter.unusedVariables false
set_option linter.unusedSimpArgs false
set_option maxRecDepth 100000
set_option maxHeartbeats 1000000
namespace Go.Proofs.YthliapbflkfdiacGreatDoor
open Go.Proofs.Tryz
open Go.RowKit
abbrev U6(M:T8):Obj:= .cells (CP M).toArray 4
abbrev svb(rb n:Nat):Obj:= .cells [.slice (some ⟨rb,0,none⟩) n n].toArray 202
abbrev svi(B:T4)(n c:Nat):Obj:= .cells [.slice B n c].toArray 54
abbrev Qz8(b:Nat):TH:= .pointer (some ⟨b,0,none⟩)
def NU(M:T6)(w0:TG)(H:T0)(F:T3)(b2 b3 rb:Nat)(s:DS)(w:TG):Prop:=
 ∃(B:T4) (d:Nat) (O:T0),Rw 3 1 (.slice B s.2.length d) s.2.length (Qr s.2) O/\St M w0 ((b2,svb rb s.1.length)::(b3,svi B s.2.length d)::(rb,U6 s.1)::(O++H)) F w
theorem QhT(P:T8)(i:Nat)(x:Bool)(h:i<P.length):FH (CP P) i (.bool x) (CP (P.set i x)):=by
 have:=RK (l:=CP P) (v:= .bool x) (i:=i) (by simpa[CP]using h)
 rwa [show(CP P).set i (.bool x)=CP (P.set i x) by simp[CP,List.map_set]]at this
section
variable{M:T6}{w0:TG}{H:T0}{F:T3}{b2 b3 rb:Nat}
theorem QjK(a:Int)(s:DS)(w:TG)(h0:0<=a)(h1:a<s.1.length)(hw:s.2.length<=1000000)(hs:NU M w0 H F b2 b3 rb s w):
  Calls prog 191 #[.int .i64 a,Qz8 b2,Qz8 b3] w fun e w'=>e= .returned (.tuple #[])/\NU M w0 H F b2 b3 rb (HJ a s) w':=by
 obtain⟨B,d,O,oE,hS⟩:=hs
 obtain⟨v,hv⟩:∃v,s.1[a.toNat]?=some v:=⟨s.1[a.toNat]'Ya,VN _⟩
 have Jm:∀{o o' H' F'} w',St M w0 ((b2,o)::(b3,o')::(rb,U6 s.1)::H') F' w'->w'.cell? ⟨rb,0+a.toNat*1,none⟩=some (.bool v):=fun w' hS=>by
  rw[Qs (hS.own (rb,_) (.tail _ (.tail _ (.head _))))];simp[CP,hv]
 refine QQ func191 rfl ntmps191 rfl ?_
 cases v with
 |true=>
  have e:HJ a s=s:=by unfold HJ;rw[XB (MH.2 hv)]
  rw[e];apply Zq.p.d6.g.T.d6.bF.1;refine QN func191 rfl ?_;exact Yci
 |false=>
  have e:HJ a s=(s.1.set a.toNat true,s.2++[a]):=by unfold HJ;rw[XA (by rw[MH,hv];simp)]
  rw[e];have qT:=QhT s.1 a.toNat true Ya;apply Zq.p.d6.g.T.d6.X.dG.d6.g.T.1;refine K7 hS rfl Yb rfl rfl (.tail (.tail .head)) (by rw[XQ,JN];exact qT) (.tail (.tail .head)) ?_;clear hS;intro _ hS;apply Zq.b.d8.d6.g.bH.1;clear hS;intro _ _ hS;refine QiK (L:=[a]) hS Yb Yi rfl rfl rfl (QG.own (sp:=[]) (hS.own (_,_) (.head _)) rfl (XF _)) oE (XK [_,_,_,_] O _) Yg rfl ?_;clear hS;intro _ O7 _ pD hS;obtain⟨B7,d7,rfl,_⟩:=pD.form;replace hS:=hS.perm (XK O7 [_,_,_,_] _);apply Zq.J.1;clear hS;intro _ hS;apply Zq.b.1;refine QN func191 rfl ?_;refine⟨rfl,B7,d7,O7,?_,?_⟩
  .show Rw _ _ (.slice B7 (s.2++[a]).length d7) (s.2++[a]).length (Qr (s.2++[a])) _;rw[XG,show Qr (s.2++[a])=Qr s.2++Qr [a] by simp[Qr]];exact pD
  .show St M w0 ((b2,svb rb (s.1.set a.toNat true).length)::(b3,svi B7 (s.2++[a]).length d7)::_) F _;rw[XG,WL];exact hS.drop
theorem Qof(h:HH)(R:T7)(A B RA:T4)(c d rc:Nat)(w:TG)(hH:AB F (FR h A c B d))(hR:AB F (QG 1 (Qr R) RA R.length rc))(wV:R.length<=9223372036854775807)(hS:St M w0 H F w):
  Calls prog 148 #[hv h A c B d,.slice RA R.length rc] w fun e w'=>∃(A':T4) (c':Nat) (F':T3),e= .returned (.tuple #[.slice A' (QeF h R).1.length c',.int .i64 (QeF h R).2])/\(∀φ∈F,φ∈F')/\AB F' (QG 1 (CP (QeF h R).1) A' (QeF h R).1.length c')/\St M w0 H F' w':=by
 have hL:AB F (QG 3 (AE h.cs) A h.cs.length c):=hH.imp fun _ h=>h.1;refine Qh func148 rfl ntmps148 rfl ?_;apply Zq.w.1;clear hS;intro b1 _ hS;apply Zq.K.b0.m0.F.g0.1;rintro _ _ ⟨rfl,pH⟩;apply Zq.a.1;replace hS:=hS.grow pH
 cases hg:QS h with
 |false=>
  have e0:QeF h R=([],1):=by unfold QeF;rw[XB hg]
  rw[e0];apply Zq.X.v.aY.1;refine LP func148 rfl Yb Yb ?_;exact⟨none,0,F,rfl,fun _ h=>h,fun w _=>QG.nil_ _ _ _,hS.drop⟩
 |true=>
 have e0:QeF h R=(QW h.cs R,0):=by unfold QeF;rw[XA YT]
 obtain⟨tH,qY⟩:=RX hg
 have sT:Q2 h.cs.length h.cs=true:=by
  exact YbJ
 rw[e0];apply Zq.bF.bD.d6.aC.1;refine SF (k:=h.cs.length) (bts:=1) (z:= .bool false) hS Yb Yb rfl rfl rfl rfl Ya Ya rfl ?_;clear hS;intro rb _ hS;rw[show List.replicate h.cs.length (Value.bool false)=CP (List.replicate h.cs.length false) by simp[CP]]at hS;apply Zq.hT.1;clear hS;intro b2 _ hS;apply Zq.J.1;clear hS;intro _ hS;apply Zq.cT.hT.1;clear hS;intro b3 _ hS;apply Zq.cT.1;refine Qa (Qh6 QmX (QxR Yb Yb)) rfl ?_;apply Zq.M.aQ.1
 have hs:NU M w0 ((b1,C6 A h.cs.length c B h.tr.length d)::H) F b2 b3 rb (List.replicate h.cs.length false,[]) _:=⟨none,0,[],Rw.zero_,by rw[show(List.replicate h.cs.length false).length=h.cs.length by simp];exact hS.swap⟩
 clear hS
 have Mc:∀{s:DS},s.1.length=h.cs.length->I1 s<=2*h.cs.length->s.2.length<=1000000:=fun{s} e hp=>by unfold I1 at hp;omega
 refine Qp 25 (26::27::28::10::29::30::31::32::33::34::35::[]) (fun(Q:T7) v w'=>∃(D:T7) (s:DS),R=D++Q/\v= .int .i64 (D.length:Nat)/\IK h.cs R (fun _=>False) s/\(∀r∈D,Qo h.cs r=true->Qy s.1 r=true)/\I1 s<=2*h.cs.length/\NU M w0 ((b1,C6 A h.cs.length c B h.tr.length d)::H) F b2 b3 rb s w') (fun Q=>Q.length) (R) ?_ Yb ?_
 .exact⟨[],_,rfl,rfl,IK.start,fun r hr=>by simp at hr,by unfold I1;simp,hs⟩
 clear hs;rintro Q _ _ _ ⟨D,s,hD,rfl,hI,uC,hp,hs⟩ ih
 have oG:R.length=D.length+Q.length:=by rw[hD];simp
 have pW:=Mc hI.len hp
 cases Q with
 |cons x Q=>
  simp only[XJ]at oG
  have wJ:R[D.length]?=some x:=by rw[hD];simp
  obtain⟨B5,d5,O5,qM,hS⟩:=hs;obtain⟨bt,ot,rfl⟩:=(hS.und hR).some_ Ya
  have tT:∀{H'} w',St M w0 H' F w'->w'.cell? ⟨bt,ot+((D.length:Nat):Int).toNat*1,none⟩=some (.int .i64 x):=fun w' hS=>by
   have:=(hS.und hR).int wJ;exact RN
  replace hS:=hS.perm (.cons _ (.cons _ (.cons _ (XK O5 [_] _))));apply Zq.cB.T.eU.c.p.eN.g.f.lV.1;rintro _ w5 ⟨rfl,yS⟩;apply Zq.a.1;replace hS:=hS.grow yS
  have hs:NU M w0 ((b1,C6 A h.cs.length c B h.tr.length d)::H) F b2 b3 rb s _:=⟨B5,d5,O5,qM,hS.perm (.cons _ (.cons _ (.cons _ (XK [_] O5 _))))⟩
  clear hS
  cases hx:Qo h.cs x with
  |true=>
   rw[show(decide (0<=x)&&decide (x<(h.cs.length:Nat)))=true from hx];have hxx:=Qq.1 hx;have vM:Rc h.cs R x:=Rc.root SI hx;apply Zq.v.cY.bM.1;refine XE (QjK x s _ hxx.1 (by rw[hI.len];exact hxx.2) pW hs) ?_;rintro _ w6 ⟨rfl,Ai⟩;apply Zq.a.b.aZ.1;refine ih Q _ _ _ ?_ ?_ Yb Yc
   .simp
   .refine⟨D++[x],HJ x s,by rw[hD];simp,by simp,Qhx hI hx vM,fun r hr zI=> ?_,X9 (Qhw hI.len hx) hp,Ai⟩;rcases VG.1 hr with hr|hr
    .exact SU (uC r hr zI)
    .rw[VJ.1 hr];exact Qel hI.len hx
  |false=>
   rw[show(decide (0<=x)&&decide (x<(h.cs.length:Nat)))=false from hx];apply Zq.D.aZ.1;refine ih Q _ _ _ ?_ ?_ Yb Yc
   .simp
   .refine⟨D++[x],s,by rw[hD];simp,by simp,hI,fun r hr zI=> ?_,hp,hs⟩;rcases VG.1 hr with hr|hr
    .exact uC r hr zI
    .rw[VJ.1 hr,hx]at zI;cases zI
 |nil=>
  simp only[XP]at oG;have hRD:R=D:=by simpa using hD
  rw[<-hRD]at uC;clear hD;apply Zq.W.b8.1;refine QhK  (36::37::38::39::40::41::11::42::43::44::45::12::46::47::48::49::50::51::52::53::13::54::55::56::57::58::59::60::61::62::63::64::65::14::66::67::68::69::70::71::72::[]) (fun(s:DS) w'=>IK h.cs R (fun _=>False) s/\(∀r∈R,Qo h.cs r=true->Qy s.1 r=true)/\I1 s<=2*h.cs.length/\NU M w0 ((b1,C6 A h.cs.length c B h.tr.length d)::H) F b2 b3 rb s w') (fun s=>I1 s) (s) ?_ ?_
  .exact⟨hI,uC,hp,hs⟩
  clear hs hI uC hp pW;rintro s w5 _ ⟨hI,uC,hp,hs⟩ uV;have pW:=Mc hI.len hp;obtain⟨Mk,W⟩:=s;dsimp only at pW;rcases Xa5 W with rfl|⟨W',a,hW⟩
  .obtain⟨B5,d5,O5,qM,hS⟩:=hs;dsimp only at hS qM;apply Zq.b0.eU.bP.bE.p.eU.K.1;refine LP func148 rfl Yb Yb ?_;have hM:=hI.fin sT uC;have uJ:=hS.drop.drop
   have hS3:St M w0 (O5++(b1,C6 A h.cs.length c B h.tr.length d)::H) (QG 1 (CP Mk) (some ⟨rb,0,none⟩) Mk.length Mk.length::F) w5:=by
    have ho:=uJ.own (rb,_) (.head _);refine uJ.drop.learn fun w' hw=>QG.own (sp:=[]) (el:=4) ?_ (QlU Mk) (XF _);rw[hw.block rb (IW ho) fun hm=> ?_,VF]
    .exact ho
    .obtain⟨p,hp,e⟩:=X3.1 hm;exact(VT.1 uJ.apart).1 p hp e.symm
   refine⟨some ⟨rb,0,none⟩,Mk.length,_,?_,fun φ h=> .tail _ h,?_,(St.dropL (L:=O5) hS3).drop⟩
   .rw[<-hM]
   .rw[<-hM];exact AB.head
  .rw[List.concat_eq_append]at hW;subst hW;have uF:=hI.wt a (WW W' (VJ.2 rfl));have haa:=Qq.1 uF.1;obtain⟨x,hx,Gc⟩:=QiO haa.1 haa.2
   have To:Rc h.cs R a:=by
    have:=hI.snd a.toNat (MH.1 uF.2)
    rwa [show((a.toNat:Nat):Int)=a by omega]at this
   have sH:=Q4 (H9 sT hx);have Gt:=hI.pop
   have Hm:I1 (Mk,W')+1=I1 (Mk,W'++[a]):=by unfold I1;simp;omega
   obtain⟨B5,d5,O5,qM,hS⟩:=hs;dsimp only at hS qM
   have hWl:(W'++[a]).length=W'.length+1:=by rw[XG];rfl
   rw[hWl]at hS qM;obtain⟨g5,Tp,rfl,rfl,Tq,_,_⟩:=qM.some_ Ya
   have sL:∀{o o' o'' H' F'} w',St M w0 ((b2,o)::(b3,o')::(rb,o'')::([(g5,.cells (Qr (W'++[a])++Tp).toArray 3)]++H')) F' w'->w'.cell? ⟨g5,0+(((W'.length+1:Nat):Int)-1).toNat*1,none⟩=some (.int .i64 a):=fun w' hS=>by
    rw[Qs (hS.own (g5,_) (.tail _ (.tail _ (.tail _ (.head _)))))];rw[show 0+(((W'.length+1:Nat):Int)-1).toNat*1=W'.length by omega];simp[Qr]
   obtain⟨bh,oh,rfl⟩:=(hS.und hL).some_ Ya;have oS:∀{H'} w',St M w0 H' F w'->_:=fun w' hS=>(hS.und hL).cell Gc
   have rP:∀{w':TG} {o:Obj} {bn:Nat},St M w0 ((bn,o)::(b2,svb rb Mk.length)::(b3,svi (some ⟨g5,0,none⟩) W'.length d5)::(rb,U6 Mk)::([(g5,.cells (Qr (W'++[a])++Tp).toArray 3)]++(b1,C6 (some ⟨bh,oh,none⟩) h.cs.length c B h.tr.length d)::H)) F w'->NU M w0 ((bn,o)::(b1,C6 (some ⟨bh,oh,none⟩) h.cs.length c B h.tr.length d)::H) F b2 b3 rb (Mk,W') w':=fun{w' o bn} hS=>by
    have e1:Qr (W'++[a])++Tp=Qr W'++(.int .i64 a::Tp):=by simp[Qr]
    refine⟨some ⟨g5,0,none⟩,d5,[(g5,.cells (Qr (W'++[a])++Tp).toArray 3)],?_,hS.perm (XK [_] [_,_,_,_] _)⟩;rw[e1];exact Rw.own_ (len:=W'.length) (by simp[Qr]) (by rw[<-e1];exact Tq) Ya Ya
   have Ey:x.k=0->Qo h.cs x.n=true:=fun hk=>Qq.2 (QiP sT hx hk)
   obtain⟨k,hk⟩:∃k:Nat,QU x=(k:Nat):=⟨(QU x).toNat,by have:=QfD (H9 sT hx);omega⟩
   have hk4:k<=4/\(k=0\/a+k<h.cs.length):=by
    have:=QfD (H9 sT hx);omega
   apply Zq.b0.fG.bP.c3.p.fG.bQ.c.p.fG.g.T.fG.c.p.fG.g.nW.J.1;clear hS;intro _ hS;apply Zq.b.bD.fG.g.bR.l5.cK.1;clear hS;intro b4 _ hS;apply Zq.d.1;clear hS;intro _ hS;apply Zq.a2.bD.fG.l.b.1;rw[show(((W'.length+1:Nat):Int)-1).toNat=W'.length by omega]at hS;refine Qgj (57::58::59::60::[]) (fun w'=>∃s2:DS,IK h.cs R (fun i=>i=a) s2/\(x.k=0->Qy s2.1 x.n=true)/\(∀r∈R,Qo h.cs r=true->Qy s2.1 r=true)/\I1 s2<=I1 (Mk,W')/\NU M w0 ((b4,.cells (AP x).toArray 104)::(b1,C6 (some ⟨bh,oh,none⟩) h.cs.length c B h.tr.length d)::H) F b2 b3 rb s2 w') ?_ ?_
   .intro Jc;refine MI rfl (fun hq=> ?_) (fun hq=> ?_)
    .have rU:x.k=0:=by simpa using hq
     apply Zq.u.L.fG.1;have hs:=rP hS;clear hS;apply Zq.bM.1;refine XE (QjK x.n (Mk,W') _ (Qq.1 (Ey rU)).1 (by rw[Gt.len];exact(Qq.1 (Ey rU)).2) (by simp at pW;show W'.length<=_;omega) hs) ?_;rintro _ w6 ⟨rfl,Ai⟩;apply Zq.a.b.1;exact Jc _ _ ⟨HJ x.n (Mk,W'),Qhx Gt (Ey rU) (Rc.ref To hx rU),fun _=>Qel Gt.len (Ey rU),fun r h1 h2=>SU (uC r h1 h2),Qhw Gt.len (Ey rU),Ai⟩ Yc
    .have rU:x.k≠0:=by simpa using hq
     apply Zq.aW.1;exact Jc _ _ ⟨(Mk,W'),Gt,fun e=>absurd e rU,uC,XF _,rP hS⟩ Yc
   clear hS;rintro _ w6 ⟨s2,Iq,Hf,Tr,sV,rN⟩;obtain⟨B6,d6,O6,rL,hS⟩:=rN;replace hS:=hS.perm (.cons _ (.cons _ (.cons _ (XK O6 [_,_] _))));apply Zq.p.l5.F.1;refine XE (QrL x _) ?_;rintro _ _ ⟨rfl,Sg⟩;apply Zq.a.1;replace hS:=hS.grow Sg;rw[hk]
   have rN:NU M w0 ((b4,.cells (AP x).toArray 104)::(b1,C6 (some ⟨bh,oh,none⟩) h.cs.length c B h.tr.length d)::H) F b2 b3 rb s2 _:=⟨B6,d6,O6,rL,hS.perm (.cons _ (.cons _ (.cons _ (XK [_,_] O6 _))))⟩
   clear hS rL;apply Zq.g3.1;refine Qp 63 (64::65::14::66::67::68::69::70::71::72::[]) (fun(j:Nat) v w'=>∃(s3:DS) (i:Nat),i+j=k/\v= .int .i64 (i:Nat)/\IK h.cs R (fun i=>i=a) s3/\(x.k=0->Qy s3.1 x.n=true)/\(∀q:Int,0<=q->q<i->Qy s3.1 (a+1+q)=true)/\(∀r∈R,Qo h.cs r=true->Qy s3.1 r=true)/\I1 s3<=I1 (Mk,W')/\NU M w0 ((b4,.cells (AP x).toArray 104)::(b1,C6 (some ⟨bh,oh,none⟩) h.cs.length c B h.tr.length d)::H) F b2 b3 rb s3 w') (fun j=>j) (k) ?_ Yb ?_
   .exact⟨s2,0,by omega,rfl,Iq,Hf,fun q h1 h2=>by omega,Tr,sV,rN⟩
   clear rN Iq Hf Tr sV;rintro j _ _ _ ⟨s3,i,_,rfl,yF,hm3,ha3,Tu,Pp,vY⟩ ih3
   cases j with
   |zero=>
    apply Zq.W.aX.1;refine uV s3 _ _ ?_ ?_ Yc
    .omega
    .refine⟨yF.done hx hm3 fun q q0 q1=>ha3 q q0 Ya,Tu,by omega,?_⟩;obtain⟨B9,d9,O9,oO,hS⟩:=vY;exact⟨B9,d9,O9,oO,(hS.perm (.cons _ (.cons _ (.cons _ (XK O9 [_] _))))|>.perm (XK [_,_,_] [_] _)).drop⟩
   |succ j=>
    have wY:Qo h.cs (a+1+(i:Nat))=true:=Qq.2 Ya;have aCm:Rc h.cs R (a+1+(i:Nat)):=Rc.arg To hx Ya Ya;have aCn:=Mc yF.len Ya;apply Zq.a8.aB.u.a1.a1.bM.1;refine XE (QjK (a+1+(i:Nat)) s3 _ Ya (by rw[yF.len];omega) aCn vY) ?_;rintro _ _ ⟨rfl,hs9⟩;apply Zq.a.b.aZ.1;refine ih3 j _ _ _ ?_ ?_ Yb Yc
    .omega
    .refine⟨HJ (a+1+(i:Nat)) s3,i+1,by omega,by simp,Qhx yF wY aCm,fun e=>SU (hm3 e),fun q q0 q1=> ?_,fun r h1 h2=>SU (Tu r h1 h2),X9 (Qhw yF.len wY) Pp,hs9⟩;by_cases e:q=i
     .subst e;exact Qel yF.len wY
     .exact SU (ha3 q q0 Ya)
end
def FX(M:T8):T7:=(List.range (M.length+1)).map fun i=>((rk M i:Nat):Int)
theorem ZF(M:T8):(FX M).length=M.length+1:=by simp[FX]
theorem QgA{M:T8}{i:Nat}(h:i<=M.length):(FX M)[i]?=some ((rk M i:Nat):Int):=by
 unfold FX;rw[VW,Xbd Ya];rfl
theorem QzT(M:T8)(n:Nat):rk M n<=n:=by
 unfold rk;exact X9 XaV Yg
abbrev TY(P:T7):Obj:= .cells (Qr P).toArray 3
theorem QhD(P:T7)(i:Nat)(x:Int)(h:i<P.length):FH (Qr P) i (.int .i64 x) (Qr (P.set i x)):=by
 have:=RK (l:=Qr P) (v:= .int .i64 x) (i:=i) (by simpa[Qr]using h)
 rwa [show(Qr P).set i (.int .i64 x)=Qr (P.set i x) by simp[Qr,List.map_set]]at this
section
variable{M:T6}{w0:TG}{H:T0}{F:T3}
theorem Quw{P:T7}{g:Nat}{H':T0}{F':T3}{w':TG}(hS:St M w0 ((g,TY P)::H') F' w'){i:Nat}{v:Int}(hv:P[i]?=some v):w'.cell? ⟨g,i,none⟩=some (.int .i64 v):=by
 rw[Qs (hS.own (g,_) (.head _))];simp[Qr,hv]
theorem St.freezeI{P:T7}{g:Nat}{w:TG}(hS:St M w0 ((g,TY P)::H) F w):St M w0 H (QG 1 (Qr P) (some ⟨g,0,none⟩) P.length P.length::F) w:=by
 have ho:=hS.own (g,_) (.head _);refine hS.drop.learn fun w' hw=>QG.own (sp:=[]) (el:=3) ?_ (Qj2 P) (XF _);rw[hw.block g (IW ho) fun hm=> ?_,VF]
 .exact ho
 .exact Yb0
theorem QqH(Mk:T8)(A:T4)(c:Nat)(w:TG)(hM:AB F (QG 1 (CP Mk) A Mk.length c))(hl:Mk.length<=1048576)(hS:St M w0 H F w):
  Calls prog 149 #[.slice A Mk.length c] w fun e w'=>∃(A':T4) (c':Nat) (F':T3),e= .returned (.slice A' (Mk.length+1) c')/\(∀φ∈F,φ∈F')/\AB F' (QG 1 (Qr (FX Mk)) A' (FX Mk).length c')/\St M w0 H F' w':=by
 refine Qg func149 rfl ntmps149 rfl ?_;apply Zq.e.h.aC.C.1;refine SF (k:=Mk.length+1) (bts:=8) (z:= .int .i64 0) hS Yai Yai rfl rfl rfl rfl Ya Ya rfl ?_;clear hS;intro g w3 hS;rw[show List.replicate (Mk.length+1) (Value.int .i64 0)=Qr (List.replicate (Mk.length+1) 0) by simp[Qr]]at hS;apply Zq.M.aQ.1;refine Qp 12 (13::14::15::16::4::5::17::18::19::20::21::22::23::24::25::26::27::28::29::30::31::32::33::[]) (fun(R:T8) v w'=>∃(D:T8) (P:T7),Mk=D++R/\v= .int .i64 (D.length:Nat)/\P.length=Mk.length+1/\(∀q:Nat,q<=D.length->P[q]?=some ((rk Mk q:Nat):Int))/\St M w0 ((g,TY P)::H) F w') (fun R=>R.length) (Mk) ?_ Yb ?_
 .refine⟨[],List.replicate (Mk.length+1) 0,rfl,rfl,by simp,fun q hq=> ?_,hS⟩;obtain rfl:q=0:=by simpa using hq
  rw[Qpx];simp
 clear hS;rintro R _ w4 jv ⟨D,P,hD,rfl,xV,hP,hS⟩ ih
 have oG:Mk.length=D.length+R.length:=by rw[hD];simp
 cases R with
 |nil=>
  simp only[XP]at oG;apply Zq.W.aB.1;refine Qd func149 rfl Yb ?_
  have Tv:P=FX Mk:=by
   refine J1 fun q=> ?_;by_cases hq:q<=Mk.length
   .rw[hP q Ya,QgA hq]
   .rw[XX Ya,XX (by rw[ZF];omega)]
  replace hS:=St.freezeI hS;rw[xV,Tv]at hS;exact⟨some ⟨g,0,none⟩,Mk.length+1,_,rfl,fun φ h=> .tail _ h,by rw[ZF];exact AB.head,hS⟩
 |cons x R=>
  simp only[XJ]at oG
  have wJ:Mk[D.length]?=some x:=by rw[hD];simp
  obtain⟨bt,ot,rfl⟩:=(hS.und hM).some_ Ya
  have tT:∀{H'} w',St M w0 H' F w'->w'.cell? ⟨bt,ot+((D.length:Nat):Int).toNat*1,none⟩=some (.bool x):=fun w' hS=>by
   have:=(hS.und hM).bool wJ;exact RN
  have Jm:∀{H' F'} w',St M w0 ((g,TY P)::H') F' w'->w'.cell? ⟨g,0+((D.length:Nat):Int).toNat*1,none⟩=some (.int .i64 ((rk Mk D.length:Nat):Int)):=fun w' hS=>by
   rw[show 0+((D.length:Nat):Int).toNat*1=D.length by omega];exact Quw hS (hP D.length (XF _))
  have Fh:(((D.length:Nat):Int)+1).toNat=D.length+1:=by omega
  have qT:=QhD P (D.length+1) ((rk Mk D.length:Nat):Int) Ya;have Wm:=QjG wJ;have Jy:=QzT Mk D.length;have Tw:(P.set (D.length+1) ((rk Mk D.length:Nat):Int)).length=Mk.length+1:=by simpa using xV
  have Xc:∀{H' F'} w',St M w0 ((g,TY (P.set (D.length+1) ((rk Mk D.length:Nat):Int)))::H') F' w'->w'.cell? ⟨g,0+(((D.length:Nat):Int)+1).toNat*1,none⟩=some (.int .i64 ((rk Mk D.length:Nat):Int)):=fun w' hS=>by
   rw[show 0+(((D.length:Nat):Int)+1).toNat*1=D.length+1 by omega];exact Quw hS (Xbn Ya)
  have Tx:=QhD (P.set (D.length+1) ((rk Mk D.length:Nat):Int)) (D.length+1) (((rk Mk D.length:Nat):Int)+1) (by rw[Tw];omega)
  cases x with
  |false=>
   simp only[X6,XT,XaC]at Wm;apply Zq.a8.h.T.hZ.K.i.C.aO.T.hZ.T.mT.1;clear hS;intro w6 hS;apply Zq.b.h.D.aZ.1;refine ih (R) _ _ _ ?_ ?_ Yb Yc
   .simp
   .refine⟨D++[false],_,by rw[hD];simp,by simp,Tw,fun q hq=> ?_,hS⟩;rw[XG]at hq;simp only[XJ,XP]at hq;rw[JI];split
    .rename_i e;rw[XB Ya,<-e,Wm]
    .exact hP q Ya
  |true=>
   simp only[X5]at Wm;apply Zq.a8.h.T.hZ.K.i.C.aO.T.hZ.T.mT.1;clear hS;intro w6 hS;apply Zq.b.h.v.u.a1.T.hZ.C.T.1;refine K7 hS rfl Yb rfl rfl .head (by rw[Fh,XQ,JN];exact Tx) .head ?_;clear hS;intro w7 hS;apply Zq.b.aZ.1;refine ih (R) _ _ _ ?_ ?_ Yb Yc
   .simp
   .refine⟨D++[true],_,by rw[hD];simp,by simp,by simpa using xV,fun q hq=> ?_,hS⟩;rw[XG]at hq;simp only[XJ,XP]at hq;rw[List.set_set,JI];split
    .rename_i e;rw[XB Ya,<-e,Wm];simp
    .exact hP q Ya
theorem QhR(Mk:T8)(I:T7)(A B:T4)(c d:Nat)(w:TG)(hM:AB F (QG 1 (Qr (FX Mk)) A (FX Mk).length c))(hI:AB F (QG 1 (Qr I) B I.length d))(hl:Mk.length<=1048576)(qY:I.length<=1048576)(hS:St M w0 H F w):
  Calls prog 152 #[.slice A (Mk.length+1) c,.slice B I.length d] w fun e w'=>∃(A':T4) (c':Nat) (F':T3),e= .returned (.slice A' (I.map (AK Mk)).length c')/\(∀φ∈F,φ∈F')/\AB F' (QG 1 (Qr (I.map (AK Mk))) A' (I.map (AK Mk)).length c')/\St M w0 H F' w':=by
 refine Qh func152 rfl ntmps152 rfl ?_;apply Zq.e.h.aC.1;refine SF (k:=I.length) (bts:=8) (z:= .int .i64 0) hS Yb Yb rfl rfl rfl rfl Ya Ya rfl ?_;clear hS;intro g w3 hS;rw[show List.replicate I.length (Value.int .i64 0)=Qr (List.replicate I.length 0) by simp[Qr]]at hS;apply Zq.M.aQ.1;refine Qp 13 (14::15::16::17::6::7::18::19::20::21::22::23::24::25::26::27::28::29::30::[]) (fun(R:T7) v w'=>∃(D:T7) (P:T7),I=D++R/\v= .int .i64 (D.length:Nat)/\P.length=I.length/\(∀(q:Nat) (x:Int),q<D.length->I[q]?=some x->P[q]?=some (AK Mk x))/\St M w0 ((g,TY P)::H) F w') (fun R=>R.length) (I) ?_ Yb ?_
 .exact⟨[],List.replicate I.length 0,rfl,rfl,by simp,fun q x hq=>by simp at hq,hS⟩
 clear hS;rintro R _ w4 jv ⟨D,P,hD,rfl,xV,hP,hS⟩ ih
 have oG:I.length=D.length+R.length:=by rw[hD];simp
 cases R with
 |nil=>
  simp only[XP]at oG;apply Zq.W.aB.1;refine Qd func152 rfl Yb ?_
  have Tv:P=I.map (AK Mk):=by
   refine J1 fun q=> ?_;rw[VW]
   cases hq:I[q]? with
   |none=>
    have:I.length<=q:=by
     rcases XY q I.length with g|g
     .rw[VN g]at hq;cases hq
     .exact g
    rw[XX Ya];rfl
   |some x=>
    have:q<I.length:=by
     rcases XY q I.length with g|g
     .exact g
     .rw[XX g]at hq;cases hq
    rw[hP q x Ya hq];rfl
  replace hS:=St.freezeI hS;rw[Tv]at hS;refine⟨some ⟨g,0,none⟩,I.length,_,by rw[VQ],fun φ h=> .tail _ h,?_,hS⟩;have:=AB.head (F:=F) (φ:=QG 1 (Qr (I.map (AK Mk))) (some ⟨g,0,none⟩) (I.map (AK Mk)).length (I.map (AK Mk)).length);rw[show I.length=(I.map (AK Mk)).length by simp];exact BS
 |cons x R=>
  simp only[XJ]at oG
  have wJ:I[D.length]?=some x:=by rw[hD];simp
  obtain⟨bt,ot,rfl⟩:=(hS.und hI).some_ Ya;obtain⟨bs,os,rfl⟩:=(hS.und hM).some_ (by rw[ZF];omega)
  obtain⟨mx,Nr⟩:∃mx:Int,mx=if x<(0:Int)then 0 else x:=⟨_,rfl⟩
  obtain⟨mn,Cp⟩:∃mn:Int,mn=if((Mk.length+1:Nat):Int)-1<mx then((Mk.length+1:Nat):Int)-1 else mx:=⟨_,rfl⟩
  have Mb:0<=mn/\mn<=Mk.length/\rk Mk mn.toNat=rk Mk x.toNat:=by
   refine⟨by rw[Cp,Nr];split<;>split<;>omega,by rw[Cp,Nr];split<;>split<;>omega,?_⟩;by_cases hx:(Mk.length:Int)<=x
   .rw[show mn.toNat=Mk.length by rw[Cp,Nr];split<;>split<;>omega];exact(Qt9 Ya).symm
   .rw[show mn.toNat=x.toNat by rw[Cp,Nr];split<;>split<;>omega]
  have tT:∀{H'} w',St M w0 H' F w'->w'.cell? ⟨bt,ot+((D.length:Nat):Int).toNat*1,none⟩=some (.int .i64 x):=fun w' hS=>by
   have:=(hS.und hI).int wJ;exact RN
  have AP:∀{H'} w',St M w0 H' F w'->w'.cell? ⟨bs,os+mn.toNat*1,none⟩=some (.int .i64 (AK Mk x)):=fun w' hS=>by
   have h1:(FX Mk)[mn.toNat]?=some (AK Mk x):=by rw[QgA Ya,Mb.2.2]
   exact(hS.und hM).int h1
  have qT:=QhD P D.length (AK Mk x) Ya;apply Zq.a8.h.T.nC.K.u.aO.g.fA.g.bQ.kK.T.nC.T.1;refine K7 hS rfl Yb rfl rfl .head (by rw[show((D.length:Nat):Int).toNat=D.length by omega,XQ,JN];exact qT) .head ?_;clear hS;intro w6 hS;apply Zq.b.aZ.1;refine ih (R) _ _ _ ?_ ?_ Yb Yc
  .simp
  .refine⟨D++[x],_,by rw[hD];simp,by simp,by simpa using xV,fun q y hq hy=> ?_,hS⟩;rw[XG]at hq;simp only[XJ,XP]at hq;rw[JI];split
   .rename_i e;rw[XB Ya];rw[<-e,wJ]at hy;rw[V9 hy]
   .exact hP q y Ya hy
theorem QmD(L:List HC)(Mk:T8)(A B S:T4)(c d e:Nat)(w:TG)(hL:AB F (QG 3 (AE L) A L.length c))(hM:AB F (QG 1 (CP Mk) B Mk.length d))(hs:AB F (QG 1 (Qr (FX Mk)) S (FX Mk).length e))(hg:Q2 L.length L=true)(hl:L.length<=65536)(wX:Mk.length=L.length)(hS:St M w0 H F w):
  Calls prog 150 #[.slice A L.length c,.slice B Mk.length d,.slice S (Mk.length+1) e] w fun e w'=>∃(A':T4) (c':Nat) (F':T3),e= .returned (.slice A' (DK Mk L).length c')/\(∀φ∈F,φ∈F')/\AB F' (QG 3 (AE (DK Mk L)) A' (DK Mk L).length c')/\St M w0 H F' w':=by
 refine QQ func150 rfl ntmps150 rfl ?_;apply Zq.e.bV.aQ.1;refine Qx 12 7 (13::14::15::16::9::8::17::18::19::20::21::22::23::24::25::26::27::28::29::30::31::32::33::34::35::[]) (fun(R:List HC) v u w'=>∃(D:List HC) (m1 m2:T8) (X:List HC) (Aa:T4) (ca:Nat) (O:T0),L=D++R/\Mk=m1++m2/\m1.length=D.length/\v= .int .i64 (D.length:Nat)/\u= .slice Aa X.length ca/\X.length<=D.length/\DK Mk L=X++(kept R m2).map (EY Mk)/\Rw 104 3 (.slice Aa X.length ca) X.length (AE X) O/\St M w0 (O++H) F w') (fun R=>R.length) (L) ?_ Yb Yb ?_
 .exact⟨[],[],Mk,[],none,0,[],rfl,rfl,rfl,rfl,rfl,by simp,rfl,Rw.zero_,hS⟩
 clear hS;rintro R _ _ _ _ ⟨D,m1,m2,X,Aa,ca,O,hD,hm,xW,rfl,rfl,_,uG,oE,hS⟩ ih
 have oG:L.length=D.length+R.length:=by rw[hD];simp
 have Ty:m2.length=R.length:=by
  have:Mk.length=m1.length+m2.length:=by rw[hm];simp
  omega
 cases R with
 |nil=>
  simp only[XP]at oG
  have hX:DK Mk L=X:=by rw[uG];simp[kept]
  apply Zq.W.aB.1;refine Qd func150 rfl Yb ?_;exact YcJ
 |cons x R=>
  simp only[XJ]at oG Ty
  obtain⟨b,m2,rfl⟩:∃b m2',m2=b::m2':=by
   cases m2 with
   |nil=>simp at Ty
   |cons b m2=>exact⟨b,m2,rfl⟩
  have wJ:L[D.length]?=some x:=by rw[hD];simp
  have hbi:Mk[D.length]?=some b:=by rw[hm,<-xW];simp
  obtain⟨_,_,rfl⟩:=(hS.und hL).some_ Ya;obtain⟨bm,om,rfl⟩:=(hS.und hM).some_ Ya;obtain⟨bs,os,rfl⟩:=(hS.und hs).some_ (by rw[ZF];omega);have oS:∀{H'} w',St M w0 H' F w'->_:=fun w' hS=>(hS.und hL).cell wJ
  have Ib:∀{H'} w',St M w0 H' F w'->w'.cell? ⟨bm,om+((D.length:Nat):Int).toNat*1,none⟩=some (.bool b):=fun w' hS=>by
   have:=(hS.und hM).bool hbi;exact RN
  rw[show D.length=((D.length:Nat):Int).toNat by omega]at oS
  cases b with
  |false=>
   apply Zq.a8.h.bR.1
   first
    |refine Qa (Qb (k:=3) hS rfl rfl rfl Ym Yh) rfl ?_
    |refine Qa (Qb (k:=3) hS rfl rfl rfl Ym Ye) rfl ?_
    |refine Qa (NI rfl rfl rfl Y2 Y2 Y2) rfl ?_
   apply Zq.cK.1;clear hS;intro b1 oQ hS;apply Zq.d1.d.1;clear hS;intro pP hS;apply Zq.b.aA.T.1
   first
    |refine Qa (Qf hS rfl rfl Ym Yh) rfl ?_
    |refine Qa (Qm rfl rfl (by first|assumption|exact(oS _ hS).1|exact(oS _ hS).2.1|exact(oS _ hS).2.2|exact Ib _ hS|exact hS.cell0 Ye|exact Qt hS|exact Qu hS)) rfl ?_
   apply Zq.X.v.d5.h4.1;refine ih R _ _ _ _ ?_ ?_ Yb Yb Yc
   .simp
   .refine⟨D++[x],m1++[false],m2,X,Aa,ca,O,by rw[hD];simp,by rw[hm];simp,by simp[xW],by simp,rfl,by simp;omega,?_,oE,hS.drop⟩;rw[uG];simp[kept]
  |true=>
   have Gc:BM L.length x R.length=true:=by
    cases hq:BM L.length x R.length with
    |true=>rfl
    |false=>have:=Qgi (D:=D) hq;rw[<-hD,hg]at this;cases this
   have sH:=Q4 Gc;by_cases hk:x.k=0
   .have Wi:0<=x.n/\x.n<L.length:=by omega
    have AP:∀{H'} w',St M w0 H' F w'->w'.cell? ⟨bs,os+x.n.toNat*1,none⟩=some (.int .i64 (AK Mk x.n)):=fun w' hS=>by
     have h1:(FX Mk)[x.n.toNat]?=some (AK Mk x.n):=by rw[QgA Ya]
     exact(hS.und hs).int h1
    have Wj:EY Mk x=⟨x.k,AK Mk x.n,x.s⟩:=by unfold EY;rw[XB hk]
    apply Zq.a8.h.bR.iT.cK.1;clear hS;intro b1 oQ hS;apply Zq.d1.d.1;clear hS;intro pP hS;apply Zq.b.aA.T.gU.bF.dW.gU.l.v.u.L.gU.T.gU.L.J.1;clear hS;intro pM hS;apply Zq.b.u.iT.gN.1;clear hS;intro b2 _ hS;refine UH (L:=[⟨x.k,AK Mk x.n,x.s⟩]) hS Yb Yi rfl rfl rfl (QG.own (sp:=[]) (hS.own (_,_) (.head _)) rfl (XF _)) oE (XK [_,_] O _) Yg rfl ?_;clear hS;intro v7 O7 w7 pD hS;obtain⟨B7,d7,rfl,_⟩:=pD.form;apply Zq.dN.1;refine ih R _ _ _ _ ?_ ?_ Yb Yb Yc
    .simp
    .refine⟨D++[x],m1++[true],m2,X++[⟨x.k,AK Mk x.n,x.s⟩],B7,d7,O7,by rw[hD];simp,by rw[hm];simp,by simp[xW],by simp,by rw[XG],by simp;omega,?_,?_,(hS.perm (XK O7 [_,_] _)).drop.drop⟩
     .rw[uG];simp[kept,Wj]
     .rw[XG,NS];exact pD
   .have Wj:EY Mk x=x:=by unfold EY;rw[XA hk]
    apply Zq.a8.h.bR.iT.cK.1;clear hS;intro b1 oQ hS;apply Zq.d1.d.1;clear hS;intro pP hS;apply Zq.b.aA.T.gU.bF.dW.gU.bY.u.iT.gN.1;clear hS;intro b2 pM hS;refine UH (L:=[x]) hS Yb Yi rfl rfl rfl (QG.own (sp:=[]) (hS.own (_,_) (.head _)) rfl (XF _)) oE (XK [_,_] O _) Yg rfl ?_;clear hS;intro v7 O7 w7 pD hS;obtain⟨B7,d7,rfl,_⟩:=pD.form;apply Zq.dN.1;refine ih R _ _ _ _ ?_ ?_ Yb Yb Yc
    .simp
    .refine⟨D++[x],m1++[true],m2,X++[x],B7,d7,O7,by rw[hD];simp,by rw[hm];simp,by simp[xW],by simp,by rw[XG],by simp;omega,?_,?_,(hS.perm (XK O7 [_,_] _)).drop.drop⟩
     .rw[uG];simp[kept,Wj]
     .rw[XG,NS];exact pD
theorem QmC(T:T7)(N Mk:T8)(A B S:T4)(c d e:Nat)(w:TG)(hT:AB F (QG 1 (Qr T) A T.length c))(hM:AB F (QG 1 (CP N) B N.length d))(hs:AB F (QG 1 (Qr (FX Mk)) S (FX Mk).length e))(hg:∀a∈T,0<=a/\a<Mk.length)(hl:T.length<=65536)(wX:N.length=T.length)(hS:St M w0 H F w):
  Calls prog 151 #[.slice A T.length c,.slice B N.length d,.slice S (Mk.length+1) e] w fun e w'=>∃(A':T4) (c':Nat) (F':T3),e= .returned (.slice A' ((kept T N).map (AK Mk)).length c')/\(∀φ∈F,φ∈F')/\AB F' (QG 1 (Qr ((kept T N).map (AK Mk))) A' ((kept T N).map (AK Mk)).length c')/\St M w0 H F' w':=by
 refine QQ func151 rfl ntmps151 rfl ?_;apply Zq.e.bV.aQ.1;refine Qx 12 7 (13::14::15::16::8::9::17::18::19::20::21::22::23::24::25::26::27::28::[]) (fun(R:T7) v u w'=>∃(D:T7) (m1 m2:T8) (X:T7) (Aa:T4) (ca:Nat) (O:T0),T=D++R/\N=m1++m2/\m1.length=D.length/\v= .int .i64 (D.length:Nat)/\u= .slice Aa X.length ca/\X.length<=D.length/\(kept T N).map (AK Mk)=X++(kept R m2).map (AK Mk)/\Rw 3 1 (.slice Aa X.length ca) X.length (Qr X) O/\St M w0 (O++H) F w') (fun R=>R.length) (T) ?_ Yb Yb ?_
 .exact⟨[],[],N,[],none,0,[],rfl,rfl,rfl,rfl,rfl,by simp,rfl,Rw.zero_,hS⟩
 clear hS;rintro R _ _ _ _ ⟨D,m1,m2,X,Aa,ca,O,hD,hm,xW,rfl,rfl,_,uG,oE,hS⟩ ih
 have oG:T.length=D.length+R.length:=by rw[hD];simp
 have Ty:m2.length=R.length:=by
  have:N.length=m1.length+m2.length:=by rw[hm];simp
  omega
 cases R with
 |nil=>
  simp only[XP]at oG
  have hX:(kept T N).map (AK Mk)=X:=by rw[uG];simp[kept]
  apply Zq.W.aB.1;refine Qd func151 rfl Yb ?_;exact YcJ
 |cons x R=>
  simp only[XJ]at oG Ty
  obtain⟨b,m2,rfl⟩:∃b m2',m2=b::m2':=by
   cases m2 with
   |nil=>simp at Ty
   |cons b m2=>exact⟨b,m2,rfl⟩
  have wJ:T[D.length]?=some x:=by rw[hD];simp
  have hbi:N[D.length]?=some b:=by rw[hm,<-xW];simp
  obtain⟨_,_⟩:=hg x SI;obtain⟨bt,ot,rfl⟩:=(hS.und hT).some_ Ya;obtain⟨bm,om,rfl⟩:=(hS.und hM).some_ Ya;obtain⟨bs,os,rfl⟩:=(hS.und hs).some_ (by rw[ZF];omega)
  have oS:∀{H'} w',St M w0 H' F w'->w'.cell? ⟨bt,ot+((D.length:Nat):Int).toNat*1,none⟩=some (.int .i64 x):=fun w' hS=>by
   have:=(hS.und hT).int wJ;exact RN
  have Ib:∀{H'} w',St M w0 H' F w'->w'.cell? ⟨bm,om+((D.length:Nat):Int).toNat*1,none⟩=some (.bool b):=fun w' hS=>by
   have:=(hS.und hM).bool hbi;exact RN
  have AP:∀{H'} w',St M w0 H' F w'->w'.cell? ⟨bs,os+x.toNat*1,none⟩=some (.int .i64 (AK Mk x)):=fun w' hS=>by
   have h1:(FX Mk)[x.toNat]?=some (AK Mk x):=by rw[QgA Ya]
   exact(hS.und hs).int h1
  cases b with
  |false=>
   apply Zq.a8.h.T.g6.K.i.T.g6.D.aZ.1;refine ih R _ _ _ _ ?_ ?_ Yb Yb Yc
   .simp
   .refine⟨D++[x],m1++[false],m2,X,Aa,ca,O,by rw[hD];simp,by rw[hm];simp,by simp[xW],by simp,rfl,by simp;omega,?_,oE,hS⟩;rw[uG];simp[kept]
  |true=>
   apply Zq.a8.h.T.g6.K.i.T.g6.v.u.aO.T.g6.bH.1;clear hS;intro _ _ hS;refine QiK (L:=[AK Mk x]) hS Yb Yi rfl rfl rfl (QG.own (sp:=[]) (hS.own (_,_) (.head _)) rfl (XF _)) oE (XK [_] O _) Yg rfl ?_;clear hS;intro _ O7 _ pD hS;obtain⟨B7,d7,rfl,_⟩:=pD.form;apply Zq.dN.1;refine ih R _ _ _ _ ?_ ?_ Yb Yb Yc
   .simp
   .refine⟨D++[x],m1++[true],m2,X++[AK Mk x],B7,d7,O7,by rw[hD];simp,by rw[hm];simp,by simp[xW],by simp,by rw[XG],by simp;omega,?_,?_,(hS.perm (XK O7 [_] _)).drop⟩
    .rw[uG];simp[kept]
    .rw[XG,show Qr (X++[AK Mk x])=Qr X++Qr [AK Mk x] by simp[Qr]];exact pD
end
end Go.Proofs.YthliapbflkfdiacGreatDoor
