/- Steps of the proof. -/
import Derived.Test.YthliapbflkfdiacGreatDoorG36
set_option linter.unusedVariables false
set_option linter.unusedSimpArgs false
set_option maxRecDepth 100000
set_option maxHeartbeats 1000000
namespace Go.Proofs.YthliapbflkfdiacGreatDoor
open Go.Proofs.Tryz
open Go.RowKit
inductive FZ(L:List HC):Nat->Int->Int->Prop
 |refl {a:Int}:FZ L 0 a a
 |step {n:Nat} {a b:Int} {c:HC}:AD L a=some c->c.k=0->c.n≠a->FZ L n c.n b->FZ L (n+1) a b
theorem FZ.trans{L:List HC}{n m:Nat}{a b c:Int}(h:FZ L n a b)(g:FZ L m b c):FZ L (n+m) a c:=by
 induction h with
 |refl=>rw[XQ];exact g
 | @step n a b d h1 h2 h3 h4 ih=>rw[show n+1+m=(n+m)+1 by omega];exact .step h1 h2 h3 (ih g)
theorem FZ.ends{L:List HC}{n:Nat}{a b:Int}(h:FZ L n a b){x:Int}:End L a x↔End L b x:=by
 induction h with
 |refl=>exact Iff.rfl
 |step h1 h2 h3 h4 ih=>
  rw[<-ih];constructor
  .rintro⟨m,hm⟩
   cases hm with
   |here g0 g1=>rw[h1]at g0;cases g0;exact absurd ⟨h2,h3⟩ g1
   |there g0 g1 g2 g3=>rw[h1]at g0;cases g0;exact⟨_,g3⟩
  .rintro⟨m,hm⟩;exact⟨m+1,.there h1 h2 h3 hm⟩
theorem FZ.look{L:List HC}{n:Nat}{a b:Int}(h:FZ L n a b):Qw L a=Qw L b:=by
 by_cases he:∃x,End L b x
 .obtain⟨x,hx⟩:=he;rw[hx.look,(h.ends.2 hx).look]
 .rw[QhE he,QhE fun⟨x,hx⟩=>he ⟨x,h.ends.1 hx⟩]
theorem FZ.endsN{L:List HC}{n m:Nat}{a b x:Int}(h:FZ L n a b)(g:FL L m b x):FL L (n+m) a x:=by
 induction h with
 |refl=>rw[XQ];exact g
 | @step n a b d h1 h2 h3 h4 ih=>rw[show n+1+m=(n+m)+1 by omega];exact .there h1 h2 h3 (ih g)
theorem FZ.round{L:List HC}{n:Nat}{a:Int}(h:FZ L (n+1) a a):Qw L a= -1:=by
 refine QhE fun⟨x,m,hm⟩=> ?_;have:=((h.endsN hm).det hm).1;omega
theorem QlI{L:List HC}{a:Int}{c:HC}(h:AD L a=some c)(hb:¬(c.k=0/\c.n≠a)):Qw L a=a:=End.look ⟨0,.here h hb⟩
def N5(L:List HC)(P:T7):Prop:=P.length=L.length/\∀(i:Nat) (v:Int),P[i]?=some v->v= -2\/v=Qw L (i:Int)
def G2(L:List HC)(P:T7)(a e:Int):Prop:=P.length=L.length/\(∃n,FZ L n a e)/\∀(i:Nat) (v:Int),P[i]?=some v->v= -2\/v=Qw L (i:Int)\/(v= -1/\(∃n,FZ L n a (i:Int))/\∃n,FZ L (n+1) (i:Int) e)
theorem N5.mid{L:List HC}{P:T7}(h:N5 L P)(a:Int):G2 L P a a:=⟨h.1,⟨0,.refl⟩,fun i v hv=>(h.2 i v hv).imp id .inl⟩
theorem G2.next{L:List HC}{P:T7}{a e:Int}{c:HC}(h:G2 L P a e)(he:AD L e=some c)(hk:c.k=0)(hn:c.n≠e):G2 L (P.set e.toNat (-1)) a c.n:=by
 obtain⟨n,hw⟩:=h.2.1;have h1:FZ L 1 e c.n:= .step he hk hn .refl;refine⟨by rw[WL];exact h.1,⟨n+1,hw.trans h1⟩,fun i v hv=> ?_⟩;rw[JI]at hv;split at hv
 .rename_i hi;split at hv
  .simp only[XU]at hv;have e0:=(AZ.1 he).1;rw[show((i:Nat):Int)=e by omega];exact .inr (.inr ⟨hv.symm,⟨n,hw⟩,0,h1⟩)
  .cases hv
 .rcases h.2.2 i v hv with h2|h2|⟨h2,h3,m,h4⟩
  .exact .inl h2
  .exact .inr (.inl h2)
  .exact .inr (.inr ⟨h2,h3,m+1,h4.trans h1⟩)
theorem G2.known{L:List HC}{P:T7}{a e:Int}{v:Int}(h:G2 L P a e)(e0:0<=e)(hv:P[e.toNat]?=some v)(oN:v≠-2):v=Qw L a:=by
 obtain⟨_,hw⟩:=h.2.1;rw[hw.look];have ee:((e.toNat:Nat):Int)=e:=by omega
 rcases h.2.2 e.toNat v hv with h2|h2|⟨h2,_,m,h4⟩
 .exact absurd h2 oN
 .rw[ee]at h2;exact h2
 .rw[ee]at h4;rw[h4.round];exact h2
theorem G2.nowhere{L:List HC}{P:T7}{a e:Int}(h:G2 L P a e)(hn:Qw L a<0):N5 L P:=by
 obtain⟨_,hw⟩:=h.2.1
 have hm:Qw L a= -1:=by
  rcases U3 (L:=L) L.length a with h1|⟨c,h1,_⟩
  .exact h1
  .have:=(AZ.1 h1).1;unfold Qw at hn;omega
 refine⟨h.1,fun i v hv=> ?_⟩;rcases h.2.2 i v hv with h2|h2|⟨h2,⟨m,h3⟩,_⟩
 .exact .inl h2
 .exact .inr h2
 .right;rw[h2,<-h3.look,hm]
theorem G2.told{L:List HC}{P:T7}{a e:Int}{c:HC}(h:G2 L P a e)(he:AD L e=some c)(hb:¬(c.k=0/\c.n≠e)):G2 L (P.set e.toNat e) a e:=by
 refine⟨by rw[WL];exact h.1,h.2.1,fun i v hv=> ?_⟩;rw[JI]at hv;split at hv
 .rename_i hi;split at hv
  .simp only[XU]at hv;have e0:=(AZ.1 he).1;rw[show((i:Nat):Int)=e by omega];exact .inr (.inl (by rw[QlI he hb];exact hv.symm))
  .cases hv
 .exact h.2.2 i v hv
theorem G2.fin{L:List HC}{P:T7}{e:Int}(h:G2 L P e e)(hn:¬Qw L e<0):N5 L P:=by
 refine⟨h.1,fun i v hv=> ?_⟩;rcases h.2.2 i v hv with h2|h2|⟨h2,⟨m,h3⟩,k,h4⟩
 .exact .inl h2
 .exact .inr h2
 .have:=(h3.trans h4)
  rw[show m+(k+1)=(m+k)+1 by omega]at this;rw[this.round]at hn;exact absurd Yf hn
theorem G2.tell{L:List HC}{P:T7}{a e:Int}{c:HC}(h:G2 L P a e)(oN:a≠e)(ha:AD L a=some c):c.k=0/\c.n≠a/\G2 L (P.set a.toNat (Qw L a)) c.n e:=by
 obtain⟨n,hw⟩:=h.2.1
 cases hw with
 |refl=>exact absurd rfl oN
 |step h1 h2 h3 h4=>
  rw[ha]at h1;cases h1;refine⟨h2,h3,by rw[WL];exact h.1,⟨_,h4⟩,fun i v hv=> ?_⟩;have a0:=(AZ.1 ha).1;rw[JI]at hv;split at hv
  .rename_i hi;split at hv
   .simp only[XU]at hv;rw[show((i:Nat):Int)=a by omega];exact .inr (.inl hv.symm)
   .cases hv
  .rename_i hi;rcases h.2.2 i v hv with g|g|⟨g,⟨m,g3⟩,k,g4⟩
   .exact .inl g
   .exact .inr (.inl g)
   .refine .inr (.inr ⟨g,?_,k,g4⟩)
    cases g3 with
    |refl=>omega
    |step q1 q2 q3 q4=>rw[ha]at q1;cases q1;exact⟨_,q4⟩
theorem count_set{P:T7}{i:Nat}{x:Int}(hi:P[i]?=some (-2))(hx:x≠-2):(P.set i x).count (-2)<P.count (-2):=by
 have hl:i<P.length:=by
  rcases XY i P.length with h|h
  .exact h
  .rw[XX h]at hi;cases hi
 have e:P[i]= -2:=by rw[VN hl]at hi;simpa using hi
 rw[List.count_set hl,e];have tI:0<P.count (-2):=List.count_pos_iff.2 (by rw[<-e];exact List.getElem_mem hl);simp[hx];omega
abbrev K3(P:T7):Obj:= .cells (Qr P).toArray 3
abbrev NN(A:T4)(n c:Nat)(B:T4)(m d pb np:Nat)(nodes most:Int):Obj:= .cells [.slice A n c,.slice B m d,.slice (some ⟨pb,0,none⟩) np np,.int .i64 nodes,.int .i64 most].toArray 196
theorem QgQ(P:T7)(i:Nat)(x:Int)(h:i<P.length):FH (Qr P) i (.int .i64 x) (Qr (P.set i x)):=by
 have:=RK (l:=Qr P) (v:= .int .i64 x) (i:=i) (by simpa[Qr]using h)
 rwa [show(Qr P).set i (.int .i64 x)=Qr (P.set i x) by simp[Qr,List.map_set]]at this
section
variable{M:T6}{w0:TG}{H:T0}{F:T3}{bb pb c m d:Nat}{A B:T4}{L:List HC}{nodes most:Int}
theorem QnV{P:T7}{o:Obj}{H':T0}{F':T3}{w':TG}(hS:St M w0 ((bb,o)::(pb,K3 P)::H') F' w'){i:Int}{v:Int}(h0:0<=i)(hv:P[i.toNat]?=some v):w'.cell? ⟨pb,0+i.toNat*1,none⟩=some (.int .i64 v):=by
 have ho:=hS.own (pb,_) (.tail _ (.head _));rw[Qs ho];simp[Qr,hv]
theorem Qzm{P:T7}{i:Nat}(h:i<P.length):∃v,P[i]?=some v:=⟨P[i],VN h⟩
theorem Qvz(P:T7)(a:Int)(w:TG)(hL:AB F (QG 3 (AE L) A L.length c))(hg:Q2 L.length L=true)(hl:L.length<=65536)(ha:Qo L a=true)(hP:N5 L P)
  (hS:St M w0 ((bb,NN A L.length c B m d pb P.length nodes most)::(pb,K3 P)::H) F w):
  Calls prog 188 #[KX bb,.int .i64 a] w fun e w'=>e= .returned (.int .i64 (Qw L a))/\∃P',N5 L P'/\St M w0 ((bb,NN A L.length c B m d pb P'.length nodes most)::(pb,K3 P')::H) F w':=by
 have Fv:=Z4.1 ha
 have wY:∀{e:Int} {x:HC},AD L e=some x->x.k=0->Qo L x.n=true:=fun h hk=>by
  have:=QiP hg h hk;unfold Qo;simp[this]
 have tM:=hP.1;refine Qh func188 rfl ntmps188 rfl ?_;apply Zq.e.aB.b8.1;refine Qw8 5 (8::9::10::11::12::13::14::15::16::17::18::19::20::21::22::23::24::25::26::27::28::29::30::31::32::33::34::35::36::37::38::39::40::41::42::43::44::[]) (fun v w'=>∃(e:Int) (P':T7),v= .int .i64 e/\Qo L e=true/\G2 L P' a e/\P'[e.toNat]?=some (Qw L a)/\St M w0 ((bb,NN A L.length c B m d pb P.length nodes most)::(pb,K3 P')::H) F w') ?_ ?_
 .intro oF;refine Qp 5 (8::9::10::11::12::13::14::15::16::17::18::19::20::21::22::23::24::25::26::27::28::29::30::31::32::33::34::35::36::37::38::39::40::41::42::43::44::[]) (fun(P':T7) v w'=>∃e:Int,v= .int .i64 e/\Qo L e=true/\G2 L P' a e/\St M w0 ((bb,NN A L.length c B m d pb P.length nodes most)::(pb,K3 P')::H) F w') (fun P'=>P'.count (-2)) (P) ?_ Yb ?_
  .exact⟨a,rfl,ha,hP.mid a,hS⟩
  clear hS;rintro P' _ w2 jv ⟨e,rfl,he,hM,hS⟩ ih;obtain⟨x,hx⟩:=Z4.1 he;obtain⟨e0,e1,Gc⟩:=O0 hx;have aCx:=hM.1;obtain⟨v,hv⟩:=Qzm (P:=P') (i:=e.toNat) Ya;have Jm:∀{o H' F'} w',St M w0 ((bb,o)::(pb,K3 P')::H') F' w'->w'.cell? ⟨pb,0+e.toNat*1,none⟩=some (.int .i64 v):=fun w' hS=>QnV hS e0 hv;by_cases hu:v= -2
  case neg=>
   apply Zq.aH.Y.d6.g.T.d6.l.bE.1;have hk:=hM.known e0 hv hu;exact oF _ _ _ ⟨e,P',rfl,he,hM,by rw[hv,hk],hS⟩ Yb Yc
  subst hu;apply Zq.aH.Y.d6.g.T.d6.l.c3.bU.m0.g.f.1;refine XE (QoS L A B c m d e x _ (hS.und hL) hx) ?_;rintro _ w3 ⟨rfl,oZ⟩;apply Zq.a.1;replace hS:=hS.grow oZ;by_cases hb:x.k=0/\x.n≠e
  case neg=>
   rw[X4 hb];have qT:=QgQ P' e.toNat e Ya;apply Zq.X.v.aT.Y.d6.aO.T.gM.1;clear hS;intro w6 hS;apply Zq.b.d5.1;refine oF _ _ _ ⟨e,P'.set e.toNat e,rfl,he,hM.told hx hb,?_,hS⟩ Yb Yc;obtain⟨n,hw⟩:=hM.2.1;rw[hw.look,QlI hx hb,Xbn Ya]
  rw[X1 hb];obtain⟨b',o',rfl⟩:=(hS.und hL).some_ Ya;have oS:∀{H'} w',St M w0 H' F w'->_:=fun w' hS=>(hS.und hL).cell Gc;have qT:=QgQ P' e.toNat (-1) Ya;apply Zq.bF.aT.Y.dU.T.gM.1;clear hS;intro w6 hS;apply Zq.b.u.bL.aI.dU.bR.L.aV.bO.1;refine ih (P'.set e.toNat (-1)) _ _ _ ?_ ?_ Yb Yc
  .exact count_set hv Yf
  .exact⟨x.n,rfl,wY hx hb.1,hM.next hx hb.1 hb.2,hS⟩
 clear hS;rintro jv _ w2 ⟨e,P1,rfl,he,hM,hv,hS⟩;obtain⟨x,hx⟩:=Z4.1 he;obtain⟨e0,e1,Gc⟩:=O0 hx;have aCx:=hM.1;have Jm:∀{o H' F'} w',St M w0 ((bb,o)::(pb,K3 P1)::H') F' w'->w'.cell? ⟨pb,0+e.toNat*1,none⟩=some (.int .i64 (Qw L a)):=fun w' hS=>QnV hS e0 hv;by_cases hn:Qw L a<0
 .have hm:Qw L a= -1:=by
   rcases U3 (L:=L) L.length a with h1|⟨c,h1,_⟩
   .exact h1
   .have:=(O0 h1).1;unfold Qw at hn;omega
  apply Zq.aT.Y.d6.g.T.d6.M.I.cI.1;refine Qd func188 rfl Yb ?_;refine⟨by rw[hm],P1,hM.nowhere hn,?_⟩;rw[show P1.length=P.length by omega];exact hS
 apply Zq.aT.Y.d6.g.T.d6.M.c1.b8.1;obtain⟨n,hw⟩:=hM.2.1;refine Qp 1 (54::55::56::66::67::68::69::70::71::72::57::58::59::60::61::62::63::64::65::[]) (fun(k:Nat) v w'=>∃(a':Int) (P':T7),v= .int .i64 a'/\Qo L a'=true/\Qw L a'=Qw L a/\FZ L k a' e/\G2 L P' a' e/\St M w0 ((bb,NN A L.length c B m d pb P.length nodes most)::(pb,K3 P')::H) F w') (fun k=>k) (n) ?_ Yb ?_
 .exact⟨a,P1,rfl,ha,rfl,hw,hM,hS⟩
 clear hS;rintro k _ w3 jv2 ⟨a',P',rfl,Fs,Hp,hwk,hM',hS⟩ ih;obtain⟨y,hy⟩:=Z4.1 Fs;obtain⟨a0,a1,Tn⟩:=O0 hy;have aLk:=hM'.1;by_cases hae:a'=e
 .subst hae;apply Zq.aA.Q.bE.aB.1;refine Qd func188 rfl Yb ?_;refine⟨rfl,P',hM'.fin (by rw[Hp];exact hn),?_⟩;rw[show P'.length=P.length by omega];exact hS
 obtain⟨vE,Sz,Fg⟩:=hM'.tell hae hy;rw[Hp]at Fg;obtain⟨b',o',rfl⟩:=(hS.und hL).some_ Ya;have oS:∀{H'} w',St M w0 H' F w'->_:=fun w' hS=>(hS.und hL).cell Tn;have qT:=QgQ P' a'.toNat (Qw L a) Ya;apply Zq.aA.Q.v.eR.u.O.Y.aV.aO.T.gM.1;clear hS;intro w6 hS;apply Zq.b.aX.u.bL.aI.dU.bR.L.aV.c.1
 cases hwk with
 |refl=>exact absurd rfl hae
 | @step n' _ _ c' q1 q2 q3 q4=>
  rw[hy]at q1;cases q1;refine ih n' _ _ _ ?_ ?_ Yb Yc
  .omega
  .exact⟨y.n,_,rfl,wY hy vE,by rw[<-Hp];exact(FZ.step hy vE Sz .refl).look.symm,q4,Fg,hS⟩
end
def U8:LT:=⟨0,0,eS,none,0,.nil⟩
theorem Qti(w:TG):BW U8 w:=⟨XF _,fun h=>by simp[U8,TA.len]at h⟩
def Qz3(F':T3)(e:Ending)(most nd:Int):Option (Tm×Nat)->Prop
 |none=>e= .returned (.tuple #[tv U8,.bool false])
 |some (u,l)=>∃u':LT,u'.tm=u/\AB F' (BW u')/\nd=most-(l:Nat)/\e= .returned (.tuple #[tv u',.bool true])
def Qwa(f:Nat):Prop:=∀(M:T6) (w0:TG) (H:T0) (F:T3) (bb pb c m d:Nat) (A B:T4) (L:List HC) (P:T7) (a nodes most:Int) (l:Nat) (w:TG),
 AB F (QG 3 (AE L) A L.length c)->Q2 L.length L=true->L.length<=65536->Qo L a=true->N5 L P->(most-nodes).toNat=l->l<=f->0<=nodes->most<=65536->nodes<=65536->
 St M w0 ((bb,NN A L.length c B m d pb P.length nodes most)::(pb,K3 P)::H) F w->
  Calls prog 143 #[KX bb,.int .i64 a] w fun e w'=>∃(F':T3) (P':T7) (nd:Int),(∀φ∈F,φ∈F')/\N5 L P'/\Qz3 F' e most nd (ER L f a l)/\St M w0 ((bb,NN A L.length c B m d pb P'.length nd most)::(pb,K3 P')::H) F' w'
theorem QsH(g:Int->Nat->Option (Tm×Nat))(m:Nat)(a:Int)(l:Nat):H5 g (m+1) a l=(g a l).bind fun p=>(H5 g m (a+1) p.2).map fun q=>(.cons p.1.k p.1.n p.1.s p.1.ar q.1,q.2):=rfl
theorem Qvu(f:Nat)(iht:∀f',f=f'+1->Qwa f'):Qwa f:=by
 intro M w0 H F bb pb c m d A B L P a nodes most l w hL hg hl ha hP _ _ _ _ _ hS;refine Qh func143 rfl ntmps143 rfl ?_;apply Zq.p.R.1;clear hS;intro b1 _ hS;apply Zq.c.E.E.fV.1;replace hS:=hS.drew;apply Zq.aU.eA.aN.aU.kM.aN.1
 first
  |refine Qe rfl (fun _ hS=>Qjx rfl rfl Ya) rfl ?_
  |refine Qe rfl (fun _ hS=>Qk9 rfl rfl Ya) rfl ?_
  |refine Qe rfl (fun _ hS=>rfl) rfl ?_
 apply Zq.dK.1;by_cases Vo:most<=nodes
 .have e:ER L f a l=none:=by
   obtain rfl:l=0:=by omega
   cases f with
   |zero=>rfl
   |succ f=>simp[ER]
  rw[e];rw[show decide (most<=nodes)=true from X1 Vo];apply Zq.cD.p.d2.d.1;clear hS;intro pP hS;apply Zq.c.f3.1;exact⟨F,P,nodes,fun _ h=>h,hP,rfl,hS.drop⟩
 rw[show decide (most<=nodes)=false from X4 Vo];have yL:l≠0:=by omega
 obtain⟨f,rfl⟩:∃f',f=f'+1:=⟨f-1,by omega⟩
 have iht:=iht f rfl;apply Zq.bS.aW.aT.cS.C.O.bI.J.1;clear hS;intro pP hS;apply Zq.cZ.f.1;refine XE (Qvz (nodes:=nodes+1) (most:=most) P a _ hL hg hl ha hP (hS.perm (XK [_] [_,_] _))) ?_;rintro _ _ ⟨rfl,P2,Iw,oD⟩;apply Zq.a.1;replace hS:=oD;clear oD;replace hS:=hS.perm (XK [_,_] [_] _);by_cases Uf:Qw L a<0
 .have e:ER L (f+1) a l=none:=QtG Uf;rw[e];apply Zq.M.I.dG.d2.d.1;clear hS;intro pM hS;apply Zq.c.f3.1;exact⟨F,P2,nodes+1,fun _ h=>h,Iw,rfl,hS.drop⟩
 obtain⟨x,hx,_⟩:=TO Uf;obtain⟨_,_,Gc⟩:=O0 hx;rw[Qma yL hx];generalize Qw L a=p at*;obtain⟨b',o',rfl⟩:=(hS.und hL).some_ Ya;have oS:∀{H'} w',St M w0 H' F w'->_:=fun w' hS=>(hS.und hL).cell Gc;have sH:=Q4 (H9 hg hx);by_cases k0:x.k=0
 .rw[XB k0];apply Zq.M.c1.bN.aI.dU.bR.eT.cK.1;clear hS;intro b2 pM hS;apply Zq.d.1;clear hS;intro sR hS;apply Zq.a2.bD.aV.dJ.fS.h.d9.d.1;clear hS;intro vN hS;apply Zq.c.f3.1;exact⟨F,P2,nodes+1,fun _ h=>h,Iw,⟨⟨0,p,eS,none,0,.nil⟩,rfl,fun w _=>⟨XF _,fun h=>by simp[TA.len]at h⟩,by omega,rfl⟩,hS.drop.drop⟩
 by_cases k1:x.k=1
 .rw[XA k0,XB k1];apply Zq.M.c1.bN.aI.dU.bR.eT.cK.1;clear hS;intro b2 pM hS;apply Zq.d.1;clear hS;intro sR hS;apply Zq.a2.bD.aV.dJ.dR.dE.Y.aV.d9.d.1;clear hS;intro vN hS;apply Zq.c.f3.1;exact⟨F,P2,nodes+1,fun _ h=>h,Iw,⟨⟨1,0,x.s,none,0,.nil⟩,rfl,fun w _=>⟨XF _,fun h=>by simp[TA.len]at h⟩,by omega,rfl⟩,hS.drop.drop⟩
 by_cases k2:x.k=2
 .rw[XA k0,XA k1,XB k2];apply Zq.M.c1.bN.aI.dU.bR.eT.cK.1;clear hS;intro b2 pM hS;apply Zq.d.1;clear hS;intro sR hS;apply Zq.a2.bD.aV.dJ.cU.dE.L.aV.d9.d.1;clear hS;intro vN hS;apply Zq.c.f3.1;exact⟨F,P2,nodes+1,fun _ h=>h,Iw,⟨⟨2,x.n,eS,none,0,.nil⟩,rfl,fun w _=>⟨XF _,fun h=>by simp[TA.len]at h⟩,by omega,rfl⟩,hS.drop.drop⟩
 rw[XA k0,XA k1,XA k2]
 have hA:(QU x).toNat=x.n.toNat:=by unfold QU;rw[XB Ya]
 rw[hA]
 obtain⟨k,hk⟩:∃k:Nat,x.n=(k:Nat):=⟨x.n.toNat,by omega⟩
 rw[hk,show((k:Nat):Int).toNat=k by omega];apply Zq.M.c1.bN.aI.dU.bR.eT.cK.1;clear hS;intro b2 pM hS;apply Zq.d.1;clear hS;intro sR hS;apply Zq.a2.bD.aV.dJ.cU.dR.aW.aX.p.L.aV.1;refine QiJ (k:=k) (sz:=4) (bts:=56) hS (by rw[<-hk];conv=>lhs;whnf) (by rw[<-hk];conv=>lhs;whnf) rfl rfl Ya Ya rfl ?_;clear hS;intro g _ cs Wp hS;apply Zq.M.aQ.1;refine Qp 64 (65::66::9::68::69::70::71::72::73::67::74::75::10::11::76::77::78::5::79::80::81::82::83::[]) (fun(j:Nat) v w'=>∃(D':TA) (rs:T5) (li:Nat) (F':T3) (P':T7) (nd:Int),D'.len+j=k/\rs.length=j*4/\v= .int .i64 (D'.len:Nat)/\li<=f/\nd=most-(li:Nat)/\nodes<=nd/\H5 (ER L f) k (p+1) (l-1)=(H5 (ER L f) j (p+1+(D'.len:Nat)) li).map (fun q=>(D'.ts.app q.1,q.2))/\(∀φ∈F,φ∈F')/\AB F' (IQ D')/\N5 L P'/\St M w0 ((g,.cells (EU D'++rs).toArray 63)::(b2,.cells (AP x).toArray 104)::(b1,.cells [.int .i64 0,.int .i64 0,.string eS,.slice none 0 0].toArray 63)::(bb,NN (some ⟨b',o',none⟩) L.length c B m d pb P'.length nd most)::(pb,K3 P')::H) F' w') (fun j=>j) (k) ?_ Yb ?_
 .exact⟨.nil,cs,l-1,F,P2,nodes+1,by simp[TA.len],Wp,rfl,by omega,by omega,by omega,(by show H5 (ER L f) k (p+1) (l-1)=(H5 (ER L f) k (p+1+((0:Nat):Int)) (l-1)).map _;rw[show p+1+((0:Nat):Int)=p+1 by omega];cases H5 (ER L f) k (p+1) (l-1)<;>rfl),fun _ h=>h,fun _ _=>trivial,Iw,hS⟩
 clear hS;rintro j _ _ _ ⟨D',rs,li,F',P',nd,_,Mg,rfl,_,Rb,_,Bv,vS,Uh,qL,hS⟩ ih;have hD4:=QqG D'
 cases j with
 |zero=>
  obtain rfl:rs=[]:=VL (by simpa using Mg)
  have Hu:H5 (ER L f) k (p+1) (l-1)=some (D'.ts,li):=by
   rw[Bv];show some (D'.ts.app .nil,li)=_;rw[Ts.app_nil]
  have yX:D'.len=k:=by omega
  rw[Hu];apply Zq.W.p.Y.dU.mI.d.1;clear hS;intro vN hS;apply Zq.c.f3.1;replace hS:=(hS.swap.drop).swap.drop.freeze;refine⟨_,P',nd,fun φ h=> .tail _ (vS φ h),qL,⟨⟨3,0,x.s,some ⟨g,0,none⟩,k,D'⟩,rfl,fun w hw=>⟨by show D'.len<=k;omega,fun _=>⟨g,0,rfl,?_⟩⟩,Rb,?_⟩,hS⟩
  .refine Qpr (Uh w fun φ hφ=>hw φ (.tail _ hφ)) fun j x hj=> ?_;have hg:=hw _ (.head _);rw[Qs hg,XQ,VF];exact hj
  .dsimp only[tv];rw[yX]
 |succ j=>
  obtain⟨r0,r1,r2,r3,rs,rfl⟩:∃r0 r1 r2 r3 Mh,rs=[r0,r1,r2,r3]++Mh:=by
   match rs,Mg with
   |r0::r1::r2::r3::Mh,_=>exact⟨r0,r1,r2,r3,Mh,rfl⟩
   |[],h=>simp at h
   |[_],h=>simp at h;omega
   |[_,_],h=>simp at h;omega
   |[_,_,_],h=>simp at h;omega
  rw[QsH]at Bv
  have wY:Qo L (p+1+((D'.len:Nat):Int))=true:=by
   unfold Qo;simp;omega
  have hcall:=iht M w0 ((g,.cells (EU D'++([r0,r1,r2,r3]++rs)).toArray 63)::(b2,.cells (AP x).toArray 104)::(b1,.cells [.int .i64 0,.int .i64 0,.string eS,.slice none 0 0].toArray 63)::H) F' bb pb c m d (some ⟨b',o',none⟩) B L P' (p+1+((D'.len:Nat):Int)) nd most li
  cases Az:ER L f (p+1+((D'.len:Nat):Int)) li with
  |none=>
   rw[Az,Option.bind_none,J5]at Bv;rw[Bv];rw[Az]at hcall;apply Zq.a8.aB.i.C.a1.f.m3.1;rintro _ w7 ⟨F2,P3,Ui,pF,Uj,rfl,oD⟩;apply Zq.a.1;replace hS:=oD;clear oD;replace hS:=hS.perm (XK [_,_] [_,_,_] _);apply Zq.e1.R.1;clear hS;intro b3 vN hS;apply Zq.d.1;clear hS;intro zO hS;apply Zq.M.X.dG.d2.d.1;clear hS;intro _ hS;apply Zq.c.f3.1;exact⟨F2,P3,Ui,fun φ h=>pF φ (vS φ h),Uj,rfl,hS.drop.drop.drop.drop⟩
  |some q=>
   obtain⟨q1,lq⟩:=q;have hlq:=Qfp _ _ _ _ Az;dsimp only at hlq;rw[Az,VU]at Bv;rw[Az]at hcall;apply Zq.a8.aB.i.C.a1.f.m3.1;rintro _ w7 ⟨F2,P3,Ui,pF,Uj,⟨u2,pT,Fb,Mi,rfl⟩,oD⟩;apply Zq.a.1;replace hS:=oD;clear oD;replace hS:=hS.perm (XK [_,_] [_,_,_] _);apply Zq.e1.R.1;clear hS;intro b3 vN hS;apply Zq.d.1;clear hS;intro zO hS;apply Zq.M.bF.cY.1
   first
    |refine Qa (Qb (k:=4) hS rfl rfl rfl Ym Yh) rfl ?_
    |refine Qa (Qb (k:=4) hS rfl rfl rfl Ym Ye) rfl ?_
    |refine Qa (Q7 rfl rfl rfl Yx Yx Yx Yx) rfl ?_
   apply Zq.cF.nH.1;clear hS;intro _ hS;apply Zq.b.aZ.1;refine ih (j) _ _ _ ?_ ?_ Yb Yc
   .omega
   .refine⟨D'.app (.cons u2.k u2.n u2.s u2.A u2.c u2.ar .nil),rs,lq,F2,P3,Ui,by rw[TA.len_app];simp only[TA.len];omega,by simp at Mg;omega,by rw[TA.len_app];rfl,by omega,Mi,by omega,?_,fun φ h=>pF φ (vS φ h),?_,Uj,?_⟩
    .rw[Bv,WR,TA.app_ts,TA.len_app];rw[show p+1+((D'.len+(TA.cons u2.k u2.n u2.s u2.A u2.c u2.ar .nil).len:Nat):Int)=p+1+((D'.len:Nat):Int)+1 by simp only[TA.len];omega];congr 1;funext z;show(D'.ts.app (.cons q1.k q1.n q1.s q1.ar z.1),z.2)=((D'.ts.app (.cons u2.k u2.n u2.s u2.ar.ts .nil)).app z.1,z.2);rw[<-pT,Ts.app_assoc];rfl
    .exact fun w hw=>IQ.app (U:= .cons u2.k u2.n u2.s u2.A u2.c u2.ar .nil) ⟨Fb w hw,trivial⟩ ((Uh.mono pF) w hw)
    .rw[Qiz,VB];exact hS.drop
theorem Qvv:∀f,Qwa f
 |0=>Qvu 0 fun f' h=>by omega
 |f+1=>Qvu (f+1) fun f' h=>by
  obtain rfl:f=f':=by omega
  exact Qvv f
section
variable{M:T6}{w0:TG}{H:T0}{F:T3}
theorem QtK(h:HH)(a most:Int)(A B:T4)(c d:Nat)(w:TG)(hH:AB F (FR h A c B d))(hS:St M w0 H F w):
  Calls prog 91 #[hv h A c B d,.int .i64 a,.int .i64 most] w fun e w'=>∃(t:LT) (F':T3),e= .returned (.tuple #[tv t,.int .i64 ((D4 h a most).2.1:Nat),.int .i64 (D4 h a most).2.2])/\t.tm=(D4 h a most).1/\(∀φ∈F,φ∈F')/\AB F' (BW t)/\St M w0 H F' w':=by
 have hL:AB F (QG 3 (AE h.cs) A h.cs.length c):=hH.imp fun _ h=>h.1;refine QQ func91 rfl ntmps91 rfl ?_;apply Zq.w.1;clear hS;intro b1 oQ hS;apply Zq.R.1;clear hS;intro b2 pP hS;apply Zq.K.b0.fC.F.g0.1;rintro _ w2 ⟨rfl,pH⟩;apply Zq.a.1;replace hS:=hS.grow pH
 cases hg:QS h with
 |false=>
  have e0:D4 h a most=(PF,0,1):=by unfold D4;rw[XB hg]
  rw[e0];exact YbS
 |true=>
 obtain⟨tH,qY⟩:=RX hg
 have sT:Q2 h.cs.length h.cs=true:=by
  exact YbJ
 apply Zq.bF.b0.fC.g.f.lF.1;rintro _ w3 ⟨rfl,oZ⟩;apply Zq.a.1;replace hS:=hS.grow oZ
 cases ha:Qo h.cs a with
 |false=>
  have e0:D4 h a most=(PF,0,4):=by unfold D4;rw[XA YT,XB ha]
  rw[e0,show(decide (0<=a)&&decide (a<(h.cs.length:Nat)))=false from ha];exact YbS
 |true=>
 rw[show(decide (0<=a)&&decide (a<(h.cs.length:Nat)))=true from ha]
 have tI:0<h.cs.length:=by
  exact Yee
 obtain⟨mm,hmm⟩:∃mm:Int,mm=if(65536:Int)<most then 65536 else most:=⟨_,rfl⟩
 have hmN:OW most=mm.toNat:=by unfold OW;rw[hmm];congr 1;split<;>omega
 have aLn:mm<=65536:=by rw[hmm];split<;>omega
 have e0:D4 h a most=(match ER h.cs mm.toNat a mm.toNat with|none=>(PF,0,3)|some (t,l)=>(t,mm.toNat-l,0)):=by
  unfold D4;rw[XA YT,XA (by rw[ha];decide),hmN];rfl
 rw[e0];apply Zq.bF.E.1;refine QH (St _ _ _ _) 10 ((0,true)::(1,true)::(2,true)::(3,true)::(5,true)::(6,true)::(4,false)::(7,true)::(8,false)::(9,true)::[]) Yc Yc (hS.drew) ?_;replace hS:=hS.drew
 first
  |refine Qe rfl (fun _ hS=>Qb (k:=2) hS rfl rfl rfl Ym Yh) rfl ?_
  |refine Qe rfl (fun _ hS=>Qb (k:=2) hS rfl rfl rfl Ym Ye) rfl ?_
  |refine Qe rfl (fun _ hS=>M3 rfl rfl rfl Yx Yx) rfl ?_
 apply Zq.bC.nV.eH.a5.1;refine Qe rfl (fun _ hS=>QiE rfl rfl Ye) rfl ?_;apply Zq.aR.1;refine SF (k:=h.cs.length) (bts:=8) (z:= .int .i64 0) hS Yb Yb rfl rfl rfl rfl Ya Ya rfl ?_;clear hS;intro pb w5 hS;rw[show List.replicate h.cs.length (Value.int .i64 0)=Qr (List.replicate h.cs.length 0) by simp[Qr]]at hS;apply Zq.fK.1;refine Qe rfl (fun _ hS=>QD (cells:=[_,_,_,_,_]) (.cons Yb (.cons Yb (.cons Yb .nil))) rfl) rfl ?_;apply Zq.aR.d3.1;clear hS;intro b3 pM hS;apply Zq.fK.bK.dK.aH.Y.aV.aQ.1;refine Qp 36 (37::38::10::39::40::41::42::43::44::45::[]) (fun(j:Nat) v w'=>∃(P:T7) (i:Nat),i+j=h.cs.length/\v= .int .i64 (i:Nat)/\P.length=h.cs.length/\(∀(q:Nat),q<i->P[q]?=some (-2))/\St M w0 ((b3,NN A h.cs.length c B h.tr.length d pb h.cs.length 0 mm)::(pb,K3 P)::(b2,.cells [.int .i64 0,.int .i64 0,.string eS,.slice none 0 0].toArray 63)::(b1,C6 A h.cs.length c B h.tr.length d)::H) F w') (fun j=>j) (h.cs.length) ?_ Yb ?_
 .exact⟨List.replicate h.cs.length 0,0,by omega,rfl,by simp,fun q hq=>by omega,hS⟩
 clear hS;rintro j _ w6 jv ⟨P,i,hi,rfl,xV,hPi,hS⟩ ih
 cases j with
 |succ j=>
  have qT:=QgQ P i (-2) Ya;apply Zq.a8.aB.u.O.Y.dU.T.gM.1;clear hS;intro w7 hS;apply Zq.b.aZ.1;refine ih (j) _ _ _ ?_ ?_ Yb Yc
  .omega
  .refine⟨P.set i (-2),i+1,by omega,by simp,by simpa using xV,fun q hq=> ?_,hS⟩;rw[JI];split
   .rename_i e;rw[XB Ya]
   .exact hPi q Ya
 |zero=>
  have hP:N5 h.cs P:=⟨xV,fun q v hq=>by
   have Oa:q<P.length:=by
    rcases XY q P.length with g|g
    .exact g
    .rw[XX g]at hq;cases hq
   rw[hPi q Ya]at hq
   exact .inl (V9 hq).symm⟩
  rw[<-xV]at hS;have hcall:=Qvv mm.toNat M w0 ((b2,.cells [.int .i64 0,.int .i64 0,.string eS,.slice none 0 0].toArray 63)::(b1,C6 A h.cs.length c B h.tr.length d)::H) F b3 pb c h.tr.length d A B h.cs P a 0 mm mm.toNat;rw[<-xV]at hcall
  have uJ:St M w0 ((b3,NN A h.cs.length c B h.tr.length d pb P.length 0 mm)::(pb,K3 P)::(b2,.cells [.int .i64 0,.int .i64 0,.string eS,.slice none 0 0].toArray 63)::(b1,C6 A h.cs.length c B h.tr.length d)::H) F w6:=by rw[<-xV];exact hS
  rw[<-xV]at hL sT tH
  cases Az:ER h.cs mm.toNat a mm.toNat with
  |none=>
   rw[Az]at hcall;apply Zq.W.i.f.nF.1;rintro _ w7 ⟨F2,P3,Ui,pF,Uj,rfl,oD⟩;apply Zq.a.1;replace hS:=oD;clear oD;apply Zq.e1.R.1;clear hS;intro b4 sR hS;apply Zq.d.1;clear hS;intro vN hS;apply Zq.M.X.dG.d2.d.1;clear hS;intro zO hS;apply Zq.K.iV.1;exact⟨U8,F2,rfl,rfl,pF,fun w _=>Qti w,hS.drop.drop.drop.drop.drop⟩
  |some q=>
   obtain⟨q1,lq⟩:=q;have hlq:=Qfp _ _ _ _ Az;dsimp only at hlq;rw[Az]at hcall;apply Zq.W.i.f.nF.1;rintro _ w7 ⟨F2,P3,Ui,pF,Uj,⟨u2,pT,Fb,Mi,rfl⟩,oD⟩;apply Zq.a.1;replace hS:=oD;clear oD;apply Zq.e1.R.1;clear hS;intro b4 sR hS;apply Zq.d.1;clear hS;intro vN hS;apply Zq.M.bF.E.1;refine QH (St _ w0 [_,_] []) 8 ((0,true)::(1,true)::(2,true)::(3,true)::(4,true)::(5,false)::(6,true)::(7,true)::[]) Yc Yc (hS.drew.bare2) ?_;replace hS:=hS.drew
   first
    |refine Qe rfl (fun _ hS=>Qb (k:=4) hS rfl rfl rfl Ym Yh) rfl ?_
    |refine Qe rfl (fun _ hS=>Qb (k:=4) hS rfl rfl rfl Ym Ye) rfl ?_
    |refine Qe rfl (fun _ hS=>Q7 rfl rfl rfl Yx Yx Yx Yx) rfl ?_
   apply Zq.aU.eA.nV.aR.d.1;clear hS;intro zO hS;apply Zq.hC.bK.bK.dK.iV.1;refine⟨u2,F2,?_,pT,pF,Fb,hS.drop.drop.drop.drop.drop⟩;dsimp only;rw[Mi,show mm-((lq:Nat):Int)=((mm.toNat-lq:Nat):Int) by omega]
end
section
variable{P:Program}{n:Nat}{e:AW}{w:TG}{Q:Exit->Act->TG->Prop}{oI:TB}{rest:TC}{ty:TypeId}{pos:String}{after:TE}{d:Nat}
variable{M:T6}{w0:TG}{H H':T0}{F:T3}{x y:Operand}{v:TH}{t tx:TypeId}
theorem QwQ{el len k:Nat}{xs zs:T5}{O:T0}{i:TypeInfo}{z:TH}{ki:IntKind}(hS:St M w0 H F w)(hx:ev n e x=v)(hy:ev n e y= .int .i64 (k:Nat))(hT:QE P t=some el)(sO:P.underlying tx=some (.int ki))(hi:P.info? el=some i)(hz:i.zero=some z)(wO:z.cells.size=i.size)(Dc:0<i.size)
  (tR:(Builtin.zeroCells z.cells k).toList=zs) (h1:∀u∈zs,u.oneCell'=true) (oE:Rw el i.size v len xs O) (hl:0<len) (hk:0<k) (hP:H.Perm (O++H')) (pZ:2*(len+k)*i.bytes<=281474976710656) (qU:len+k<=4611686018427387904) (hd:Nat.blt d n=true)
  (h:∀v' O' w',Rw el i.size v' (len+k) (xs++zs) O'->St M w0 (O'++H') F w'->AU P Q oI rest n ((d,v')::e) w'):
  AU P Q oI (⟨some d,.call ⟨.builtin .append, #[x,y], #[t,tx]⟩,ty,pos,after,none⟩::rest) n e w:=by
 have hS:=hS.perm hP
 have sP:zs.length=k*i.size:=by rw[<-tR];simp[Builtin.zeroCells,wO]
 have hza:Builtin.zeroCells z.cells k=zs.toArray:=by rw[<-tR]
 have Jl:∀r w2,(Builtin.append_ #[t,tx] ty #[v,.int .i64 (k:Nat)]).run P w= .ok r w2->(execOp (ev n e) ⟨some d,.call ⟨.builtin .append, #[x,y], #[t,tx]⟩,ty,pos,after,none⟩).run P w= .ok (.value r) w2:=by
  exact YdT
 have hw:IntKind.i64.wrap (k:Int)=k:=N8 Ya Ya;have Wb:∀w,(asInt (.int .i64 (k:Nat))).run P w= .ok (k:Int) w:=fun w=>rfl;have vB:¬((k:Int)<0):=by omega
 have Wa:¬((281474976710656:Int)<(k:Int)*(i.bytes:Int)):=by
  have:k*i.bytes<=2*(len+k)*i.bytes:=V7 _ Ya;have h5:((k*i.bytes:Nat):Int)<=281474976710656:=by omega
  rw[XaM]at h5;omega
 have qG:¬i.size=0:=by omega
 have rU:¬k=0:=by omega
 have hks:¬k*i.size=0:=fun h0=>by rcases Nat.mul_eq_zero.1 h0 with h|h<;>omega
 cases oE with
 |zero_=>omega
 |own_ rR sX oW tJ=>
  rename_i bl cap sp;have rA:w.heap[bl]?=some (.cells (xs++sp).toArray el):=hS.own (bl,_) Yd;by_cases qR:len+k<=cap
  .have oS:(xs++sp).length=cap*i.size:=sX
   have uK:len*i.size+zs.length<=(xs++sp).length:=by rw[oS,sP,<-VM];exact V7 _ qR
   have oM:=run_storeCells_cells (P:=P) bl (0+len*i.size) zs 0 w
    (fun j hj=>by rw[Qs rA,XQ];simp only[Xaq];exact⟨_,VN Ya⟩) (fun j hj=>by simp[World.frozen?,rA]) h1
   simp only[XaC]at oM
   have hr:(Builtin.append_ #[t,tx] ty #[.slice (some ⟨bl,0,none⟩) len cap,.int .i64 (k:Nat)]).run P w= .ok (.slice (some ⟨bl,0,none⟩) (len+k) cap) (w.setCells bl (0+len*i.size) zs):=by
    simp[Builtin.append_,VC (D9 hT),VC sO,sizeOf,typeInfo,zeroValue,hi,hz,hw,Wb,vB,Wa,qR,hza,rU,qG,Addr.add_lit];rw[XA hks];rw[XQ]at oM;rw[oM];rfl
   obtain⟨qG,rN⟩:=ZL zs (0+len*i.size) (xs++sp) w rA Ya;apply Zq.fI.1
   have hu:I7 ([(bl,Obj.cells (xs++sp).toArray el)]++H') bl (.cells (xs++sp).toArray el) (.cells ((xs++sp).take (0+len*i.size)++zs++(xs++sp).drop (0+len*i.size+zs.length)).toArray el)
     ((bl,.cells ((xs++sp).take (0+len*i.size)++zs++(xs++sp).drop (0+len*i.size+zs.length)).toArray el)::H'):= .head
   have h3:=hS.turn hu rN qG
   have e1:(xs++sp).take (0+len*i.size)=xs:=by rw[XQ,<-rR];simp
   have e2:(xs++sp).drop (0+len*i.size+zs.length)=sp.drop zs.length:=by
    rw[XQ,<-rR];simp[W6]
   rw[e1,e2]at h3;refine h _ _ _ (Rw.own_ (b:=bl) (sp:=sp.drop zs.length) ?_ ?_ qR tJ) h3
   .rw[XG,rR,sP,VM]
   .exact Ycs
  .have hn:=Xap (show cap<len+k by omega)
   have xM:¬(281474976710656<Builtin.nextslicecap (len+k) cap*i.bytes):=by
    have:=X9 (V7 i.bytes hn) pZ;omega
   have Gm:¬(9223372036854775807<((len:Int)+(k:Int))):=by omega
   have hf:=W7 (P:=P) w.drew i.size len ⟨bl,0,none⟩ len cap xs rR (fun j u hj=>by
    have tX:j<xs.length:=by
     rcases XY j xs.length with hl|hl
     .exact hl
     .rw[XX hl]at hj;cases hj
    rw[G7,Qs (w:=w.drew) rA,XQ,VO tX];exact hj)
   have rJ:len+k<=grownCap w (len+k) cap el:=by unfold grownCap Question.cut;exact WF _ _
   have hr:(Builtin.append_ #[t,tx] ty #[.slice (some ⟨bl,0,none⟩) len cap,.int .i64 (k:Nat)]).run P w= .ok (.slice (some ⟨w.heap.size,0,none⟩) (len+k) (grownCap w (len+k) cap el)) (w.drew.alloc (.cells ((xs++zs).toArray++Builtin.zeroCells z.cells (grownCap w (len+k) cap el-(len+k))) el)):=by
    simp[Builtin.append_,VC (D9 hT),VC sO,sizeOf,typeInfo,zeroValue,hi,hz,hw,Wb,vB,Wa,qR,hza,rU,qG,Gm,xM,Question.forced,hf,newRow,grownCap]
    first|rw[XA hks]|skip
    congr 3;apply Array.ext';simp[VB]
   apply Zq.fI.1;generalize grownCap w (len+k) cap el=nc at rJ;have zK:(Builtin.zeroCells z.cells (nc-(len+k)))=(Builtin.zeroCells z.cells (nc-(len+k))).toList.toArray:=by simp
   have Uk:(Builtin.zeroCells z.cells (nc-(len+k))).toList.length=(nc-(len+k))*i.size:=by simp[Builtin.zeroCells,wO]
   generalize(Builtin.zeroCells z.cells (nc-(len+k))).toList=zl at zK Uk;rw[zK]
   have uJ:=(hS.drew.alloc (.cells ((xs++zs)++zl).toArray el))
   rw[show(xs++zs).toArray++zl.toArray=((xs++zs)++zl).toArray by simp];refine h _ [(w.heap.size,.cells ((xs++zs)++zl).toArray el)] _ (Rw.own_ ?_ ?_ rJ Ya) ?_
   .rw[XG,rR,sP,VM]
   .rw[XG,XG,rR,sP,Uk,<-VM,<-VM];exact LI
   .have h5:St M w0 ((w.heap.size,.cells ((xs++zs)++zl).toArray el)::([(bl,Obj.cells (xs++sp).toArray el)]++H')) F _:=uJ;exact St.dropL (L:=[(bl,Obj.cells (xs++sp).toArray el)]) h5.sink
end
abbrev zC:HC:=⟨0,0,eS⟩
theorem Qqo:∀k:Nat,(Builtin.zeroCells #[.int .i64 0,.int .i64 0,.string eS] k).toList=AE (List.replicate k zC)
 |0=>by simp[Builtin.zeroCells,AE]
 |k+1=>by
  have ih:=Qqo k;simp only[Builtin.zeroCells,Array.toList_map,Array.toList_range]at ih⊢;rw[List.replicate_succ',NS,<-ih];rw[show(k+1)*(#[Value.int .i64 0,.int .i64 0,.string eS]:T9).size=k*3+1+1+1 by simp;omega];rw[show k*(#[Value.int .i64 0,.int .i64 0,.string eS]:T9).size=k*3 by simp];rw[XaY,XaY,XaY];simp[AE,Nat.mul_mod_left,Nat.add_mod]
theorem Qov:∀(L:List HC) (i:Nat) (c:HC),i<L.length->∃X Z:T5,∃ys:T5,AE L=X++(ys++Z)/\X.length=i*3/\ys.length=3/\AE (L.set i c)=X++(AP c++Z)
 |[],i,c,h=>by simp at h
 |x::r,0,c,h=>⟨[],AE r,AP x,rfl,rfl,rfl,rfl⟩
 |x::r,i+1,c,h=>by
  obtain⟨X,Z,ys,h1,h2,h3,h4⟩:=Qov r i c YY;refine⟨AP x++X,Z,ys,?_,?_,h3,?_⟩
  .show AP x++AE r=_;rw[h1];simp
  .simp[AP,h2];omega
  .show AP x++AE (r.set i c)=_;rw[h4];simp
theorem Qu8(L:List HC)(sp:T5)(i:Nat)(c:HC)(hi:i<L.length):NO (AE L++sp) (i*3) (AP c) (AE (L.set i c)++sp):=by
 obtain⟨X,Z,ys,h1,h2,h3,h4⟩:=Qov L i c hi;rw[h1,h4];have:=QiH X ys (AP c) (Z++sp) (i*3) h2 (by rw[h3];rfl);simpa using this
end Go.Proofs.YthliapbflkfdiacGreatDoor
