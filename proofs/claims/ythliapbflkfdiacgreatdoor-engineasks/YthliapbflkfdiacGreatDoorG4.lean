/- Steps of the proof. -/
import Derived.Test.YthliapbflkfdiacGreatDoorG3
set_option linter.unusedVariables false
set_option linter.unusedSimpArgs false
set_option maxRecDepth 100000
set_option maxHeartbeats 1000000
namespace Go.Proofs.YthliapbflkfdiacGreatDoor
open Go.Proofs.Tryz
open Go.RowKit
structure Cl where
 k:Int
 n:Int
 s:TJ
 hd:Ts
 bd:Ts
 vars:Int
def Cl.nodes(c:Cl):Nat:=c.hd.nodes+c.bd.nodes+1
def KF:List Cl->Nat
 |[]=>0
 |c::r=>c.nodes+KF r
def cB(c:Cl):Bool:=qB c.vars c.bd&&gB c.vars c.k c.n c.s c.hd&& !Q1 c.s.toList c.hd.length
def KO(w:TG)(p:Nat->Prop):List Cl->Nat->Nat->Prop
 |[],_,_=>True
 |c::r,b,o=>p b/\w.cell? ⟨b,o,none⟩=some (.int .i64 c.k)/\w.cell? ⟨b,o+1,none⟩=some (.int .i64 c.n)/\w.cell? ⟨b,o+2,none⟩=some (.string c.s)/\
  (∃v,w.cell? ⟨b,o+3,none⟩=some v/\Sl w p v c.hd)/\(∃v,w.cell? ⟨b,o+4,none⟩=some v/\Sl w p v c.bd)/\w.cell? ⟨b,o+5,none⟩=some (.int .i64 c.vars)/\KO w p r b (o+6)
def EM(w:TG)(p:Nat->Prop)(v:TH)(L:List Cl):Prop:=∃A c,v= .slice A L.length c/\L.length<=c/\(0<L.length->∃b o,A=some ⟨b,o,none⟩/\KO w p L b o)
section
variable{w w':TG}{p q:Nat->Prop}
theorem KO.keep{L:List Cl}:∀{b o:Nat},KO w p L b o->(∀k,p k->k<w.heap.size->w'.heap[k]?=w.heap[k]?)->KO w' p L b o:=by
 induction L with
 |nil=>intro b o _ _;trivial
 |cons c r ih=>
  intro b o ⟨h0,h1,h2,h3,⟨v,h4,h5⟩,⟨u,h6,h7⟩,h8,h9⟩ hk;have hc:∀j,w'.cell? ⟨b,j,none⟩=w.cell? ⟨b,j,none⟩:=fun j=>JP (hk b h0 (P5 h1));exact⟨h0,(hc _).trans h1,(hc _).trans h2,(hc _).trans h3,⟨v,(hc _).trans h4,h5.keep hk⟩,⟨u,(hc _).trans h6,h7.keep hk⟩,(hc _).trans h8,ih h9 hk⟩
theorem EM.keep{L:List Cl}{v:TH}(h:EM w p v L)(hk:∀k,p k->k<w.heap.size->w'.heap[k]?=w.heap[k]?):EM w' p v L:=by
 obtain⟨A,c,e,hl,hs⟩:=h;exact⟨A,c,e,hl,fun h=>by grind[KO.keep]⟩
theorem EM.below{L:List Cl}{v:TH}(h:EM w p v L)(hb:Below w.heap.size w w'):EM w' p v L:=h.keep fun k _ hk=>hb.block k hk
theorem EM.form{L:List Cl}{v:TH}(h:EM w p v L):∃A c,v= .slice A L.length c/\EM w p (.slice A L.length c) L:=by
 exact YdH
theorem KO.skip{R:List Cl}{b:Nat}:∀{D:List Cl} {o:Nat},KO w p (D++R) b o->KO w p R b (o+D.length*6)
 |[],o,h=>by grind
 |c::D,o,⟨_,_,_,_,_,_,_,h⟩=>by
  have:=KO.skip (R:=R) (D:=D) h
  grind
theorem EM.at_{A:T4}{len c:Nat}{D R:List Cl}(h:EM w p (.slice A len c) (D++R))(hR:0<R.length):∃b o,A=some ⟨b,o,none⟩/\KO w p R b (o+D.length*6):=by
 obtain⟨_,_,e,hl,hs⟩:=h;grind[KO.skip]
end
theorem QfY(c:Cl)(u v:TH)(w:TG)(hu:Sl w (fun _=>True) u c.hd)(hv:Sl w (fun _=>True) v c.bd)(h1:c.hd.nodes<1048576)(h2:c.bd.nodes<=1048576):
  Calls prog 49 #[.agg #[.int .i64 c.k,.int .i64 c.n,.string c.s,u,v,.int .i64 c.vars]] w fun e w'=>e= .returned (.bool (cB c))/\Below w.heap.size w w':=by
 obtain⟨A,d,rfl,hu⟩:=hu.form;obtain⟨A',d',rfl,hv⟩:=hv.form;generalize hr:cB c=rb;have R:=XH hr;clear hr;go_enter func49,ntmps49;go_wp2_with fail;have rS:Below w.heap.size w (w.alloc (.cells #[.int .i64 c.k,.int .i64 c.n,.string c.s,.slice A c.hd.length d,.slice A' c.bd.length d',.int .i64 c.vars] 65)):=(XR _ _).alloc (XF _) _;have bA:=QR.new w 65 #[.int .i64 c.k,.int .i64 c.n,.string c.s,.slice A c.hd.length d,.slice A' c.bd.length d',.int .i64 c.vars];generalize(w.alloc (.cells #[.int .i64 c.k,.int .i64 c.n,.string c.s,.slice A c.hd.length d,.slice A' c.bd.length d',.int .i64 c.vars] 65))=W0 at*;have Pe:=hu.below rS;refine(QgU c.vars c.bd _ W0 (hv.below rS) h2).mono ?_;rintro e _ ⟨rfl,qJ⟩;have uP:=rS.trans (qJ.mono rS.size);have tG:=bA.below qJ;have oR:=Pe.below qJ;generalize hq:qB c.vars c.bd=qb;have HQ:=XH hq;clear hq
 cases qb with
 |false=>
  exact YbQ
 |true=>
  have p0:=tG.cell 0;have p1:=tG.cell 1;have p2:=tG.cell 2;have p3:=tG.cell 3;have p5:=tG.cell 5;simp at p0 p1 p2 p3 p5;go_wp2_with fail;refine(Qih c.vars c.k c.n c.s c.hd _ _ oR h1).mono ?_;rintro e _ ⟨rfl,pH⟩;have yK:=uP.trans (pH.mono uP.size);have wR:=tG.below pH;clear p0 p1 p2 p3 p5;generalize hg:gB c.vars c.k c.n c.s c.hd=gb;have sU:=XH hg;clear hg
  cases gb with
  |false=>
   exact YbM
  |true=>
   exact Yag
theorem Qff(c:Cl)(u v:TH)(w:TG)(hu:Sl w (fun _=>True) u c.hd)(hv:Sl w (fun _=>True) v c.bd)(h1:c.hd.nodes<1048576)(h2:c.bd.nodes<=1048576):
  Calls prog 83 #[.agg #[.int .i64 c.k,.int .i64 c.n,.string c.s,u,v,.int .i64 c.vars]] w fun e w'=>e= .returned (.bool (cB c))/\Below w.heap.size w w':=by
 obtain⟨A,d,rfl,hu⟩:=hu.form;obtain⟨A',d',rfl,hv⟩:=hv.form;generalize hr:cB c=rb;have R:=XH hr;clear hr;go_enter func83,ntmps83;go_wp2_with fail;have rS:Below w.heap.size w (w.alloc (.cells #[.int .i64 c.k,.int .i64 c.n,.string c.s,.slice A c.hd.length d,.slice A' c.bd.length d',.int .i64 c.vars] 65)):=(XR _ _).alloc (XF _) _;have bA:=QR.new w 65 #[.int .i64 c.k,.int .i64 c.n,.string c.s,.slice A c.hd.length d,.slice A' c.bd.length d',.int .i64 c.vars];generalize(w.alloc (.cells #[.int .i64 c.k,.int .i64 c.n,.string c.s,.slice A c.hd.length d,.slice A' c.bd.length d',.int .i64 c.vars] 65))=W0 at*;have Pe:=hu.below rS;refine(Qgh c.vars c.bd _ W0 (hv.below rS) h2).mono ?_;rintro e _ ⟨rfl,qJ⟩;have uP:=rS.trans (qJ.mono rS.size);have tG:=bA.below qJ;have oR:=Pe.below qJ;generalize hq:qB c.vars c.bd=qb;have HQ:=XH hq;clear hq
 cases qb with
 |false=>
  exact YbQ
 |true=>
  have p0:=tG.cell 0;have p1:=tG.cell 1;have p2:=tG.cell 2;have p3:=tG.cell 3;have p5:=tG.cell 5;simp at p0 p1 p2 p3 p5;go_wp2_with fail;refine(Qnx c.vars c.k c.n c.s c.hd _ _ oR h1).mono ?_;rintro e _ ⟨rfl,pH⟩;have yK:=uP.trans (pH.mono uP.size);have wR:=tG.below pH;clear p0 p1 p2 p3 p5;generalize hg:gB c.vars c.k c.n c.s c.hd=gb;have sU:=XH hg;clear hg
  cases gb with
  |false=>
   exact YbM
  |true=>
   have p0:=wR.cell 0;have p1:=wR.cell 1;have p2:=wR.cell 2;have p3:=wR.cell 3;simp at p0 p1 p2 p3;go_wp2_with fail;refine(Qdd c.k c.n c.s A c.hd.length d _).mono ?_;rintro e _ ⟨rfl,oZ⟩;generalize Ar:Q1 c.s.toList c.hd.length=bb;have Pf:=XH Ar;clear Ar;go_wp2_with fail;go_ret;apply Zq.hR.1;rw[<-R.out,cB,HQ.out,sU.out,Pf.out,JH];rfl
def Few(f:RS->Nd×RS):Prop:=∀s,(f s).1.ar.nodes+(f s).2.left<=s.left
theorem Qrb{f:RS->Nd×RS}(hf:Few f):∀(n:Nat) (s:RS),(AJ (C7 f n s).1).nodes+(C7 f n s).2.left<=s.left
 |0,s=>by simp[C7,AJ,Ts.nodes]
 |n+1,s=>by
  unfold C7;split
  .rename_i h;have h1:=K9 s (by grind);have h2:=hf s.adv;have h3:=Qrb hf n (f s.adv).2;exact Yd3
  .simp[AJ,Ts.nodes]
theorem Qjf{f:RS->Nd×RS}(hf:Few f)(s:RS):(AJ (QY f s).1).nodes+(QY f s).2.left<=s.left+1:=by
 unfold QY;have h2:=hf s;have h3:=Qrb hf (f s).2.left (f s).2;exact Yd3
theorem Qyj(s:RS){t:AA}(h:s.token=t)(hn:t≠[]):(s.take t).left<s.left:=by
 grind[RS.take,K9]
theorem ZB(num:AA->Option Int):∀d,Few (QI num d)
 |0,s=>by simp[QI,Nd.zero,Ts.nodes,RS.fail,RS.left]
 |d+1,s=>by
  cases ht:s.token with
  |nil=>simp[QI,ht,Nd.zero,Ts.nodes,RS.fail,RS.left]
  |cons c r=>
   have h1:=K9 s RP;rw[OA num d ht];split
   .have:=(Qiv s.adv (c::r)).1;exact KD
   split
   .rename_i hp
    have pY:s.adv.token=[40]:=by grind
    have h4:=Qyj s.adv pY Yd;have h6:=Qjf (ZB num d) (s.adv.take [40]);exact YcX
   grind[Ts.nodes,Nd.zero,RS.fail,RS.left,Qdn]
section
variable(num:AA->Option Int)
def C8(s:RS):List Nd×RS:=if s.token=[58,45]then QY (QI num 24) s.adv else([],s)
def Q8(s:RS):Cl×RS:=
 let p:=QI num 24 { s with vars:=[] }
 let q:=C8 num p.2
 let s3:=q.2.take [46]
 let c:Cl:=⟨p.1.k,p.1.n,⟨p.1.s.toArray⟩,p.1.ar,AJ q.1,(s3.vars.length:Nat)⟩
 (c,if cB c then s3 else s3.fail 1)
end
theorem Qpz(s:RS):s.rest.length<=s.left:=Nat.le_add_left _ _
theorem St.dropMid{M:T6}{w0 w:TG}{H L:T0}{F:T3}{p:Nat×Obj}(h:St M w0 (p::(L++H)) F w):St M w0 (p::H) F w:=
 St.dropL (L:=L) (h.perm (VP (l₁:=L)).symm)
theorem QmU(num:AA->Option Int)(s:RS):(AJ (C8 num s).1).nodes+(C8 num s).2.left<=s.left/\(C8 num s).2.left<=s.left/\(C8 num s).2.vars.length+(C8 num s).2.left<=s.vars.length+s.left:=by
 unfold C8;split
 .rename_i h;have h1:=K9 s (by grind);have h2:=Qjf (ZB num 24) s.adv;grind[Z0,NL,NJ]
 .simp[AJ,Ts.nodes]
theorem Qxd(num:AA->Option Int)(G:TG->Prop)(L1:LK)(L2:ML)(L3:SP num G)(s:RS)(V:TH)(VH:T0)(M:T6)(w0 w:TG)(H:T0)(F:T3)(b:Nat)(hG:∀w',BK M w0 w'->G w')
  (hl:s.left<1048576) (hV:GC s.vars V VH) (hS:St M w0 ((b,DZ s V)::(VH++H)) F w):
  Calls prog 41 #[ptr b] w fun e w'=>∃u v V' sZ,e= .returned (.agg #[.int .i64 (Q8 num s).1.k,.int .i64 (Q8 num s).1.n,.string (Q8 num s).1.s,u,v,.int .i64 (Q8 num s).1.vars])/\
   GC (Q8 num s).2.vars V' sZ/\St M w0 ((b,DZ (Q8 num s).2 V')::(sZ++H)) ((fun w=>Sl w (fun _=>True) v (Q8 num s).1.bd)::(fun w=>Sl w (fun _=>True) u (Q8 num s).1.hd)::F) w':=by
 obtain⟨A,vc,rfl⟩:=hV.form
 have oV:∀w:TG,Sl w (fun _=>True) (.slice none 0 0) .nil:=fun w=>⟨none,0,rfl,XF _,fun h=>by cases h⟩
 have yL:(RS.mk s.token s.rest [] s.err).left<=1048576:=by grind[RS.left]
 have Dj:=NL num 24 ⟨s.token,s.rest,[],s.err⟩;have tA:=ZB num 24 ⟨s.token,s.rest,[],s.err⟩;have tH:(RS.mk s.token s.rest [] s.err).left=s.left:=rfl;refine Qg func41 rfl ntmps41 rfl ?_;apply Zq.p.eV.1;clear hS;intro b1 _ hS;apply Zq.dT.fT.1;clear hS;intro _ hS;apply Zq.b.h.1;replace hS:=hS.sink1;replace hS:=St.dropMid (L:=VH) hS;apply Zq.f.1;refine XE (Qjg num G L1 L2 L3 24 Ya ⟨s.token,s.rest,[],s.err⟩ _ [] M w0 _ _ F b hG yL Yg Row.nil_ hS) ?_;rintro _ _ ⟨u,_,zM,rfl,sQ,oD⟩;apply Zq.a.1;replace hS:=oD;clear oD;obtain⟨A1,c1,rfl,_⟩:=(hS.fact (.head _)).form;apply Zq.m1.eV.1;clear hS;intro b2 _ hS;apply Zq.d.1;clear hS;intro _ hS;apply Zq.b.bU.y.V.b.1;generalize hp:QI num 24 ⟨s.token,s.rest,[],s.err⟩=p at*;obtain⟨nd,s1⟩:=p;simp only at*;have qJ:=QmU num s1;simp only[XP,XQ]at Dj
 have e1:Q8 num s=(⟨nd.k,nd.n,⟨nd.s.toArray⟩,nd.ar,AJ (C8 num s1).1,(((C8 num s1).2.take [46]).vars.length:Nat)⟩,
   if cB ⟨nd.k,nd.n,⟨nd.s.toArray⟩,nd.ar,AJ (C8 num s1).1,(((C8 num s1).2.take [46]).vars.length:Nat)⟩then(C8 num s1).2.take [46]else((C8 num s1).2.take [46]).fail 1):=by
  grind[Q8]
 simp only[P7]at e1;obtain⟨_,_,rfl⟩:=sQ.form;refine Qgj (15::16::17::18::19::[]) (fun w'=>∃V VH v,GC (C8 num s1).2.vars V VH/\St M w0 ((b2,.cells [.int .i64 nd.k,.int .i64 nd.n,sv nd.s,.slice A1 nd.ar.length c1,v,.int .i64 0].toArray 65)::(b,DZ (C8 num s1).2 V)::(VH++(b1,.cells [.int .i64 0,.int .i64 0,sv [],.slice none 0 0,.slice none 0 0,.int .i64 0].toArray 65)::H)) ((fun w=>Sl w (fun _=>True) v (AJ (C8 num s1).1))::(fun w=>Sl w (fun _=>True) (.slice A1 nd.ar.length c1) nd.ar)::F) w') ?_ ?_
 .intro hk;refine MI rfl (fun h=> ?_) (fun h=> ?_)
  .have h':s1.token=[58,45]:=by grind
   have eb:C8 num s1=QY (QI num 24) s1.adv:=by grind[C8]
   have pU:=K9 s1 (by grind);have hv:=NJ s1
   have qH:s1.rest.length<=1048576:=by grind[Qpz]
   replace hS:=hS.sink1;apply Zq.Z.1;refine XE (RV L1 L2 s1 _ qH hS) ?_;rintro _ w2 ⟨rfl,oD⟩;apply Zq.a.1;replace hS:=oD;clear oD;apply Zq.b.u.f.1;refine XE (QkX num G L1 L2 L3 24 Ya s1.adv _ zM M w0 _ _ _ b hG Ya (by grind) (by grind) hS) ?_;rintro _ w3 ⟨v,V2,xG,rfl,sI,oD⟩;apply Zq.a.1;replace hS:=oD.raise1;clear oD;obtain⟨A2,c2,rfl,_⟩:=(hS.fact (.head _)).form;apply Zq.d4.J.1;clear hS;intro vN hS;apply Zq.b.1;rw[<-eb]at hS sI;exact hk _ _ ⟨V2,xG,_,sI,hS⟩ Yc
  .have h':¬s1.token=[58,45]:=by grind
   have eb:C8 num s1=([],s1):=by grind[C8]
   apply Zq.aW.1;refine hk _ _ ?_ Yc;rw[eb];exact⟨_,zM,_,sQ,hS.learn fun w _=>oV w⟩
 .clear hS sQ;rintro _ w2 ⟨V,xG,v,sI,hS⟩;generalize C8 num s1=q at*;obtain⟨B,s2⟩:=q;simp only at*
  have yM:s2.rest.length<=1048576:=by grind[Qpz]
  obtain⟨A2,c2,rfl,_⟩:=(hS.fact (.head _)).form;obtain⟨_,_,rfl⟩:=sI.form;replace hS:=hS.sink1;apply Zq.aF.1;refine XE (QiA L1 L2 s2 [46] _ yM hS) ?_;rintro _ w3 ⟨rfl,oD⟩;apply Zq.a.1;replace hS:=oD;clear oD;replace hS:=hS.raise1.raise2;apply Zq.dT.a6.aC.cQ.J.1;clear hS;intro vN hS;apply Zq.a2.p.fD.1;have hg:=QfY ⟨nd.k,nd.n,⟨nd.s.toArray⟩,nd.ar,AJ B,(s2.vars.length:Nat)⟩ _ _ _ (hS.fact (.tail _ (.head _))) (hS.fact (.head _)) YM YM;apply Zq.F.kA.1;rintro _ _ ⟨rfl,sJ⟩;apply Zq.a.1;replace hS:=hS.grow sJ;generalize cB ⟨nd.k,nd.n,⟨nd.s.toArray⟩,nd.ar,AJ B,(s2.vars.length:Nat)⟩=ok at*
  cases ok with
  |true=>
   apply Zq.bF.p.fD.d.1;clear hS;intro zO hS;apply Zq.b.lS.1;grind[P7,St.drop]
  |false=>
   apply Zq.X.v.u.1;replace hS:=hS.up3;apply Zq.f.1;refine XE (SE (s2.take [46]) 1 _ hS) ?_;rintro _ _ ⟨rfl,oD⟩;apply Zq.a.1;replace hS:=oD;clear oD;replace hS:=hS.down3;apply Zq.cT.fD.d.1;clear hS;intro zO hS;apply Zq.b.lS.1;grind[RS.fail,P7,St.drop]
theorem Qyi(num:AA->Option Int)(d:Nat)(s:RS)(h:s.token≠[]):(QI num (d+1) s).2.left<s.left:=by
 cases ht:s.token with
 |nil=>grind
 |cons c r=>
  have h1:=K9 s h;rw[OA num d ht];split
  .grind[Qiv]
  split
  .grind[take_left,Z0,NL]
  split
  .exact DM
  split
  .grind[Qdn]
  .simp only[QoI];omega
theorem Qfl(num:AA->Option Int)(s:RS)(h:s.token≠[]):(Q8 num s).2.left<s.left:=by
 have h1:(QI num 24 ⟨s.token,s.rest,[],s.err⟩).2.left<_:=Qyi num 23 ⟨s.token,s.rest,[],s.err⟩ h;have h2:(RS.mk s.token s.rest [] s.err).left=s.left:=rfl;simp only[Q8];have h3:=(QmU num (QI num 24 ⟨s.token,s.rest,[],s.err⟩).2).2.1;have h4:=take_left (C8 num (QI num 24 ⟨s.token,s.rest,[],s.err⟩).2).2 [46];split
 .omega
 .simp only[QoI];omega
section
variable(num:AA->Option Int)
def QP:Nat->RS->List Cl×RS
 |0,s=>([],s)
 |n+1,s=>if s.token=[]then([],s)else((Q8 num s).1::(QP n (Q8 num s).2).1,(QP n (Q8 num s).2).2)
theorem Qug:∀(n:Nat) (s:RS),s.left<=n->QP num n s=QP num s.left s:=by
 intro n
 induction n using Nat.strongRecOn with
 |_ n ih=>
  intro s _;by_cases ht:s.token=[]
  .have h0:∀k,QP num k s=([],s):=fun k=>by cases k<;>simp[QP,ht]
   grind
  .have h1:=Qfl num s ht
   obtain⟨m,rfl⟩:∃m,n=m+1:=⟨n-1,by omega⟩
   obtain⟨l,hl⟩:∃l,s.left=l+1:=⟨s.left-1,by omega⟩
   grind[QP]
theorem QnT{s:RS}(ht:¬s.token=[]):QP num s.left s=((Q8 num s).1::(QP num (Q8 num s).2.left (Q8 num s).2).1,(QP num (Q8 num s).2.left (Q8 num s).2).2):=by
 have h1:=Qfl num s ht
 obtain⟨l,hl⟩:∃l,s.left=l+1:=⟨s.left-1,by omega⟩
 grind[QP,Qug]
theorem QnS{s:RS}(ht:s.token=[]):QP num s.left s=([],s):=by
 cases s.left<;>simp[QP,ht]
def QC(l:AA):List Cl×Int:=
 let p:=QP num (RS.start l).left (RS.start l)
 let s:=if 24<p.1.length then p.2.fail 3 else p.2
 if s.err=0 then(p.1,0)else([],s.err)
end
theorem Qhr(l:AA):(RS.start l).left<=l.length/\(RS.start l).vars=[]:=by
 grind[RS.start,RS.fail,Qhd,NJ]
theorem Qf5(l:AA):(RS.start l).left<=2000:=by
 have h1:=(Qhr l).1;by_cases h:2000<l.length
 .have h2:(RS.start l).left=0:=by unfold RS.start;rw[XB h];rfl
  omega
 .omega
def KT(w:TG):List Cl->T5->Prop
 |[],xs=>xs=[]
 |c::r,xs=>∃u v ys,xs= .int .i64 c.k:: .int .i64 c.n:: .string c.s::u::v:: .int .i64 c.vars::ys/\Sl w (fun _=>True) u c.hd/\Sl w (fun _=>True) v c.bd/\KT w r ys
theorem KT.app{w:TG}:∀{a b:List Cl} {xs ys:T5},KT w a xs->KT w b ys->KT w (a++b) (xs++ys)
 |[],b,xs,ys,h,h2=>by rw[show xs=[]from h];exact h2
 |c::a,b,xs,ys,⟨u,v,zs,e,h3,h4,h5⟩,h2=>⟨u,v,zs++ys,by grind,h3,h4,h5.app h2⟩
theorem KT.seg{w:TG}:∀{L:List Cl} {xs:T5} {b o:Nat},KT w L xs->(∀j u,xs[j]?=some u->w.cell? ⟨b,o+j,none⟩=some u)->KO w (fun _=>True) L b o
 |[],_,_,_,_,_=>trivial
 |c::r,xs,b,o,⟨u,v,ys,e,h3,h4,h5⟩,hc=>by
  subst e;refine⟨trivial,hc 0 _ rfl,hc 1 _ rfl,hc 2 _ rfl,⟨u,hc 3 _ rfl,h3⟩,⟨v,hc 4 _ rfl,h4⟩,hc 5 _ rfl,KT.seg h5 fun j x hj=> ?_⟩;have:=hc (j+6) x (by grind)
  grind
section
variable{M:T6}{w0:TG}{H:T0}{F:T3}
theorem St.shutC{v:TH}{xs:T5}{O:T0}{L:List Cl}{w:TG}{el:Nat}(hr:Row el 6 v L.length xs O)(hS:St M w0 (O++H) ((fun w=>KT w L xs)::F) w):
  St M w0 H ((fun w=>EM w (fun _=>True) v L)::F) w:=by
 have hC:=hS.facts _ (X8 ..);have hb:=(hS.unlearn.dropL).learn (φ:=fun w=>EM w (fun _=>True) v L) fun w' hx=> ?_
 .exact hb
 generalize hl:L.length=tl at hr
 cases hr with
 |nil_=>exact⟨none,0,by rw[hl],by omega,fun h=>by omega⟩
 |own_ h1 h2 h3 tJ=>
  rename_i bl cap sp;have rA:w.heap[bl]?=some (.cells (xs++sp).toArray el):=hS.own (bl,_) Yd
  have On:bl∉H.map (·.1):=fun hk=>by
   exact YbW
  have Jt:w'.heap[bl]?=some (.cells (xs++sp).toArray el):=by grind[BK.block]
  have AP:=hC w' (hx.mono fun k _ hk=>by grind);refine⟨_,cap,by rw[hl],by omega,fun _=>⟨bl,0,rfl,KT.seg AP fun j u hj=> ?_⟩⟩
  have tX:j<xs.length:=by
   grind
  rw[Qs Jt,XQ,VO tX];exact hj
theorem Quf(num:AA->Option Int)(G:TG->Prop)(L1:LK)(L2:ML)(L3:SP num G)(l:AA)(w:TG)(hG:∀w',BK M w0 w'->G w')(hl:l.length<=1125899906842624)(hS:St M w0 H F w):
  Calls prog 24 #[sv l] w fun e w'=>∃v,e= .returned (.tuple #[v,.int .i64 (QC num l).2])/\St M w0 H ((fun w=>EM w (fun _=>True) v (QC num l).1)::F) w':=by
 have oM:=Qhr l;have Mx:=Qf5 l;refine Qg func24 rfl ntmps24 rfl ?_;apply Zq.aY.Z.1;refine XE (QgM L1 L2 l _ Ya hS) ?_;rintro _ _ ⟨b,rfl,oD⟩;apply Zq.a.1;replace hS:=oD;clear oD;apply Zq.c.e.b8.1;refine Qp 5 (8::9::10::11::12::13::14::15::16::17::[]) (fun(x:List Cl×RS) v w'=>∃V VH O xs,GC x.2.vars V VH/\Row 65 6 v x.1.length xs O/\St M w0 ((b,DZ x.2 V)::(VH++(O++H))) ((fun w=>KT w x.1 xs)::F) w'/\x.1.length+x.2.left<1048576/\QP num (RS.start l).left (RS.start l)=(x.1++(QP num x.2.left x.2).1,(QP num x.2.left x.2).2)) (fun x=>x.2.left) (([],RS.start l)) ?_ Yb ?_
 .exact⟨_,[],[],[],by rw[oM.2];exact Row.nil_,Row.nil_,hS.learn (fun _ _=>rfl),by grind,rfl⟩
 clear hS;rintro⟨D,s2⟩ _ _ _ ⟨_,xG,O2,Gn,sI,tY,hS,uX,hi⟩ ih;simp only at sI tY hS uX hi;obtain⟨A2,c2,rfl⟩:=sI.form;obtain⟨_,_,rfl⟩:=tY.form;apply Zq.bU.y.dD.b.1;refine MI rfl (fun h=> ?_) (fun h=> ?_)
 .have h':¬s2.token=[]:=by grind
  have pU:=Qfl num s2 h';have Dk:=QnT num h';apply Zq.eM.cY.F.1;refine XE (Qxd num G L1 L2 L3 s2 _ xG M w0 _ (O2++H) _ b hG Ya sI hS) ?_;rintro _ _ ⟨u,v,V3,uY,rfl,wL,oD⟩;apply Zq.a.1;replace hS:=oD;clear oD;obtain⟨A3,c3,rfl,_⟩:=(hS.fact (.head _)).form;obtain⟨A4,c4,rfl,_⟩:=(hS.fact (.tail _ (.head _))).form;generalize Q8 num s2=r3 at*;obtain⟨Ci,s3⟩:=r3;simp only at*;apply Zq.h9.1;clear hS;intro _ _ hS;refine EQ (sz:=6) (bts:=88) hS Yb rfl rfl rfl rfl (tY) rfl rfl (.cons _ (XK (_::uY) O2 H)) Ya Ya rfl ?_;clear hS;intro _ O4 _ Fj hS
  replace hS:=(hS.perm (XK O4 ((b,DZ s3 V3)::uY) H)).conv2 (ψ:=fun w=>Sl w (fun _=>True) (.slice A4 Ci.hd.length c4) Ci.hd/\Sl w (fun _=>True) (.slice A3 Ci.bd.length c3) Ci.bd) fun w h1 h2=>⟨h2,h1⟩
  replace hS:=hS.conv2 (ψ:=fun w=>KT w (D++[Ci]) (Gn++[.int .i64 Ci.k,.int .i64 Ci.n,.string Ci.s,.slice A4 Ci.hd.length c4,.slice A3 Ci.bd.length c3,.int .i64 Ci.vars])) fun w h1 h2=>h2.app ⟨_,_,[],rfl,h1.1,h1.2,rfl⟩;obtain⟨_,_,rfl⟩:=Fj.form;apply Zq.bO.1;refine ih ((D++[Ci],s3)) _ _ _ ?_ ?_ Yb Yc
  .exact DM
  .refine⟨V3,uY,O4,_,wL,?_,hS,?_,?_⟩
   .grind
   .exact OB
   grind
 .have h':s2.token=[]:=by grind
  rw[QnS num h',VF]at hi;simp only at hi
  have sE:∀w,EM w (fun _=>True) (.slice none 0 0) []:=fun w=>⟨none,0,rfl,XF _,fun h=>by cases h⟩
  by_cases zP:24<D.length
  .have yQ:(s2.fail 3).err≠0:=by grind[RS.fail]
   have e:QC num l=([],(s2.fail 3).err):=by
    grind[QC]
   apply Zq.d5.m.bP.v.u.f.1;refine XE (SE s2 3 _ hS) ?_;rintro _ _ ⟨rfl,oD⟩;apply Zq.a.1;replace hS:=oD;clear oD;apply Zq.b.aH.cS.Q.v.E.m6.1;exact Yby
  .by_cases yQ:s2.err=0
   .have e:QC num l=(D,0):=by
     grind[QC]
    apply Zq.d5.m.bP.D.aH.cS.Q.D.h.K.jI.1;rw[e];grind[St.shutC,St.dropL]
   .have e:QC num l=([],s2.err):=by
     grind[QC]
    apply Zq.d5.m.bP.D.aH.cS.Q.v.E.m6.1;exact Yby
def QM(num:AA->Option Int)(l:AA):Ts×Nat×Int:=
 let p:=QY (QI num 24) (RS.start l)
 let s:=p.2.take [46]
 let s':=if s.token=[]/\qB (s.vars.length:Nat) (AJ p.1)=true then s else s.fail 1
 if s'.err=0 then(AJ p.1,s'.vars.length,0)else(.nil,0,s'.err)
theorem Qyu(num:AA->Option Int)(G:TG->Prop)(L1:LK)(L2:ML)(L3:SP num G)(l:AA)(w:TG)(hG:∀w',BK M w0 w'->G w')(hl:l.length<=1125899906842624)(hS:St M w0 H F w):
  Calls prog 25 #[sv l] w fun e w'=>∃v,e= .returned (.tuple #[v,.int .i64 ((QM num l).2.1:Nat),.int .i64 (QM num l).2.2])/\St M w0 H ((fun w=>Sl w (fun _=>True) v (QM num l).1)::F) w':=by
 have oM:=Qhr l;have Mx:=Qf5 l;have Dj:=Z0 (NL num 24) (RS.start l);have tA:=Qjf (ZB num 24) (RS.start l);rw[oM.2,XP,XQ]at Dj
 have oV:∀w:TG,Sl w (fun _=>True) (.slice none 0 0) .nil:=fun w=>⟨none,0,rfl,XF _,fun h=>by cases h⟩
 refine Qg func25 rfl ntmps25 rfl ?_;apply Zq.p.a3.Z.1;refine XE (QgM L1 L2 l _ Ya hS) ?_;rintro _ _ ⟨b,rfl,oD⟩;apply Zq.a.1;replace hS:=oD;clear oD;apply Zq.c.aF.1;refine XE (QkX num G L1 L2 L3 24 Ya (RS.start l) _ [] M w0 _ H F b hG Ya (by grind) (by rw[oM.2];exact Row.nil_) hS) ?_;rintro _ _ ⟨v,_,zM,rfl,sQ,oD⟩;apply Zq.a.1;replace hS:=oD;clear oD;obtain⟨A1,c1,rfl,_⟩:=(hS.fact (.head _)).form;obtain⟨Av,cv,rfl⟩:=sQ.form;have e0:QM num l=QM num l:=rfl
 conv at e0=>rhs;unfold QM
 generalize hp:QY (QI num 24) (RS.start l)=p at*;obtain⟨B,s1⟩:=p;simp only at*;rw[e0];clear e0
 have qH:s1.rest.length<=1048576:=by grind[Qpz]
 apply Zq.c.aF.1;refine XE (QiA L1 L2 s1 [46] _ qH hS) ?_;rintro _ w3 ⟨rfl,oD⟩;apply Zq.a.1;replace hS:=oD;clear oD;apply Zq.a2.1;have pG:=P7 s1 [46];generalize s1.take [46]=s2 at*;rw[<-pG]at sQ;generalize vY:(if s2.token=[]/\qB (s2.vars.length:Nat) (AJ B)=true then s2 else s2.fail 1)=s3 at*
 have qZ:s3.vars=s2.vars:=by rw[<-vY];split<;>rfl
 have Fo:s1.vars.length=s2.vars.length:=by rw[pG]
 rw[Fo]at hS;refine Qgj (13::14::15::16::17::18::19::20::21::22::23::24::25::26::27::28::29::[]) (fun w'=>St M w0 ((b,DZ s3 (.slice Av s2.vars.length cv))::(zM++H)) ((fun w=>Sl w (fun _=>True) (.slice A1 (AJ B).length c1) (AJ B))::F) w') ?_ ?_
 .intro hk;apply Zq.bN.y.dD.g.1;generalize htb:(s2.token !=[])=tb
  cases tb with
  |false=>
   have ht:s2.token=[]:=by grind
   have Fp:=QgU (s2.vars.length:Nat) (AJ B) _ w3 (hS.fact (.head _)) Ya;generalize hq:qB (s2.vars.length:Nat) (AJ B)=q at*;apply Zq.j.n.c9.Y.aK.dA.f.1;refine XE (Fp) ?_;rintro _ w4 ⟨rfl,sJ⟩;apply Zq.a.1;replace hS:=hS.grow sJ;apply Zq.bW.q.b.1
   cases q with
   |true=>
    have e3:s3=s2:=by grind
    apply Zq.bS.aW.1;exact hk _ _ (by grind) Yc
   |false=>
    have e3:s3=s2.fail 1:=by grind
    apply Zq.cD.u.f.1;exact YbC
  |true=>
   have ht:¬s2.token=[]:=by grind
   have e3:s3=s2.fail 1:=by grind
   apply Zq.cG.cG.cG.cG.H.u.f.1;exact YbC
 .intro _ w4 hS;clear vY;by_cases yQ:s3.err=0
  .apply Zq.aH.cS.Q.D.E.nP.1;replace hS:=hS.drew;apply Zq.a5.aU.b5.aN.eH.bK.bK.bK.dK.1;refine Qfi func25 rfl Yb Yb Yb ?_;rw[XB yQ];exact⟨_,by rw[qZ],St.dropL (L:=zM) hS.drop⟩
  .apply Zq.aH.cS.Q.v.E.1;refine QH (St M w0 _ _) 7 ((0,true)::(1,true)::(2,true)::(3,true)::(4,true)::(5,true)::(6,true)::[]) Yc Yc (hS.drew) ?_;replace hS:=hS.drew;apply Zq.aU.eA.aN.bK.bK.bK.dK.1;refine Qfi func25 rfl Yb Yb Yb ?_;rw[XA yQ];grind[St.learn,St.unlearn,St.dropL]
end
end Go.Proofs.YthliapbflkfdiacGreatDoor
namespace Go.Proofs
open YthliapbflkfdiacGreatDoor
open Go.Shelf
def Tryz.lays161_ren:Go.Shelf.Ren:=⟨fun|161=>112|231=>168|227=>169|233=>170|235=>171|228=>204|197=>205|151=>206|260=>231|152=>232|137=>129|119=>246|224=>247|225=>248|217=>182|266=>213|n=>n,fun|9=>9|4=>4|3=>3|5=>5|117=>233|116=>232|0=>0|124=>236|105=>262|21=>21|119=>286|46=>276|139=>289|138=>288|n=>n,fun|3=>3|4=>4|n=>n⟩
theorem Tryz.lays161:Go.Proofs.Lays.n161 Tryz.prog Tryz.lays161_ren:={
 mixed:=by kernel_rfl
 f119:=Tryz.func246.trans (XM some (by kernel_rfl))
 f137:=Tryz.func129.trans (XM some (by kernel_rfl))
 f151:=Tryz.func206.trans (XM some (by kernel_rfl))
 f152:=Tryz.func232.trans (XM some (by kernel_rfl))
 f161:=Tryz.func112.trans (XM some (by kernel_rfl))
 f197:=Tryz.func205.trans (XM some (by kernel_rfl))
 f217:=Tryz.func182.trans (XM some (by kernel_rfl))
 f224:=Tryz.func247.trans (XM some (by kernel_rfl))
 f225:=Tryz.func248.trans (XM some (by kernel_rfl))
 f227:=Tryz.func169.trans (XM some (by kernel_rfl))
 f228:=Tryz.func204.trans (XM some (by kernel_rfl))
 f231:=Tryz.func168.trans (XM some (by kernel_rfl))
 f233:=Tryz.func170.trans (XM some (by kernel_rfl))
 f235:=Tryz.func171.trans (XM some (by kernel_rfl))
 f260:=Tryz.func231.trans (XM some (by kernel_rfl))
 f266:=Tryz.func213.trans (XM some (by kernel_rfl))
 t0:=Tryz.underlying0
 a0:=Tryz.isAgg0
 z0:=Tryz.sizeOf0
 v0:=Tryz.zeroValue0
 t3:=Tryz.underlying3
 a3:=Tryz.isAgg3
 z3:=Tryz.sizeOf3
 v3:=Tryz.zeroValue3
 t4:=Tryz.underlying4
 a4:=Tryz.isAgg4
 z4:=Tryz.sizeOf4
 v4:=Tryz.zeroValue4
 t5:=Tryz.underlying5
 a5:=Tryz.isAgg5
 z5:=Tryz.sizeOf5
 v5:=Tryz.zeroValue5
 t9:=Tryz.underlying9
 a9:=Tryz.isAgg9
 z9:=Tryz.sizeOf9
 v9:=Tryz.zeroValue9
 t21:=Tryz.underlying21
 a21:=Tryz.isAgg21
 z21:=Tryz.sizeOf21
 v21:=Tryz.zeroValue21
 t46:=Tryz.underlying276
 a46:=Tryz.isAgg276
 z46:=Tryz.sizeOf276
 v46:=Tryz.zeroValue276
 t105:=Tryz.underlying262
 a105:=Tryz.isAgg262
 z105:=Tryz.sizeOf262
 v105:=Tryz.zeroValue262
 t116:=Tryz.underlying232
 a116:=Tryz.isAgg232
 z116:=Tryz.sizeOf232
 t117:=Tryz.underlying233
 a117:=Tryz.isAgg233
 z117:=Tryz.sizeOf233
 v117:=Tryz.zeroValue233
 t119:=Tryz.underlying286
 a119:=Tryz.isAgg286
 z119:=Tryz.sizeOf286
 t124:=Tryz.underlying236
 a124:=Tryz.isAgg236
 z124:=Tryz.sizeOf236
 v124:=Tryz.zeroValue236
 t138:=Tryz.underlying288
 a138:=Tryz.isAgg288
 z138:=Tryz.sizeOf288
 v138:=Tryz.zeroValue288
 t139:=Tryz.underlying289
 a139:=Tryz.isAgg289
 z139:=Tryz.sizeOf289
 v139:=Tryz.zeroValue289
 g3:=by kernel_rfl
 g4:=by kernel_rfl }
def Tryz.lays137_ren:Go.Shelf.Ren:=⟨fun|137=>129|217=>182|266=>213|n=>n,fun|9=>9|5=>5|3=>3|n=>n,fun|n=>n⟩
theorem Tryz.lays137:Go.Proofs.Lays.n137 Tryz.prog Tryz.lays137_ren:={
 mixed:=by kernel_rfl
 f137:=Tryz.func129.trans (XM some (by kernel_rfl))
 f217:=Tryz.func182.trans (XM some (by kernel_rfl))
 f266:=Tryz.func213.trans (XM some (by kernel_rfl))
 t3:=Tryz.underlying3
 a3:=Tryz.isAgg3
 z3:=Tryz.sizeOf3
 v3:=Tryz.zeroValue3
 t5:=Tryz.underlying5
 a5:=Tryz.isAgg5
 z5:=Tryz.sizeOf5
 v5:=Tryz.zeroValue5
 t9:=Tryz.underlying9
 a9:=Tryz.isAgg9
 z9:=Tryz.sizeOf9
 v9:=Tryz.zeroValue9 }
def Tryz.laysM171_ren:Go.Shelf.Ren:=⟨fun|171=>67|243=>108|246=>165|283=>199|284=>200|285=>201|286=>202|129=>227|317=>226|318=>228|319=>229|320=>230|337=>244|338=>245|n=>n,fun|3=>3|9=>9|2=>2|4=>4|171=>256|0=>0|53=>257|37=>116|5=>5|173=>260|212=>273|51=>274|20=>20|213=>275|46=>276|232=>298|233=>299|n=>n,fun|17=>2|18=>7|19=>8|n=>n⟩
theorem Tryz.laysM171:Go.Proofs.LaysM.n171 Tryz.prog Tryz.laysM171_ren:={
 mixed:=by kernel_rfl
 f129:=Tryz.func227.trans (XM some (by kernel_rfl))
 f171:=Tryz.func67.trans (XM some (by kernel_rfl))
 f243:=Tryz.func108.trans (XM some (by kernel_rfl))
 f246:=Tryz.func165.trans (XM some (by kernel_rfl))
 f283:=Tryz.func199.trans (XM some (by kernel_rfl))
 f284:=Tryz.func200.trans (XM some (by kernel_rfl))
 f285:=Tryz.func201.trans (XM some (by kernel_rfl))
 f286:=Tryz.func202.trans (XM some (by kernel_rfl))
 f317:=Tryz.func226.trans (XM some (by kernel_rfl))
 f318:=Tryz.func228.trans (XM some (by kernel_rfl))
 f319:=Tryz.func229.trans (XM some (by kernel_rfl))
 f320:=Tryz.func230.trans (XM some (by kernel_rfl))
 f337:=Tryz.func244.trans (XM some (by kernel_rfl))
 f338:=Tryz.func245.trans (XM some (by kernel_rfl))
 t0:=Tryz.underlying0
 a0:=Tryz.isAgg0
 z0:=Tryz.sizeOf0
 v0:=Tryz.zeroValue0
 t2:=Tryz.underlying2
 a2:=Tryz.isAgg2
 z2:=Tryz.sizeOf2
 v2:=Tryz.zeroValue2
 t3:=Tryz.underlying3
 a3:=Tryz.isAgg3
 z3:=Tryz.sizeOf3
 v3:=Tryz.zeroValue3
 t4:=Tryz.underlying4
 a4:=Tryz.isAgg4
 z4:=Tryz.sizeOf4
 v4:=Tryz.zeroValue4
 t5:=Tryz.underlying5
 a5:=Tryz.isAgg5
 z5:=Tryz.sizeOf5
 v5:=Tryz.zeroValue5
 t9:=Tryz.underlying9
 a9:=Tryz.isAgg9
 z9:=Tryz.sizeOf9
 v9:=Tryz.zeroValue9
 t20:=Tryz.underlying20
 a20:=Tryz.isAgg20
 z20:=Tryz.sizeOf20
 v20:=Tryz.zeroValue20
 t37:=Tryz.underlying116
 a37:=Tryz.isAgg116
 z37:=Tryz.sizeOf116
 v37:=Tryz.zeroValue116
 t46:=Tryz.underlying276
 a46:=Tryz.isAgg276
 z46:=Tryz.sizeOf276
 v46:=Tryz.zeroValue276
 t51:=Tryz.underlying274
 a51:=Tryz.isAgg274
 z51:=Tryz.sizeOf274
 v51:=Tryz.zeroValue274
 t53:=Tryz.underlying257
 a53:=Tryz.isAgg257
 z53:=Tryz.sizeOf257
 v53:=Tryz.zeroValue257
 t171:=Tryz.underlying256
 a171:=Tryz.isAgg256
 z171:=Tryz.sizeOf256
 v171:=Tryz.zeroValue256
 t173:=Tryz.underlying260
 a173:=Tryz.isAgg260
 z173:=Tryz.sizeOf260
 v173:=Tryz.zeroValue260
 t212:=Tryz.underlying273
 a212:=Tryz.isAgg273
 z212:=Tryz.sizeOf273
 v212:=Tryz.zeroValue273
 t213:=Tryz.underlying275
 a213:=Tryz.isAgg275
 z213:=Tryz.sizeOf275
 t232:=Tryz.underlying298
 a232:=Tryz.isAgg298
 z232:=Tryz.sizeOf298
 v232:=Tryz.zeroValue298
 t233:=Tryz.underlying299
 a233:=Tryz.isAgg299
 z233:=Tryz.sizeOf299
 v233:=Tryz.zeroValue299
 g17:=by kernel_rfl
 g18:=by kernel_rfl
 g19:=by kernel_rfl
 i0:=by kernel_rfl
 i2:=by kernel_rfl
 i3:=by kernel_rfl
 i4:=by kernel_rfl
 i5:=by kernel_rfl
 i9:=by kernel_rfl
 i20:=by kernel_rfl
 i37:=by kernel_rfl
 i46:=by kernel_rfl
 i51:=by kernel_rfl
 i53:=by kernel_rfl
 i171:=by kernel_rfl
 i173:=by kernel_rfl
 i212:=by kernel_rfl
 i232:=by kernel_rfl
 i233:=by kernel_rfl
 m17:=by kernel_rfl
 m18:=by kernel_rfl
 m19:=by kernel_rfl }
def Tryz.laysC172_ren:Go.Shelf.Ren:=⟨fun|172=>175|244=>208|245=>209|247=>233|279=>234|280=>235|281=>236|282=>237|287=>249|316=>250|171=>67|205=>251|321=>253|322=>254|243=>108|246=>165|283=>199|284=>200|285=>201|286=>202|129=>227|317=>226|318=>228|319=>229|320=>230|337=>244|338=>245|n=>n,fun|9=>9|3=>3|75=>120|76=>122|4=>4|5=>5|167=>279|37=>116|0=>0|85=>280|2=>2|168=>282|53=>257|175=>292|46=>276|210=>296|127=>167|145=>303|143=>301|21=>21|171=>256|173=>260|212=>273|51=>274|20=>20|213=>275|232=>298|233=>299|80=>124|n=>n,fun|15=>5|16=>6|17=>2|18=>7|19=>8|n=>n⟩
theorem Tryz.laysC172:Go.Proofs.LaysC.n172 Tryz.prog Tryz.laysC172_ren:={
 mixed:=by kernel_rfl
 f129:=Tryz.func227.trans (XM some (by kernel_rfl))
 f171:=Tryz.func67.trans (XM some (by kernel_rfl))
 f172:=Tryz.func175.trans (XM some (by kernel_rfl))
 f205:=Tryz.func251.trans (XM some (by kernel_rfl))
 f243:=Tryz.func108.trans (XM some (by kernel_rfl))
 f244:=Tryz.func208.trans (XM some (by kernel_rfl))
 f245:=Tryz.func209.trans (XM some (by kernel_rfl))
 f246:=Tryz.func165.trans (XM some (by kernel_rfl))
 f247:=Tryz.func233.trans (XM some (by kernel_rfl))
 f279:=Tryz.func234.trans (XM some (by kernel_rfl))
 f280:=Tryz.func235.trans (XM some (by kernel_rfl))
 f281:=Tryz.func236.trans (XM some (by kernel_rfl))
 f282:=Tryz.func237.trans (XM some (by kernel_rfl))
 f283:=Tryz.func199.trans (XM some (by kernel_rfl))
 f284:=Tryz.func200.trans (XM some (by kernel_rfl))
 f285:=Tryz.func201.trans (XM some (by kernel_rfl))
 f286:=Tryz.func202.trans (XM some (by kernel_rfl))
 f287:=Tryz.func249.trans (XM some (by kernel_rfl))
 f316:=Tryz.func250.trans (XM some (by kernel_rfl))
 f317:=Tryz.func226.trans (XM some (by kernel_rfl))
 f318:=Tryz.func228.trans (XM some (by kernel_rfl))
 f319:=Tryz.func229.trans (XM some (by kernel_rfl))
 f320:=Tryz.func230.trans (XM some (by kernel_rfl))
 f321:=Tryz.func253.trans (XM some (by kernel_rfl))
 f322:=Tryz.func254.trans (XM some (by kernel_rfl))
 f337:=Tryz.func244.trans (XM some (by kernel_rfl))
 f338:=Tryz.func245.trans (XM some (by kernel_rfl))
 t0:=Tryz.underlying0
 a0:=Tryz.isAgg0
 z0:=Tryz.sizeOf0
 v0:=Tryz.zeroValue0
 t2:=Tryz.underlying2
 a2:=Tryz.isAgg2
 z2:=Tryz.sizeOf2
 v2:=Tryz.zeroValue2
 t3:=Tryz.underlying3
 a3:=Tryz.isAgg3
 z3:=Tryz.sizeOf3
 v3:=Tryz.zeroValue3
 t4:=Tryz.underlying4
 a4:=Tryz.isAgg4
 z4:=Tryz.sizeOf4
 v4:=Tryz.zeroValue4
 t5:=Tryz.underlying5
 a5:=Tryz.isAgg5
 z5:=Tryz.sizeOf5
 v5:=Tryz.zeroValue5
 t9:=Tryz.underlying9
 a9:=Tryz.isAgg9
 z9:=Tryz.sizeOf9
 v9:=Tryz.zeroValue9
 t20:=Tryz.underlying20
 a20:=Tryz.isAgg20
 z20:=Tryz.sizeOf20
 v20:=Tryz.zeroValue20
 t21:=Tryz.underlying21
 a21:=Tryz.isAgg21
 z21:=Tryz.sizeOf21
 v21:=Tryz.zeroValue21
 t37:=Tryz.underlying116
 a37:=Tryz.isAgg116
 z37:=Tryz.sizeOf116
 v37:=Tryz.zeroValue116
 t46:=Tryz.underlying276
 a46:=Tryz.isAgg276
 z46:=Tryz.sizeOf276
 v46:=Tryz.zeroValue276
 t51:=Tryz.underlying274
 a51:=Tryz.isAgg274
 z51:=Tryz.sizeOf274
 v51:=Tryz.zeroValue274
 t53:=Tryz.underlying257
 a53:=Tryz.isAgg257
 z53:=Tryz.sizeOf257
 v53:=Tryz.zeroValue257
 t75:=Tryz.underlying120
 a75:=Tryz.isAgg120
 z75:=Tryz.sizeOf120
 v75:=Tryz.zeroValue120
 t76:=Tryz.underlying122
 a76:=Tryz.isAgg122
 z76:=Tryz.sizeOf122
 v76:=Tryz.zeroValue122
 t85:=Tryz.underlying280
 a85:=Tryz.isAgg280
 z85:=Tryz.sizeOf280
 v85:=Tryz.zeroValue280
 t127:=Tryz.underlying167
 a127:=Tryz.isAgg167
 z127:=Tryz.sizeOf167
 v127:=Tryz.zeroValue167
 t143:=Tryz.underlying301
 a143:=Tryz.isAgg301
 z143:=Tryz.sizeOf301
 v143:=Tryz.zeroValue301
 t145:=Tryz.underlying303
 a145:=Tryz.isAgg303
 z145:=Tryz.sizeOf303
 v145:=Tryz.zeroValue303
 t167:=Tryz.underlying279
 a167:=Tryz.isAgg279
 z167:=Tryz.sizeOf279
 v167:=Tryz.zeroValue279
 t168:=Tryz.underlying282
 a168:=Tryz.isAgg282
 z168:=Tryz.sizeOf282
 v168:=Tryz.zeroValue282
 t171:=Tryz.underlying256
 a171:=Tryz.isAgg256
 z171:=Tryz.sizeOf256
 v171:=Tryz.zeroValue256
 t173:=Tryz.underlying260
 a173:=Tryz.isAgg260
 z173:=Tryz.sizeOf260
 v173:=Tryz.zeroValue260
 t175:=Tryz.underlying292
 a175:=Tryz.isAgg292
 z175:=Tryz.sizeOf292
 v175:=Tryz.zeroValue292
 t210:=Tryz.underlying296
 a210:=Tryz.isAgg296
 z210:=Tryz.sizeOf296
 v210:=Tryz.zeroValue296
 t212:=Tryz.underlying273
 a212:=Tryz.isAgg273
 z212:=Tryz.sizeOf273
 v212:=Tryz.zeroValue273
 t213:=Tryz.underlying275
 a213:=Tryz.isAgg275
 z213:=Tryz.sizeOf275
 t232:=Tryz.underlying298
 a232:=Tryz.isAgg298
 z232:=Tryz.sizeOf298
 v232:=Tryz.zeroValue298
 t233:=Tryz.underlying299
 a233:=Tryz.isAgg299
 z233:=Tryz.sizeOf299
 v233:=Tryz.zeroValue299
 g15:=by kernel_rfl
 g16:=by kernel_rfl
 g17:=by kernel_rfl
 g18:=by kernel_rfl
 g19:=by kernel_rfl
 t80:=Tryz.underlying124
 a80:=Tryz.isAgg124
 z80:=Tryz.sizeOf124
 v80:=Tryz.zeroValue124
 i0:=by kernel_rfl
 i2:=by kernel_rfl
 i3:=by kernel_rfl
 i4:=by kernel_rfl
 i5:=by kernel_rfl
 i9:=by kernel_rfl
 i20:=by kernel_rfl
 i21:=by kernel_rfl
 i37:=by kernel_rfl
 i46:=by kernel_rfl
 i51:=by kernel_rfl
 i53:=by kernel_rfl
 i75:=by kernel_rfl
 i76:=by kernel_rfl
 i80:=by kernel_rfl
 i85:=by kernel_rfl
 i127:=by kernel_rfl
 i143:=by kernel_rfl
 i145:=by kernel_rfl
 i167:=by kernel_rfl
 i168:=by kernel_rfl
 i171:=by kernel_rfl
 i173:=by kernel_rfl
 i175:=by kernel_rfl
 i210:=by kernel_rfl
 i212:=by kernel_rfl
 i232:=by kernel_rfl
 i233:=by kernel_rfl
 m15:=by kernel_rfl
 m16:=by kernel_rfl
 m17:=by kernel_rfl
 m18:=by kernel_rfl
 m19:=by kernel_rfl
 c0:=by kernel_rfl
 c2:=by kernel_rfl
 c3:=by kernel_rfl
 c4:=by kernel_rfl
 c5:=by kernel_rfl
 c9:=by kernel_rfl
 c20:=by kernel_rfl
 c21:=by kernel_rfl
 c37:=by kernel_rfl
 c46:=by kernel_rfl
 c51:=by kernel_rfl
 c53:=by kernel_rfl
 c75:=by kernel_rfl
 c76:=by kernel_rfl
 c80:=by kernel_rfl
 c85:=by kernel_rfl
 c127:=by kernel_rfl
 c143:=by kernel_rfl
 c145:=by kernel_rfl
 c167:=by kernel_rfl
 c168:=by kernel_rfl
 c171:=by kernel_rfl
 c173:=by kernel_rfl
 c175:=by kernel_rfl
 c210:=by kernel_rfl
 c212:=by kernel_rfl
 c213:=by kernel_rfl
 c232:=by kernel_rfl
 c233:=by kernel_rfl }
end Go.Proofs
namespace Go.Proofs.YthliapbflkfdiacGreatDoor
open Go.Proofs.Tryz
open Go.RowKit Go.Shelf
theorem OJ(l:AA):(⟨l.toArray⟩:TJ).data.toList=l:=by simp
theorem QAb:ML:=by
 intro l w hl;have h:=Any.strings_TrimLeft_laid Tryz.lays161 Yc ⟨l.toArray⟩ ⟨#[32,10,13,9]⟩ w Yf (ascii_of_all Yf);refine XE h ?_;rintro _ _ ⟨rfl,hb⟩;refine⟨?_,hb⟩;rw[OJ];rfl
theorem QtS(c:UInt8):decide ((Lib.indexByte EP c)>=0)=EP.contains c:=by
 have h:∀n:Fin 256,decide ((Lib.indexByte EP (UInt8.ofNat n.val))>=0)=EP.contains (UInt8.ofNat n.val):=by decide+kernel
 have:=h ⟨c.toNat,c.toNat_lt⟩;simp_all
theorem QAc:LK:=by
 refine⟨QmK,fun c w=> ?_⟩;have h:=Any.strings_IndexByte Tryz.lays137 ⟨EP.toArray⟩ (c.toNat:Int) w;refine XE h ?_;rintro _ _ ⟨rfl,hw⟩;refine⟨⟨_,rfl,?_⟩,hw⟩;rw[OJ];have:((c.toNat:Nat):Int).toNat.toUInt8=c:=by simp
 grind[QtS]
def QX(tok:AA):Option Int:=match Lib.atoiAll tok with
 | .ok v=>if Lib.itoa v=tok/\-1099511627776<=v/\v<=1099511627776 then some v else none
 |_=>none
structure GX(w:TG):Prop where
 es:∃tp p,w.var? prog "strconv.ErrSyntax" =some #[.iface tp p]
 er:∃tp p,w.var? prog "strconv.ErrRange" =some #[.iface tp p]
 tab:Lib.TabIs prog w "internal/strconv.uint64pow10" .u64 Lib.pow10Tab
theorem QlJ(w:TG)(k:Nat)(os:Array Obj):Below w.heap.size w (Go.Sort.grow (w.drewN k) os):=by
 refine⟨rfl,rfl,rfl,?_,fun j hj=> ?_⟩
 .simp_all
 .show(w.heap++os)[j]?=w.heap[j]?;grind
theorem Qs7{l:AA}{v:Int}(h:Lib.atoiAll l= .ok v): -9223372036854775808<=v/\v<=9223372036854775807:=by
 unfold Lib.atoiAll at h;grind
theorem QAa:SP QX GX:=by
 intro tok s A vl vc M w0 w H F b hG hl hS;have g:=hG w hS.ext;obtain⟨tp,pp,hes⟩:=g.es;obtain⟨tp2,pp2,her⟩:=g.er;have Dc:(⟨tok.toArray⟩:TJ).size=tok.length:=GY tok
 have bad:∀x:Int,(Calls prog 175 #[sv tok] w fun e w'=>∃N,e= .returned (.tuple #[.int .i64 x,.iface 282 (.pointer (some ⟨N,0,none⟩))])/\Below w.heap.size w w')->QX tok=none->
   Calls prog 119 #[ptr b,sv tok] w fun e w'=>e= .returned (.int .i64 (s.number QX tok).1)/\St M w0 ((b,DZ (s.number QX tok).2 (.slice A vl vc))::H) F w':=by
  intro x hc hn;have e1:s.number QX tok=(0,s.fail 1):=by grind[RS.number]
  rw[e1];apply Zq.kV.e.Z.1;refine XE hc ?_;rintro _ w1 ⟨N,rfl,qJ⟩;apply Zq.a.1;replace hS:=hS.grow qJ;apply Zq.b2.m.X.bB.q.aS.q.aS.H.aF.fW.1;rintro _ w2 ⟨rfl,oD⟩;exact Ybb
 cases ha:Lib.atoiAll tok
 case ok v=>
  have hr:=Qs7 ha;have h1:=Any.strconv_Atoi_ok Tryz.laysC172 ⟨tok.toArray⟩ (by omega) v (by omega) w
  have Gs:Calls prog 175 #[sv tok] w fun e w'=>e= .returned (.tuple #[.int .i64 v,.nilIface])/\Below w.heap.size w w':=by
   refine XE h1 ?_;rintro e w' ⟨rfl,rfl|⟨t,rfl⟩⟩
   .exact⟨rfl,XR _ _⟩
   grind[Lib.bytesWorld_below]
  clear h1
  have Ni:∀w',GX w'->Calls prog 67 #[.int .i64 v] w' fun e qQ=>e= .returned (sv (Lib.itoa v))/\Below w'.heap.size w' qQ:=by
   intro w' g';refine XE (Any.strconv_Itoa Tryz.laysM171 v hr.1 hr.2 w' g'.tab) ?_;grind[QlJ]
  have hn:QX tok=if Lib.itoa v=tok/\-1099511627776<=v/\v<=1099511627776 then some v else none:=by grind[QX]
  apply Zq.kV.e.Z.1;refine XE (Gs) ?_;rintro _ w1 ⟨rfl,qJ⟩;apply Zq.a.1;replace hS:=hS.grow qJ;apply Zq.b2.m.X.n.F.1;refine XE (Ni _ (hG _ hS.ext)) ?_;rintro _ w2 ⟨rfl,pH⟩;apply Zq.a.1;replace hS:=hS.grow pH;apply Zq.P.dD.q.g.1;generalize hq:(Lib.itoa v !=tok)=q
  cases q with
  |true=>
   have oN:¬Lib.itoa v=tok:=by grind
   rw[XA (fun h=>oN h.1)]at hn;have e1:s.number QX tok=(0,s.fail 1):=by grind[RS.number]
   rw[e1];apply Zq.cG.q.aS.H.aF.fW.1;exact Ydx
  |false=>
   have wZ:Lib.itoa v=tok:=by grind
   by_cases qI:v< -1099511627776
   .rw[XA (fun h=>by omega)]at hn;have e1:s.number QX tok=(0,s.fail 1):=by grind[RS.number]
    rw[e1];apply Zq.P.I.q.aS.H.aF.fW.1;exact Ydx
   .by_cases hhi:v>1099511627776
    .rw[XA (fun h=>by omega)]at hn;have e1:s.number QX tok=(0,s.fail 1):=by grind[RS.number]
     rw[e1];apply Zq.P.I.dM.S.H.aF.fW.1;exact Ydx
    .rw[XB ⟨wZ,by omega,by omega⟩]at hn;have e1:s.number QX tok=(v,s):=by grind[RS.number]
     rw[e1];apply Zq.P.I.dM.S.N.aB.h3.1;grind
 case range=>
  refine bad (Lib.atoiSat (⟨tok.toArray⟩:TJ).data.toList) (XE (Any.strconv_Atoi_range_var Tryz.laysC172 ⟨tok.toArray⟩ (by omega) (by omega) tp2 pp2 w her) ?_) (by grind[QX]);exact Yd2
 all_goals
  refine bad 0 (XE (Any.strconv_Atoi_syntax_var Tryz.laysC172 ⟨tok.toArray⟩ (by rw[Dc];omega) (by rw[OJ];exact ha) tp pp w hes) ?_) (by simp only[QX,ha]);exact Yd2
end Go.Proofs.YthliapbflkfdiacGreatDoor
