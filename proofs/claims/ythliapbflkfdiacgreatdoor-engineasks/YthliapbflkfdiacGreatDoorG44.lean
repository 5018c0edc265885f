/- Steps of the proof. -/
import Derived.Test.YthliapbflkfdiacGreatDoorG43
set_option linter.unusedVariables false
set_option linter.unusedSimpArgs false
set_option maxRecDepth 100000
set_option maxHeartbeats 1000000
namespace Go.Proofs.YthliapbflkfdiacGreatDoor
open Go.Proofs.Tryz
open Go.RowKit Go.Shelf
theorem P0{α:Type}(a b:α)(O H:List α):(a::b::(O++H)).Perm (b::(O++a::H)):=(List.Perm.swap b a _).trans (.cons b VP.symm)
theorem QwC{D R:Ts}(h:FA (D.app R)):FA R:=by
 induction D with
 |nil=>exact h
 |cons k n s a r _ ih=>exact ih h.2.2
theorem Qr3(T:Ts)(v:TH)(w0:TG)(hG:∀w',BK [] w0 w'->GX w')(hv:Sl w0 (fun _=>True) v T)(hr:FA T)(hN:T.nodes<=1048576)(hl:(DL 0 T).length<=1073741824):
  Calls prog 36 #[v] w0 fun e w'=>e= .returned (sv (DL 0 T))/\Below w0.heap.size w0 w':=by
 have hS:=St.start w0;obtain⟨A,c,rfl,hv⟩:=hv.form;have zU:=T.length_le;refine Qg func36 rfl ntmps36 rfl ?_;apply Zq.e.p.dH.1;clear hS;intro b1 _ hS;apply Zq.b.m.aQ.1;refine Qp 8 (9::10::11::12::5::4::13::14::15::16::17::18::19::20::21::[]) (fun(R:Ts) v w'=>∃(D:Ts) (p B:TH) (O:T0),T=D.app R/\v= .int .i64 (D.length:Nat)/\P8 b1 p/\H0 (DL 0 D) B O/\St [] w0 ((b1,PI p B)::(O++[])) [] w') (fun R=>R.length) (T) ?_ Yb ?_
 .exact⟨.nil,_,_,[],rfl,rfl,.inl rfl,Row.nil_,hS⟩
 clear hS;rintro R _ _ _ ⟨D,p,B,O,hD,rfl,hp,hB,hS⟩ ih;have vP:T.length=D.length+R.length:=by rw[hD,Ts.length_app]
 cases R with
 |nil=>
  rw[Ts.app_nil]at hD;subst hD;simp only[Ts.length]at vP;apply Zq.W.p.F.1;refine XE (Qpm p B (DL 0 T) O _ hB Ya hS) ?_;rintro _ w3 ⟨rfl,oD⟩;apply Zq.a.1;replace hS:=oD;clear oD;apply Zq.c.1;refine Qd func36 rfl Yb ?_;exact Yn
 |cons k n s a R=>
  obtain⟨s,rfl⟩:=Qxs s;simp only[Ts.length]at vP;obtain⟨_,_,rfl,Kx⟩:=Sl.at_ (D:=D) (R:= .cons k n ⟨s.toArray⟩ a R) YaK YS;obtain⟨_,_,_,_,⟨_,_,pW⟩,_⟩:=Q6.1 Kx;obtain⟨A6,c6,rfl,pW⟩:=pW.form;have wC:FA (.cons k n ⟨s.toArray⟩ a R):=QwC (D:=D) YaL;have pS:T.nodes=D.nodes+(Ts.cons k n ⟨s.toArray⟩ a R).nodes:=by rw[hD,Ts.nodes_app]
  simp only[Ts.nodes]at pS;have Dg:(DL 0 T).length=(DL 0 D).length+(DL (0+D.length) (.cons k n ⟨s.toArray⟩ a R)).length:=by rw[hD,Qiw,XG]
  simp only[DL,XG,XJ,XP,XQ]at Dg;have aGw:(Value.int .u8 32)= .int .u8 ((32:UInt8).toNat:Nat):=rfl;have aDz:(Value.int .u8 61)= .int .u8 ((61:UInt8).toNat:Nat):=rfl;apply Zq.a8.h.cF.cE.R.1;clear hS;intro _ _ hS;apply Zq.d1.d.1;clear hS;intro _ hS;apply Zq.cT.f.1;refine XE (QfO p B (DL 0 D) 32 O _ hp hB Ya (hS.perm (P0 _ _ _ _))) ?_;rintro _ w3 ⟨B3,O3,rfl,Im,oD⟩;apply Zq.a.1;replace hS:=oD;clear oD;replace hS:=hS.perm (P0 _ _ _ _).symm;apply Zq.b.Z.1;refine XE (QxG (D.length:Nat) _ Ya (hG _ hS.ext)) ?_;rintro _ _ ⟨rfl,sJ⟩;apply Zq.a.1;replace hS:=hS.grow sJ;apply Zq.f.1;refine XE (QeC _ B3 (DL 0 D++[32]) (Lib.itoa (D.length:Nat)) O3 _ (.inr rfl) Im Yl (hS.perm (P0 _ _ _ _))) ?_;rintro _ _ ⟨B5,O5,rfl,hB5,oD⟩;apply Zq.a.1;replace hS:=oD;clear oD;replace hS:=hS.perm (P0 _ _ _ _).symm;apply Zq.cT.f.1;refine XE (QfO _ B5 ((DL 0 D++[32])++Lib.itoa (D.length:Nat)) 61 O5 _ (.inr rfl) hB5 Yl (hS.perm (P0 _ _ _ _))) ?_;rintro _ w6 ⟨B6,O6,rfl,hB6,oD⟩;apply Zq.a.1;replace hS:=oD;clear oD;replace hS:=hS.perm (P0 _ _ _ _).symm;apply Zq.b.d8.cE.F.1;refine XE (Quh k n s a _ w6 (fun w' h=>hG w' (hS.ext.trans h)) (pW.below hS.ext.below) wC.1 wC.2.1 Ya Ya) ?_;rintro _ _ ⟨rfl,Sg⟩;apply Zq.a.1;replace hS:=hS.grow Sg;apply Zq.f.1;refine XE (QeC _ B6 ((DL 0 D++[32])++Lib.itoa (D.length:Nat)++[61]) (CU false (.cons k n ⟨s.toArray⟩ a .nil)) O6 _ (.inr rfl) hB6 Yl (hS.perm (P0 _ _ _ _))) ?_;rintro _ _ ⟨B8,O8,rfl,hB8,oD⟩;apply Zq.a.1;replace hS:=oD;clear oD;replace hS:=(hS.perm (P0 _ _ _ _).symm).drop;apply Zq.b.aZ.1;refine ih (R) _ _ _ ?_ ?_ Yb Yc
  .simp[Ts.length]
  .refine⟨D.app (.cons k n ⟨s.toArray⟩ a .nil),_,B8,O8,by rw[Ts.app_assoc];exact hD,by rw[Ts.length_app];simp[Ts.length],.inr rfl,?_,hS⟩;rw[Qiw,XQ,Qwi];simpa using hB8
section
variable{P:Program}{n:Nat}{e:AW}{w:TG}{ty:TypeId}{pos:String}{after:TE}{x y:Operand}{dst:TD}{t:TypeId}{b o:Nat}
def QxH(P:Program)(t:TypeId):Option (Nat×TypeId):=match P.underlying t with|some (.array n el)=>some (n,el)|_=>none
theorem QnG{el sz len:Nat}{i:Int}(hx:ev n e x= .pointer (some ⟨b,o,none⟩))(hy:ev n e y= .int .i64 i)(hT:QxH P t=some (len,el))(hs:EW P el=some sz)(h0:0<=i)(h1:i<len):
  (execOp (ev n e) ⟨dst,.indexAddr t x y,ty,pos,after,none⟩).run P w= .ok (.value (.pointer (some ⟨b,o+i.toNat*sz,none⟩))) w:=by
 have hu:P.underlying t=some (.array len el):=by
  unfold QxH at hT;split at hT
  .rename_i h;simp only[XU,J7]at hT;rw[h,hT.1,hT.2]
  .cases hT
 have h2:=VC hu w;have h3:=KH (w:=w) hs;simp only[execOp,Instr.indexAt,Instr.sureAddr,hx,hy,asIntOf,bind,pure,Sem.bind];rw[XN,XN,h2];simp only[XW,Sem.bind];rw[XN,h2];simp only[XW,XB (And.intro h0 h1)];rw[XN,h3];simp only[XW,G7,Sem.run]
end
def OL(w:TG):Prop:=∀i:Nat,i<7->w.cell? ⟨0,i,none⟩=some (sv (M8 (i:Nat)))
theorem Qwf(k:Int):(M8 k).length<=6:=by
 unfold M8
 repeat' split
 all_goals decide
theorem QwT(k:Int)(T:Ts)(v:TH)(w0:TG)(hG:∀w',BK [] w0 w'->GX w')(hW:∀w',BK [] w0 w'->OL w')(hv:Sl w0 (fun _=>True) v T)(hr:FA T)(hN:T.nodes<=1048576)(hl:(CS k T).length<=1073741824):
  Calls prog 18 #[.agg #[.int .i64 k,v]] w0 fun e w'=>e= .returned (sv (CS k T))/\Below w0.heap.size w0 w':=by
 have hS:=St.start w0;obtain⟨A,c,rfl,hv⟩:=hv.form;refine Qg func18 rfl ntmps18 rfl ?_;by_cases h0:k<0
 .have e:CS k T=[]:=by unfold CS M8;repeat' rw[XA Ya]
  rw[e];apply Zq.w.1;clear hS;intro b1 oQ hS;apply Zq.g4.I.bX.H.e.i0.1;exact Yn
 by_cases h7:7<=k
 .have e:CS k T=[]:=by unfold CS M8;repeat' rw[XA Ya]
  rw[e];apply Zq.w.1;clear hS;intro b1 oQ hS;apply Zq.g4.I.t.aI.aK.r.H.e.i0.1;exact Yn
 obtain⟨i,rfl⟩:∃i:Nat,k=i:=⟨k.toNat,by omega⟩
 have hwc:∀w',BK [] w0 w'->w'.cell? ⟨0,0+((i:Nat):Int).toNat*1,none⟩=some (sv (M8 (i:Nat))):=fun w' h=>by
  have:=hW w' h i Ya
  rwa [show 0+((i:Nat):Int).toNat*1=i by omega]
 have sL:=Qwf (i:Nat);by_cases h1:((i:Nat):Int)=1
 .have e:CS (i:Nat) T=M8 (i:Nat)++DL 0 T:=by unfold CS;rw[XB h1,h1];rfl
  rw[e]at hl⊢;rw[XG]at hl;apply Zq.w.1;clear hS;intro b1 oQ hS;apply Zq.gB.eQ.I.t.cO.eQ.j.r.N.bD.eQ.mQ.eQ.gB.eQ.l.v.h.L.eQ.F.1;refine XE (Qr3 T _ _ (fun w' h=>hG w' (hS.ext.trans h)) (hv.below hS.ext.below) hr hN Ya) ?_;rintro _ _ ⟨rfl,oZ⟩;apply Zq.a.1;replace hS:=hS.grow oZ;apply Zq.iE.c.i0.1;exact Yn
 .have e:CS (i:Nat) T=M8 (i:Nat):=by unfold CS;rw[XA h1]
  rw[e];apply Zq.w.1;clear hS;intro b1 oQ hS;apply Zq.gB.eQ.I.t.cO.eQ.j.r.N.bD.eQ.mQ.eQ.gB.eQ.bY.aB.i0.1;exact Yn
theorem QoO(num:AA->Option Int)(s:RS):(Q8 num s).1.hd.nodes<=s.left/\(Q8 num s).1.bd.nodes<=s.left:=by
 have h1:=ZB num 24 { s with vars:=[] };have h2:=QmU num (QI num 24 { s with vars:=[] }).2;have e:RS.left { s with vars:=[] }=s.left:=rfl;rw[e]at h1;exact⟨by show(QI num 24 _).1.ar.nodes<=_;omega,by show(AJ (C8 num _).1).nodes<=_;omega⟩
theorem Qlr(num:AA->Option Int):∀(n:Nat) (s:RS),∀c∈(QP num n s).1,c.hd.nodes<=s.left/\c.bd.nodes<=s.left
 |0,s,c,h=>by simp[QP]at h
 |n+1,s,c,h=>by
  unfold QP at h;split at h
  .simp at h
  .rename_i ht;have h1:=QoO num s;rcases XV.1 h with rfl|h
   .exact h1
   .have h2:=Qlr num n _ c h;have h3:=Qfl num s ht;omega
theorem QgI(num:AA->Option Int)(l:AA):∀c∈(QC num l).1,c.hd.nodes<=2000/\c.bd.nodes<=2000:=by
 intro c hc;have h0:=Qf5 l
 have:c∈(QP num (RS.start l).left (RS.start l)).1:=by
  unfold QC at hc;simp only at hc;split at hc
  .split at hc
   .exact hc
   .simp at hc
  .split at hc
   .exact hc
   .simp at hc
 have:=Qlr num _ _ c this;omega
theorem QjO(num:AA->Option Int)(l:AA):(QC num l).1.length<=24:=by
 unfold QC;simp only;generalize QP num (RS.start l).left (RS.start l)=p;by_cases h:24<p.1.length
 .have h1:(p.2.fail 3).err≠0:=by
   simp only[RS.fail];split
   .decide
   .assumption
  rw[XB h,XA h1];simp
 .rw[XA h];split
  .exact DM
  .simp
theorem Qud{v u:TH}{R:T5}:∀D:T5,FH (D++u::R) D.length v (D++v::R)
 |[]=> .z
 |d::D=> .s (Qud D)
theorem Qen(T:Ts)(h:T.nodes<=1048576):T.length<=9223372036854775807/\T.wide:=⟨by have:=Ts.length_le T;omega,Ts.wide_of T Ya⟩
theorem Qib(l:AA):(QM QX l).1.nodes<=2001:=by
 rw[QjL];have sL:=Qi4 l;have Rg:=Qb5 (UR 24) [46] (PS.start l);unfold MU;by_cases h:2000<l.length
 .rw[XB h];simp[Ts.nodes]
 .rw[XA h]
  have Hb:(AJ (QJ (PS.start l)).1).nodes<=2001:=by
   exact Ydp
  generalize QJ (PS.start l)=g at Hb⊢;simp only;split
  .simp[Ts.nodes]
  .exact Hb
def Qx5(w0:TG)(r:List AA×Int)(e:Ending)(w':TG):Prop:=
 ∃(A:T4) (c:Nat),e= .returned (.tuple #[.slice A r.1.length c,.int .i64 r.2])/\QG 1 (r.1.map sv) A r.1.length c w'/\Below w0.heap.size w0 w'
theorem QvF(p q:AA)(fuel every:Int)(w0:TG)(hG:∀w',BK [] w0 w'->GX w')(hW:∀w',BK [] w0 w'->OL w')(hp:p.length<=1125899906842624)(hq:q.length<=1125899906842624)(pX:every<=9223372036854775807):
  Calls prog 21 #[sv p,sv q,.int .i64 fuel,.int .i64 every] w0 (Qx5 w0 (FF p q fuel every)):=by
 have hS:=St.start w0;have Nz:=QgI QX p;have tM:=QjO QX p;have Ux:=Qib q;refine TM func21 rfl ntmps21 rfl ?_;apply Zq.aY.Z.1;refine XE (Quf QX GX QAc QAb QAa p _ hG hp hS) ?_;rintro _ _ ⟨_,rfl,oD⟩;apply Zq.a.1;replace hS:=oD;clear oD;obtain⟨pA,pc,X,rfl,hX,hXr⟩:=(hS.fact (.head _)).locate;replace hS:=hS.learn (φ:=E6 X pA pc) fun w2 hx=>hXr w2 fun k _ hk=>hx.block k hk Yd;by_cases h1:(QC QX p).2=0
 case neg=>
  have e:FF p q fuel every=([],(QC QX p).2):=by unfold FF;rw[XB h1]
  rw[e];exact Yds
 obtain⟨Ad,Mr⟩:=Qlq h1;apply Zq.b2.cW.D.Z.1;refine XE (Qyu QX GX QAc QAb QAa q _ hG hq hS) ?_;rintro _ _ ⟨_,rfl,oD⟩;apply Zq.a.1;replace hS:=oD;clear oD;obtain⟨qA,qc,Y,rfl,hY,hYr⟩:=(hS.fact (.head _)).locate;replace hS:=hS.learn (φ:=AV qA qc Y) fun w2 hx=>hYr w2 fun k _ hk=>hx.block k hk Yd;by_cases h2:(QM QX q).2.2=0
 case neg=>
  have e:FF p q fuel every=([],(QM QX q).2.2):=by unfold FF;rw[XA (fun h=>h h1),XB h2]
  rw[e];apply Zq.dV.a3.cW.v.h.K.hX.1;exact YaQ
 obtain⟨vD,Ms,Oa⟩:=QqY h2
 have zE:FF p q fuel every=if every<0 then([],2)
   else if(CK (QC QX p).1 (QM QX q).1 ((QM QX q).2.1:Nat) fuel).2≠0 then([],(CK (QC QX p).1 (QM QX q).1 ((QM QX q).2.1:Nat) fuel).2)
   else((CK (QC QX p).1 (QM QX q).1 ((QM QX q).2.1:Nat) fuel).1.map SN,0):=by
  unfold FF;rw[XA (fun h=>h h1),XA (fun h=>h h2)]
 rw[zE];clear zE;have zF:=QlW (vars:=((QM QX q).2.1:Nat)) (fuel:=fuel) Mr Ms;have tA:=Qqe (P:=(QC QX p).1) (q:=(QM QX q).1) (vars:=((QM QX q).2.1:Nat)) (fuel:=fuel);generalize(QM QX q).2.1=vn at*;rw[<-hX]at Nz tM Ad zF tA⊢;rw[<-hY]at Ux vD zF tA⊢
 have pO:=Qso X pA pc Y qA qc (vn:Nat) fuel every _ AB.head.tail.tail AB.head (by simp at tM;omega) (fun c hc=>by
  obtain⟨a1,a2⟩:=Qen c.hd (by have:=(Nz c hc).1;omega);obtain⟨b1,b2⟩:=Qen c.bd (by have:=(Nz c hc).2;omega)
  exact⟨a1,a2,b1,b2⟩) (by rw[<-TA.len_ts];exact(Qen _ Ya).1) (Qen _ Ya).2 pX hS
 apply Zq.dV.a3.cW.D.i.aO.g.g7.1;refine XE (pO) ?_;rintro _ _ ⟨_,_,L,F5,rfl,hL,_,hK,oD⟩;apply Zq.a.1;replace hS:=oD;clear oD;by_cases h3:every<0
 .have e:(Qpa (X.map LC.cl) Y.ts (vn:Nat) fuel every).2=2:=by rw[QiX _ _ _ _ _ h3,XA (by rw[Ad,vD];simp)]
  rw[XB h3,e];exact Yds
 rw[XA h3];rw[QmZ _ _ _ _ _ Ya]at hL⊢;by_cases h4:(CK (X.map LC.cl) Y.ts (vn:Nat) fuel).2=0
 case neg=>
  rw[XB h4];exact Yds
 rw[XA (fun h=>h h4),h4]
 have Ee:L.length<=13:=by have:=XM List.length hL;rw[VQ]at this;omega
 have Mt:(CK (X.map LC.cl) Y.ts (vn:Nat) fuel).1.map SN=L.map fun x=>CS x.k x.T.ts:=by rw[<-hL,VY];rfl
 have hx:∀x∈L,x.T.ts.nodes<=200/\FA x.T.ts/\(CS x.k x.T.ts).length<=1000000:=fun x hx=>by
  exact Yck
 rw[Mt];apply Zq.b2.cW.D.h.aC.1;refine SF (k:=L.length) (bts:=16) (z:= .string ⟨#[]⟩) hS Yb Yb rfl rfl rfl rfl Ya Ya rfl ?_;clear hS;intro zb _ hS;apply Zq.M.aQ.1;refine Qp 52 (53::54::55::56::17::16::57::58::59::60::61::62::[]) (fun(R:List KE) v w'=>∃D,L=D++R/\v= .int .i64 (D.length:Nat)/\St [] w0 ((zb,.cells (D.map (fun x=>sv (CS x.k x.T.ts))++R.map (fun _=>Value.string ⟨#[]⟩)).toArray 9)::[]) F5 w') (fun R=>R.length) (L) ?_ Yb ?_
 .exact⟨[],rfl,rfl,by simpa[List.map_const']using hS⟩
 clear hS;rintro R _ w7 _ ⟨D,hD,rfl,hS⟩ ih
 have vP:L.length=D.length+R.length:=by rw[hD];simp
 cases R with
 |nil=>
  rw[VF]at hD;subst hD;simp only[XP]at vP;simp only[JA,VF]at hS;apply Zq.W.h.K.hX.1;have uL:=hS.own (zb,_) (.head _);refine⟨some ⟨zb,0,none⟩,L.length,by simp,?_,hS.ext.below⟩;have:=QG.own (xs:=(L.map fun x=>CS x.k x.T.ts).map sv) (sp:=[]) (sz:=1) (len:=L.length) (cap:=L.length) (b:=zb) (el:=9) (w:=w7) (by rw[VF,VY];exact uL) Yd (XF _);simpa using this
 |cons x R=>
  simp only[XJ]at vP;obtain⟨_,rR,_⟩:=hx x SI;have Mu:=hS.und hK;rw[hD]at Mu;obtain⟨_,_,rfl⟩:=Mu.some_ Yg;obtain⟨_,_⟩:=Mu.cells;have hAr:AB F5 (AV x.A x.c x.T):=hK.imp fun w h=>h.2.2 x SI
  have qT:FH (D.map (fun x=>sv (CS x.k x.T.ts))++(x::R).map (fun _=>Value.string ⟨#[]⟩)) D.length (sv (CS x.k x.T.ts)) ((D++[x]).map (fun x=>sv (CS x.k x.T.ts))++R.map (fun _=>Value.string ⟨#[]⟩)):=by
   have:=Qud (v:=sv (CS x.k x.T.ts)) (u:=Value.string ⟨#[]⟩) (R:=R.map (fun _=>Value.string ⟨#[]⟩)) (D.map (fun x=>sv (CS x.k x.T.ts)));simpa using this
  apply Zq.a8.h.hH.b1.dH.1;clear hS;intro b1 _ hS;apply Zq.d1.d.1;clear hS;intro _ hS;apply Zq.b.cY.b1.F.1;refine XE (QwT x.k x.T.ts _ _ (fun w' h=>hG w' (hS.ext.trans h)) (fun w' h=>hW w' (hS.ext.trans h)) (hS.und hAr).sl rR Ya Ya) ?_;rintro _ _ ⟨rfl,Ec⟩;apply Zq.a.1;replace hS:=hS.grow Ec;apply Zq.T.gM.1;clear hS;intro _ hS;apply Zq.b.aZ.1;refine ih (R) _ _ _ ?_ ?_ Yb Yc
  .simp
  .exact⟨D++[x],by rw[hD];simp,by simp,hS.drop⟩
abbrev H7(l:List AA)(A:T4)(c:Nat)(w:TG):Prop:=QG 1 (l.map sv) A l.length c w
theorem H7.at_{D R:List AA}{x:AA}{b o c:Nat}{w:TG}(h:H7 (D++x::R) (some ⟨b,o,none⟩) c w):w.cell? ⟨b,o+((D.length:Nat):Int).toNat*1,none⟩=some (sv x):=by
 have:=h.get (j:=D.length) (v:=sv x) Yd
 rwa [show((D.length:Nat):Int).toNat*1=D.length by omega]
theorem Qzq(p q:AA)(fuel every:Int){w0 w:TG}{F:T3}(hG:∀w',BK [] w0 w'->GX w')(hW:∀w',BK [] w0 w'->OL w')(hp:p.length<=1125899906842624)(hq:q.length<=1125899906842624)(pX:every<=9223372036854775807)(hS:St [] w0 [] F w):
  Calls prog 21 #[sv p,sv q,.int .i64 fuel,.int .i64 every] w fun e w'=>∃(A:T4) (c:Nat),e= .returned (.tuple #[.slice A (FF p q fuel every).1.length c,.int .i64 (FF p q fuel every).2])/\St [] w0 [] (H7 (FF p q fuel every).1 A c::F) w':=by
 refine(QvF p q fuel every w (fun w' h=>hG w' (hS.ext.trans h)) (fun w' h=>hW w' (hS.ext.trans h)) hp hq pX).mono ?_;rintro e w' ⟨A,c,he,hf,hb⟩;exact Ydw
theorem Qxj(p q:AA)(fuel every:Int):(FF p q fuel every).1.length<=13:=by
 unfold FF
 repeat' split
 all_goals first|exact J8 _|(rw[VQ];exact Qqe)
def QzX:AA:=[112,40,52,41,46]
def QzW:AA:=[112,40,88,41,46]
theorem QvC:FF QzX QzW 9 0=([[121,101,115,32,48,61,52],[100,111,110,101]],0):=by kernel_rfl
theorem Qs9(w:TG)(hG:∀w',BK [] w w'->GX w')(hW:∀w',BK [] w w'->OL w'):Calls prog 20 #[] w fun e w'=>e= .returned (.bool true)/\Below w.heap.size w w':=by
 have hS:=St.start w
 have h:Calls prog 21 #[sv QzX,sv QzW,.int .i64 9,.int .i64 0] w fun e w'=>∃(A:T4) (c:Nat),e= .returned (.tuple #[.slice A 2 c,.int .i64 0])/\QG 1 [sv [121,101,115,32,48,61,52],sv [100,111,110,101]] A 2 c w'/\Below w.heap.size w w':=by
  have h:=QvF QzX QzW 9 0 w hG hW Yf Yf Yf;rw[QvC]at h;exact h
 refine Qp5 func20 rfl ntmps20 rfl ?_;apply Zq.e.p.g9.1;refine XE (h) ?_;rintro _ _ ⟨A,c,rfl,hf,hb⟩;apply Zq.a.1;replace hS:=hS.grow hb;obtain⟨_,_,rfl⟩:=hf.some_ Yf;have q0:=hf.get (j:=0) (v:=sv [121,101,115,32,48,61,52]) rfl;have q1:=hf.get (j:=1) (v:=sv [100,111,110,101]) rfl;have e0:(⟨([121,101,115,32,48,61,52]:AA).toArray⟩:TJ)=⟨#[121,101,115,32,48,61,52]⟩:=rfl;have e1:(⟨([100,111,110,101]:AA).toArray⟩:TJ)=⟨#[100,111,110,101]⟩:=rfl;apply Zq.b2.h.l.n.dA.l.dM.T.aK.V.dM.T.aK.V.a9.1;refine Qd func20 rfl Yb ?_;exact Yn
end Go.Proofs.YthliapbflkfdiacGreatDoor
