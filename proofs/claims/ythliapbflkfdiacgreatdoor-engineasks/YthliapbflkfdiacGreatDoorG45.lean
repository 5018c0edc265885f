/- Steps of the proof. -/
import Derived.Test.YthliapbflkfdiacGreatDoorG44
import Derived.Test.YthliapbflkfdiacGreatDoorCards
import Derived.Test.YthliapbflkfdiacGreatDoorTie
set_option linter.unusedVariables false
set_option linter.unusedSimpArgs false
set_option maxRecDepth 100000
set_option maxHeartbeats 1000000
namespace Go.Proofs.YthliapbflkfdiacGreatDoor
open Go.Proofs.Tryz
open Go.RowKit Go.Shelf
theorem Qn6:∀L:List Cl,(∀c∈L,c.hd.nodes<=2000/\c.bd.nodes<=2000)->KF L<=L.length*4010
 |[],_=>by simp[KF]
 |c::r,h=>by
  have h1:=Qn6 r fun c hc=>h c (.tail _ hc);have h2:=h c (.head _);simp only[KF,Cl.nodes,XJ];omega
theorem QvE(p q:AA)(fuel every:Int)(w0:TG)(hp:p.length<=1125899906842624)(hq:q.length<=1125899906842624):
  Calls prog 27 #[sv p,sv q,.int .i64 fuel,.int .i64 every] w0 (Qx5 w0 (FF p q fuel every)):=by
 have hS:=St.start w0;have Nz:=QgI QX p;have tM:=QjO QX p;have Ux:=Qib q
 have Jg:∀{H:T0} {F:T3} (w':TG),St [] w0 H F w'->Calls prog 47 #[sv p] w' fun e qQ=>∃v,e= .returned (.tuple #[v,.int .i64 (QC QX p).2])/\St [] w0 H ((fun w=>EM w (fun _=>True) v (QC QX p).1)::F) qQ:=by
  intro H F w' h;have:=QjJ p w' hp h;rw[<-QjN]at this;exact BS
 have hrq:∀{H:T0} {F:T3} (w':TG),St [] w0 H F w'->Calls prog 48 #[sv q] w' fun e qQ=>∃v,e= .returned (.tuple #[v,.int .i64 ((QM QX q).2.1:Nat),.int .i64 (QM QX q).2.2])/\St [] w0 H ((fun w=>Sl w (fun _=>True) v (QM QX q).1)::F) qQ:=by
  intro H F w' h;have:=Qmi q w' hq h;rw[<-QjL]at this;exact BS
 refine TM func27 rfl ntmps27 rfl ?_;apply Zq.aY.Z.1;refine XE (Jg _ hS) ?_;rintro _ _ ⟨_,rfl,oD⟩;apply Zq.a.1;replace hS:=oD;clear oD;obtain⟨pA,pc,X,rfl,hX,hXr⟩:=(hS.fact (.head _)).locate;replace hS:=hS.learn (φ:=E6 X pA pc) fun w2 hx=>hXr w2 fun k _ hk=>hx.block k hk Yd;by_cases h1:(QC QX p).2=0
 case neg=>
  have e:FF p q fuel every=([],(QC QX p).2):=by unfold FF;rw[XB h1]
  rw[e];exact Ydt
 obtain⟨Ad,Mr⟩:=Qlq h1;apply Zq.b2.cW.D.Z.1;refine XE (hrq _ hS) ?_;rintro _ _ ⟨_,rfl,oD⟩;apply Zq.a.1;replace hS:=oD;clear oD;obtain⟨qA,qc,Y,rfl,hY,hYr⟩:=(hS.fact (.head _)).locate;replace hS:=hS.learn (φ:=AV qA qc Y) fun w2 hx=>hYr w2 fun k _ hk=>hx.block k hk Yd;by_cases h2:(QM QX q).2.2=0
 case neg=>
  have e:FF p q fuel every=([],(QM QX q).2.2):=by unfold FF;rw[XA (fun h=>h h1),XB h2]
  rw[e];apply Zq.dV.a3.cW.v.h.K.hV.1;exact YaQ
 obtain⟨vD,Ms,Oa⟩:=QqY h2
 have zE:FF p q fuel every=if every<0 then([],2)
   else if(CK (QC QX p).1 (QM QX q).1 ((QM QX q).2.1:Nat) fuel).2≠0 then([],(CK (QC QX p).1 (QM QX q).1 ((QM QX q).2.1:Nat) fuel).2)
   else((CK (QC QX p).1 (QM QX q).1 ((QM QX q).2.1:Nat) fuel).1.map SN,0):=by
  unfold FF;rw[XA (fun h=>h h1),XA (fun h=>h h2)]
 rw[zE];clear zE Jg hrq;have zF:=QlW (vars:=((QM QX q).2.1:Nat)) (fuel:=fuel) Mr Ms;have tA:=Qqe (P:=(QC QX p).1) (q:=(QM QX q).1) (vars:=((QM QX q).2.1:Nat)) (fuel:=fuel);generalize(QM QX q).2.1=vn at*;rw[<-hX]at Nz tM Ad zF tA⊢;rw[<-hY]at Ux vD zF tA⊢;have Gk:=Qn6 _ Nz;have pO:=Qyt X pA pc Y qA qc (vn:Nat) fuel every _ AB.head.tail.tail AB.head Ya Ya hS;apply Zq.dV.a3.cW.D.i.aO.g.g7.1;refine XE (pO) ?_;rintro _ _ ⟨_,_,L,F5,rfl,hL,_,hK,oD⟩;apply Zq.a.1;replace hS:=oD;clear oD;by_cases h3:every<0
 .have e:(Qpa (X.map LC.cl) Y.ts (vn:Nat) fuel every).2=2:=by rw[QiX _ _ _ _ _ h3,XA (by rw[Ad,vD];simp)]
  rw[XB h3,e];exact Ydt
 rw[XA h3];rw[QmZ _ _ _ _ _ Ya]at hL⊢;by_cases h4:(CK (X.map LC.cl) Y.ts (vn:Nat) fuel).2=0
 case neg=>
  rw[XB h4];exact Ydt
 rw[XA (fun h=>h h4),h4]
 have Ee:L.length<=13:=by have:=XM List.length hL;rw[VQ]at this;omega
 have Mt:(CK (X.map LC.cl) Y.ts (vn:Nat) fuel).1.map SN=L.map fun x=>CS x.k x.T.ts:=by rw[<-hL,VY];rfl
 have hx:∀x∈L,x.T.ts.nodes<=200/\FA x.T.ts/\(CS x.k x.T.ts).length<=1000000:=fun x hx=>by
  exact Yck
 rw[Mt];apply Zq.b2.cW.D.bV.aQ.1;refine Qx 49 15 (50::51::52::17::53::54::55::56::57::58::[]) (fun(R:List KE) v u w'=>∃(D:List KE) (A6:T4) (c6:Nat) (O:T0),L=D++R/\v= .int .i64 (D.length:Nat)/\u= .slice A6 D.length c6/\Row 9 1 (.slice A6 D.length c6) D.length (D.map fun x=>sv (CS x.k x.T.ts)) O/\St [] w0 (O++[]) F5 w') (fun R=>R.length) (L) ?_ Yb Yb ?_
 .exact⟨[],none,0,[],rfl,rfl,rfl,Row.nil_,hS⟩
 clear hS;rintro R _ _ _ _ ⟨D,A6,c6,O,hD,rfl,rfl,oE,hS⟩ ih
 have vP:L.length=D.length+R.length:=by rw[hD];simp
 cases R with
 |nil=>
  rw[VF]at hD;subst hD;simp only[XP]at vP;apply Zq.W.h.K.hV.1;obtain⟨_,_,g2,g3⟩:=St.freezeRow oE hS;refine⟨A6,c6,by simp,?_,g3.ext.below⟩;have:=g3.und g2
  have e:(L.map fun x=>sv (CS x.k x.T.ts))=(L.map fun x=>CS x.k x.T.ts).map sv:=by rw[VY];rfl
  rw[e]at this;simpa using this
 |cons x R=>
  simp only[XJ]at vP;obtain⟨_,rR,_⟩:=hx x SI;have Mu:=hS.und hK;rw[hD]at Mu;obtain⟨_,_,rfl⟩:=Mu.some_ Yg;obtain⟨_,_⟩:=Mu.cells;have hAr:AB F5 (AV x.A x.c x.T):=hK.imp fun w h=>h.2.2 x SI;apply Zq.cB.hH.b1.dH.1;clear hS;intro _ _ hS;apply Zq.d.1;clear hS;intro _ hS;apply Zq.b.u.b1.F.1;refine XE (QsI x.k x.T.ts _ _ (hS.und hAr).sl rR Ya Ya) ?_;rintro _ _ ⟨rfl,Ec⟩;apply Zq.a.1;replace hS:=hS.grow Ec;apply Zq.bH.1;clear hS;intro _ _ hS;refine EQ (sz:=1) (bts:=16) hS Yb rfl rfl rfl rfl (oE) rfl rfl (List.Perm.cons _ (XK [_] O [])) Ya Ya rfl ?_;clear hS;intro _ O9 _ oO hS;obtain⟨A9,c9,rfl⟩:=oO.form;replace hS:=(hS.perm (XK O9 [_] [])).drop;apply Zq.dN.1;refine ih (R) _ _ _ _ ?_ ?_ Yb Yb Yc
  .simp
  .exact⟨D++[x],A9,c9,O9,by rw[hD];simp,by simp,by simp,by simpa using oO,hS⟩
theorem QkK(p q:AA)(fuel every:Int)(w:TG)(hG:∀w',BK [] w w'->GX w')(hW:∀w',BK [] w w'->OL w')(hp:p.length<=1125899906842624)(hq:q.length<=1125899906842624)(pX:every<=9223372036854775807):
  Calls prog 11 #[sv p,sv q,.int .i64 fuel,.int .i64 every] w fun e w'=>e= .returned (.bool true)/\Below w.heap.size w w':=by
 have hS:=St.start w;have tA:=Qxj p q fuel every;have sD:=fun{H:T0} {F:T3} (w':TG) (hS:St [] w H F w')=>Qs9 w' (fun w' h=>hG w' (hS.ext.trans h)) (fun w' h=>hW w' (hS.ext.trans h))
 have zE:∀{F:T3} (w':TG),St [] w [] F w'->Calls prog 27 #[sv p,sv q,.int .i64 fuel,.int .i64 every] w' fun e qQ=>∃(A:T4) (c:Nat),e= .returned (.tuple #[.slice A (FF p q fuel every).1.length c,.int .i64 (FF p q fuel every).2])/\St [] w [] (H7 (FF p q fuel every).1 A c::F) qQ:=fun w' hS=>by
  refine(QvE p q fuel every w' hp hq).mono ?_;rintro e qQ ⟨A,c,he,hf,hb⟩;exact Ydw
 refine TM func11 rfl ntmps11 rfl ?_;apply Zq.e.i.aO.g9.1;refine XE (Qzq p q fuel every hG hW hp hq pX hS) ?_;rintro _ _ ⟨A1,c1,rfl,oD⟩;apply Zq.a.1;replace hS:=oD;clear oD;apply Zq.b2.i.aO.g9.1;refine XE (zE _ hS) ?_;rintro _ _ ⟨A2,c2,rfl,oD⟩;apply Zq.a.1;replace hS:=oD;clear oD;generalize(FF p q fuel every)=r at*;have zR:AB [H7 r.1 A2 c2,H7 r.1 A1 c1] (H7 r.1 A1 c1):=AB.head.tail;have tY:AB [H7 r.1 A2 c2,H7 r.1 A1 c1] (H7 r.1 A2 c2):=AB.head;apply Zq.b2.aA.Q.n.aC.P.dA.Q.q.t.1;refine P4 (S8 Yc QmX) rfl ?_;refine XE (sD _ hS) ?_;rintro _ _ ⟨rfl,yS⟩;apply Zq.a.1;replace hS:=hS.grow yS;apply Zq.bW.N.m.aQ.1;refine Qp 46 (47::48::13::49::50::51::52::53::54::55::56::57::8::58::[]) (fun(R:List AA) v w'=>∃D,r.1=D++R/\v= .int .i64 (D.length:Nat)/\St [] w [] [H7 r.1 A2 c2,H7 r.1 A1 c1] w') (fun R=>R.length) (r.1) ?_ Yb ?_
 .exact⟨[],rfl,rfl,hS⟩
 clear hS;rintro R _ w8 _ ⟨D,hD,rfl,hS⟩ ih
 have vP:r.1.length=D.length+R.length:=by rw[hD];simp
 cases R with
 |nil=>
  simp only[XP]at vP;apply Zq.W.e.1;refine Qd func11 rfl Yb ?_;exact Yn
 |cons x R=>
  simp only[XJ]at vP
  have h1:H7 (D++x::R) A1 c1 w8:=by rw[<-hD];exact hS.und zR
  have h2:H7 (D++x::R) A2 c2 w8:=by rw[<-hD];exact hS.und tY
  obtain⟨b7,o7,rfl⟩:=h1.some_ Yg;obtain⟨b8,o8,rfl⟩:=h2.some_ Yg
  have rE:∀w',St [] w [] [H7 r.1 (some ⟨b8,o8,none⟩) c2,H7 r.1 (some ⟨b7,o7,none⟩) c1] w'->w'.cell? ⟨b7,o7+((D.length:Nat):Int).toNat*1,none⟩=some (sv x):=fun w' hS=>by
   have:=hS.und zR;rw[hD]at this;exact this.at_
  have Bz:∀w',St [] w [] [H7 r.1 (some ⟨b8,o8,none⟩) c2,H7 r.1 (some ⟨b7,o7,none⟩) c1] w'->w'.cell? ⟨b8,o8+((D.length:Nat):Int).toNat*1,none⟩=some (sv x):=fun w' hS=>by
   have:=hS.und tY;rw[hD]at this;exact this.at_
  have e0:(⟨x.toArray⟩:TJ)=⟨x.toArray⟩:=rfl;apply Zq.a8.aB.E.fV.1;replace hS:=hS.drew;apply Zq.dS.gC.nI.dS.gC.nI.1
  first
   |refine Qe rfl (fun _ hS=>Qk6 rfl rfl Ye) rfl ?_
   |refine Qe rfl (fun _ hS=>Qk7 rfl rfl Ye) rfl ?_
   |refine Qe rfl (fun _ hS=>Qjs rfl rfl) rfl ?_
   |refine Qe rfl (fun _ hS=>rfl) rfl ?_
  apply Zq.aD.D.aZ.1;refine ih (R) _ _ _ ?_ ?_ Yb Yc
  .simp
  .exact⟨D++[x],by rw[hD];simp,by simp,hS⟩
open Go.ChangeShapes Go.WideShapes Go.ChangeAt
theorem Tryz.laidOut:laidOutB prog=true:=by kernel_rfl
theorem Tryz.own:ownKnob prog.godebug=none:=by kernel_rfl
section
variable{H:Type}{enc:TypeId×TH->H}{w:TG}{base:Nat}{spare:Nat->Bool}{held:Bool}
end
theorem Qgy{H:Type}{enc:TypeId×TH->H}{P:Program}(hl:laidOutB P=true){W W':TG}(hb:Below W.heap.size W W'):∀{ts:List TypeId} {vs:T5} {ds:List (DataW H)} {ps:List MemPlace},(∀t∈ts,P.readableRec t=true/\t<P.types.size)->
  DataW.TrodAll enc P W 0 (fun _=>true) true ts vs ds ps->(∀x∈ps,x.block<W.heap.size)->DataW.TrodAll enc P W' 0 (fun b=>decide (b<W.heap.size)) true ts vs ds ps
 |[],[],[],_,_,h,_=>h
 |[],[],_::_,_,_,h,_=>h.elim
 |[],_::_,_,_,_,h,_=>h.elim
 |_::_,[],_,_,_,h,_=>h.elim
 |_::_,_::_,[],_,_,h,_=>h.elim
 |t::ts,v::vs,d::ds,ps,ht,⟨p,q,h1,h2,e⟩,pU=>by
  subst e;obtain⟨a,b⟩:=ht t (X8 ..);exact⟨p,q,Below.trod hl a b h1 hb fun x hx=>pU x (JO _ hx),Qgy hl hb (fun t Lx=>ht t (XZ _ Lx)) h2 fun x hx=>pU x (WW _ hx),rfl⟩
theorem QwY{H:Type}{enc:TypeId×TH->H}{P:Program}{f:Func}{s:ChangeSpec}{W W':TG}{args:T9}{ds gs:List (DataW H)}{uT:List MemPlace}(hl:laidOutB P=true){bt:TypeId}
  (pV:f.resultTypes= #[bt]) (sS:P.underlying bt=some .bool) (ht:(f.params.toList.all fun t=>P.readableRec t&&decide (t<P.types.size))=true) (Vf:s.vars=[])
  (Ks:(s.fn H (ds++gs)).results=[.lit (.bool true)]/\(s.fn H (ds++gs)).args=ds/\(s.fn H (ds++gs)).vars=[])
  (hW:DataW.Whole enc P f.params.toList s.vars false W args.toList ds gs uT) (hb:Below W.heap.size W W'):
  s.post enc P f false true false false W args (.bool true) W':=by
 have pU:=hW.lt;have hW':=hW;obtain⟨p,q,hA,_,rfl,_,_⟩:=hW;refine⟨ds,gs,p++q,[],p,[],hW',?_,?_,?_,?_,fun h=>by cases h⟩
 .rw[Ks.1,pV];exact trodAll_cons_mk (shut_bool sS _) trodAll_mk0
 .rw[Ks.2.1];exact Qgy hl hb (fun t h=>by have:=VK.1 ht t h;simpa using this) hA fun x hx=>pU x (JO _ hx)
 .rw[Ks.2.2,Vf];rfl
 .exact hb.frame _
section
variable{H:Type}{enc:TypeId×TH->H}{w:TG}{base:Nat}{spare:Nat->Bool}{held:Bool}
end
theorem Qi9{P:Program}{W W':TG}{n:String}{cs:T9}(h:W.var? P n=some cs)(hb:Below W.heap.size W W'):W'.var? P n=some cs:=by
 unfold World.var? at h⊢
 cases hg:P.globalNamed n with
 |none=>simp[hg]at h
 |some g=>
  simp only[hg,VU]at h⊢
  have pU:g<W.heap.size:=by
   rcases XY g W.heap.size with h'|h'
   .exact h'
   .simp[W4 h']at h
  rw[hb.block g pU];exact h
theorem GX.below{W W':TG}(g:GX W)(hb:Below W.heap.size W W'):GX W':=by
 obtain⟨⟨t1,p1,h1⟩,⟨t2,p2,h2⟩,h3⟩:=g;exact⟨⟨t1,p1,Qi9 h1 hb⟩,⟨t2,p2,Qi9 h2 hb⟩,Qi9 h3 hb⟩
theorem Qrx: "*" ++ "errors.errorString" = "*errors.errorString" :=by kernel_rfl
theorem Qvg:∀u,prog.typeName? 3 u=some "*errors.errorString" ->u=301:=
 fun u h=>typeName_ptr_named (nm:= "errors.errorString") (by rw [Qrx];kernel_rfl) Yc Yf u (by rw [Qrx];exact h)
theorem Qu9{W:TG}(h:laidMetH prog Rows.topTermsRow.laid W):GX W:=by
 have h0:=(laidMetH_iff.1 h).1;have e:(Rows.topTermsRow.laid.filter fun x=>x.2.handleName?.isNone)=Rows.topTermsRow.laid:=by kernel_rfl
 rw [e] at h0;have h3:laidMet prog (("internal/strconv.uint64pow10",Lib.tabData .u64 Lib.pow10Tab)::_) W:=JR (JR h0);have h5:=JR (JR h3);have h6:=JR h5;refine ⟨?_,?_,Lib.tabIs_of_head (g:=2) (t:=273) (e:=257) (n:=20) Yc Yc Yc Yc Yc Yc h3⟩
 .obtain⟨a,s,hv,_⟩:=laid_sentinel (g:=5) (ti:=120) (tp:=301) (te:=303) (ts:=9) h6 Yc Yc underlying120 Qvg Yc underlying303 rfl rfl Yc Yc Yc;exact⟨_,_,hv⟩
 .obtain⟨a,s,hv,_⟩:=laid_sentinel (g:=6) (ti:=120) (tp:=301) (te:=303) (ts:=9) h5 Yc Yc underlying120 Qvg Yc underlying303 rfl rfl Yc Yc Yc;exact⟨_,_,hv⟩
theorem QmP{H:Type}{enc:TypeId×TH->H}{P:Program}{w:TG}{base:Nat}{sp:Nat->Bool}{held:Bool}{fuel:Nat}{t e:TypeId}{n:Nat}{cs:T5}{ss:List (TI)}{p:List MemPlace}
  (ht:P.underlying t=some (.array n e)) (he:P.underlying e=some .string) (Wp:P.cellsOf e=1) (tT:P.cellsOf t=n)
  (h:DataW.trod enc P w base sp held fuel t cs=some (.agg (ss.map fun s=>(DataW.lit (.string s):DataW H)),p)):cs=ss.map fun s=>Value.string ⟨s.toArray⟩:=by
 cases fuel with
 |zero=>simp[DataW.trod]at h
 |succ fuel=>
  simp only[DataW.trod,ht,Wp,tT,JN]at h;split at h
  .rename_i hl;obtain⟨xs,hm,hx⟩:=Option.map_eq_some_iff.1 h
   have xE:xs.map (·.1)=ss.map fun s=>(DataW.lit (.string s):DataW H):=by
    have:=XM Prod.fst hx;simpa using this
   have Ii:xs.length=n:=by simpa using Lib.mapM_length hm
   have tR:ss.length=n:=by
    have:=XM List.length xE;exact ZX
   apply J1;intro i;by_cases hi:i<n
   .obtain⟨b,hb,hf⟩:=Lib.mapM_at hm i i (by simp[hi]);obtain⟨z,hc,hbz,_⟩:=DataW.trod_string he hf;subst hbz
    have h1:cs[i]?=some (.string z):=by
     have:=XM (·[0]?) hc;simpa[JB,UW]using this
    have h2:(xs.map (·.1))[i]?=some (DataW.lit (.string z.data.toList):DataW H):=by simp[hb]
    rw[xE]at h2;simp only[VW,Option.map_eq_some_iff,DataW.lit.injEq,Lit.string.injEq]at h2;obtain⟨z',Wd,e2⟩:=h2;subst e2;simp[h1,Wd]
   .rw[XX Ya,XX Yg]
  .cases h
def Qzb:List (TI):=[[],[121,101,115],[100,111,110,101],[102,117,101,108],[108,97,114,103,101],[102,97,117,108,116],[101,110,111,117,103,104]]
theorem OL.below{W W':TG}(g:OL W)(hb:Below W.heap.size W W'):OL W':=fun i hi=>by
 have h:=g i hi;rw[hb.cell (Qvr h)];exact h
theorem QsM{W:TG}(h:laidMetH prog Rows.topTermsRow.laid W):OL W:=by
 have h0:=(laidMetH_iff.1 h).1;have e:(Rows.topTermsRow.laid.filter fun x=>x.2.handleName?.isNone)=Rows.topTermsRow.laid:=by kernel_rfl
 rw [e] at h0;have h6:=JR (JR (JR (JR (JR (JR h0)))));obtain ⟨_,⟨_,_,cs,_,p,q,hg',Lx,aEe,hd,_,_⟩,_⟩:=h6;have hg:prog.globalNamed "querist/engine.words" =some 0:=by kernel_rfl
 have hty:(prog.globals[0]?).map (·.type)=some 69:=by kernel_rfl
 obtain rfl:=V9 (hg.symm.trans hg');obtain rfl:=V9 (hty.symm.trans Lx);have hc:=QmP (n:=7) (e:=9) (ss:=Qzb) Yc underlying9 Yc Yc hd;intro i hi;have:=World.var?_cell hg' aEe i;rw[this];rw[<-Xa7,hc]
 match i,hi with
 |0,_=>rfl
 |1,_=>rfl
 |2,_=>rfl
 |3,_=>rfl
 |4,_=>rfl
 |5,_=>rfl
 |6,_=>rfl
theorem QnZ{H:Type}{enc:TypeId×TH->H}{W:TG}{Fe:Nat}{v:TH}{d:DataW H}{p:List MemPlace}(hv:Value.okWide prog W .any Fe 9 v)(h:DataW.Trod enc prog W 0 (fun _=>true) true 9 v d p):
  ∃l:AA,v=sv l/\d= .lit (.string l):=by
 obtain⟨s,rfl⟩:=okWide_string underlying9 hv;obtain⟨_,hf⟩:=h;obtain⟨s',hc,hx,_⟩:=DataW.trod_string underlying9 hf;have hs:s=s':=by simpa[Value.cells]using hc
 subst hs;simp only[J7]at hx;obtain⟨rfl,_⟩:=hx;exact⟨s.data.toList,by cases s;simp[sv],rfl⟩
theorem Qn0{H:Type}{enc:TypeId×TH->H}{W:TG}{Fe:Nat}{v:TH}{d:DataW H}{p:List MemPlace}(hv:Value.okWide prog W .any Fe 3 v)(h:DataW.Trod enc prog W 0 (fun _=>true) true 3 v d p):
  ∃n:Int,v= .int .i64 n/\d= .lit (.int .i64 n)/\p=[]/\(-9223372036854775808<=n/\n<=9223372036854775807):=by
 obtain⟨a,rfl,rfl,h3,h4⟩:=open_int underlying3 hv h;refine⟨a,rfl,rfl,h3,?_⟩;simp[Lit.wf,IntKind.min,IntKind.max,IntKind.bits,IntKind.signed]at h4;omega
def RB(cs:T9):Obj->Obj
 | .cells _ t frozen=> .cells cs t frozen
 |o=>o
def Qvs:DataW Unit->TH
 | .lit (.int k z)=> .int k z
 | .lit (.string s)=> .string ⟨s.toArray⟩
 |_=> .pointer none
def Qwq:DataW Unit->T9
 | .agg ds=>(ds.map Qvs).toArray
 |_=> #[]
def Qz4:TJ:=⟨#[105,110,118,97,108,105,100,32,115,121,110,116,97,120]⟩
def Qz6:TJ:=⟨#[118,97,108,117,101,32,111,117,116,32,111,102,32,114,97,110,103,101]⟩
noncomputable def Qz9:Nat:=(World.holding prog default ⟨#[], #[],[]⟩).heap.size
noncomputable def QwZ (h:Array Obj):Array Obj:=
 ((((((((h.modify 3 (RB (Go.Pinned.utf8FirstZ.map fun(x:Nat)=>Value.int .u8 (x:Int)).toArray)).modify 4 (RB (([128,191,160,191,128,159,144,191,128,143]++List.replicate 22 (0:Int)).map fun x=>Value.int .u8 x).toArray)).modify 2 (RB (Qwq Rows.laid_internal_strconv_uint64pow10))).modify 5
   (RB #[.iface 301 (.pointer (some ⟨Qz9,0,none⟩))])).modify 6 (RB #[.iface 301 (.pointer (some ⟨Qz9+1,0,none⟩))])).modify 7 (RB (Qwq Rows.laid_math_bits_deBruijn32tab))).modify 8 (RB (Qwq Rows.laid_math_bits_deBruijn64tab))).modify 0 (RB (Qwq Rows.laid_querist_engine_words)))
noncomputable def QpT (os:Os):TG:=
 { World.holding prog os ⟨#[.cells #[.string Qz4] 303,.cells #[.string Qz6] 303], #[],[]⟩with heap:=QwZ (World.holding prog os ⟨#[.cells #[.string Qz4] 303,.cells #[.string Qz6] 303], #[],[]⟩).heap }
theorem QwL(os:Os):laidMet prog Rows.topTermsRow.laid ((QpT os).forCall (fun _ _=>0) ⟨#[], #[.string .empty,.string .empty,.int .i64 0,.int .i64 0],[]⟩).memory:=
 laidMet_of_run' 8 Yc Yc
end Go.Proofs.YthliapbflkfdiacGreatDoor
