/- Steps of the proof. -/
import Derived.Test.YthliapbflkfdiacGreatDoorG18
set_option linter.unusedVariables false
set_option linter.unusedSimpArgs false
set_option maxRecDepth 100000
set_option maxHeartbeats 1000000
namespace Go.Proofs.YthliapbflkfdiacGreatDoor
open Go.Proofs.Tryz
open Go.RowKit Go.Shelf
theorem QpQ(n:Int)(h0:0<=n)(h1:n<=25):(([65,66,67,68,69,70,71,72,73,74,75,76,77,78,79,80,81,82,83,84,85,86,87,88,89,90]:AA).take (n+1).toNat).drop n.toNat=IM n:=by
 obtain⟨m,rfl⟩:∃m:Nat,n=m:=⟨n.toNat,by omega⟩
 have hh:∀i:Fin 26,(([65,66,67,68,69,70,71,72,73,74,75,76,77,78,79,80,81,82,83,84,85,86,87,88,89,90]:AA).take (((i.val:Nat):Int)+1).toNat).drop ((i.val:Nat):Int).toNat=IM (i.val:Nat):=by decide+kernel
 exact hh ⟨m,by omega⟩
def QrX (a : Ts) : Prop := ∀ (k n : Int) (s : TJ) (v : TH) (w : TG), Sl w (fun _ => True) v a -> (-9223372036854775808 <= n /\ n <= 9223372036854775807) -> FA a -> a.nodes <= 1048576 -> (FQ k n s.data.toList a).length <= 1073741824 ->
    Calls prog 38 #[.agg #[.int .i64 k,.int .i64 n,.string s,v]] w fun e w'=>e= .returned (sv (FQ k n s.data.toList a))/\Below w.heap.size w w'
theorem Qt6{D R:Ts}(h:FA (D.app R)):FA R:=by
 induction D with
 |nil=>exact h
 |cons k n s a r _ ih=>exact ih h.2.2
theorem Qic(m:Nat)(ih0:∀T:Ts,T.nodes<m->QrX T)(a:Ts)(hm:a.nodes<=m):QrX a:=by
 intro k n s v w hv hn hr hN hl
 obtain⟨l,rfl⟩:∃l:AA,s=⟨l.toArray⟩:=⟨s.data.toList,by cases s;simp⟩
 rw[OJ]at hl⊢;obtain⟨A,c,rfl,hv⟩:=hv.form;have sD:=a.length_le;have hS:=St.start w;refine Qg func38 rfl ntmps38 rfl ?_;by_cases rU:k=0
 .subst rU;have wT:FQ 0 n l a=IM n:=by simp[FQ,DV,E5,G6]
  rw[wT];by_cases Rk:n<0
  .rw[show IM n=[90,122] by unfold IM;rw[XB (.inl Rk)]];apply Zq.w.1;clear hS;intro b1 oQ hS;apply Zq.c2.bZ.l.t.L.aK.I.j.bX.bG.cR.e.e5.1;exact Yn
  by_cases yD:25<n
  .rw[show IM n=[90,122] by unfold IM;rw[XB (.inr yD)]];apply Zq.w.1;clear hS;intro b1 oQ hS;apply Zq.c2.bZ.l.t.L.aK.I.P.L.aK.S.bG.cR.e.e5.1;exact Yn
  rw[<-QpQ n Ya Ya];apply Zq.w.1;clear hS;intro b1 oQ hS;apply Zq.c2.bZ.l.t.L.aK.I.P.L.aK.S.bG.cN.bZ.l.dQ.p.aE.aE.C.eE.c.e5.1;exact Yn
 by_cases Ay:k=2
 .subst Ay;have wT:FQ 2 n l a=Lib.itoa n:=by simp[FQ,DV,E5,G6]
  rw[wT];apply Zq.w.1;clear hS;intro b1 oQ hS;apply Zq.c2.bZ.l.bB.aL.f1.U.cN.bZ.l.bT.bZ.l.dQ.p.aE.F.1;refine XE (Qkh _ n (XF _) hn.1 hn.2 _) ?_;rintro _ _ ⟨rfl,rfl⟩;apply Zq.aJ.e5.1;exact Yn
 by_cases wB:k=1\/k=3
 case neg=>
  have wT:FQ k n l a=[]:=by
   have h1:¬k=1:=fun h=>wB (.inl h);have h3:¬k=3:=fun h=>wB (.inr h);simp[FQ,DV,E5,G6,rU,Ay,h1,h3]
  rw[wT];have h1:¬k=1:=fun h=>wB (.inl h);have h3:¬k=3:=fun h=>wB (.inr h);apply Zq.w.1;clear hS;intro b1 oQ hS;apply Zq.c2.bZ.l.bB.aL.f1.U.cN.bZ.l.bT.bZ.l.bT.bZ.Q.t.aI.aK.Q.cR.e.e5.1;exact Yn
 have wT:FQ k n l a=l++if 0<a.length then 40::(CU false a++[41])else[]:=by
  have h1:G6 k=true:=by rcases wB with rfl|rfl<;>rfl
  simp[FQ,DV,E5,h1,rU,Ay,wB]
 rcases wB with rfl|rfl
 .skip
  apply Zq.w.1;clear hS;intro b1 oQ hS;apply Zq.c2.bZ.l.bB.aL.f1.U.cN.bZ.l.bT.bZ.l.bT.bZ.Q.bX.cN.aW.aX.e.b0.cS.aQ.1;refine Qx 3 49 (50::51::52::5::53::54::55::56::57::58::[]) (fun(R:Ts) v u w'=>∃(D:Ts) (O:T0),a=D.app R/\u= .int .i64 (D.length:Nat)/\Row 9 1 v D.length ((I6 D).map sv) O/\St [] w ((b1,.cells #[.int .i64 1,.int .i64 n,sv l,.slice A a.length c] 63)::(O++[])) [] w') (fun R=>R.length) (a) ?_ Yb Yb ?_
  .exact⟨.nil,[],rfl,rfl,Row.nil_,hS⟩
  clear hS;rintro R _ _ w2 jv ⟨D,O,hD,rfl,oE,hS⟩ ih;have vP:a.length=D.length+R.length:=by rw[hD,Ts.length_app]
  obtain⟨A2,c2,rfl⟩:=oE.form
  cases R with
  |nil=>
   simp only[Ts.length]at vP;rw[Ts.app_nil]at hD;subst hD;have tM:=QnW a;by_cases h0:a.length=0
   .exact Ydk
   .rw[XB Ya]at wT;have hj:=Qlv a;rw[wT]at hl;simp only[XG,XJ,XP]at hl;have pR:=oE;rw[<-tM]at pR
    have Xb:∀w',St [] w ((b1,.cells #[.int .i64 1,.int .i64 n,sv l,.slice A a.length c] 63)::(O++[])) [] w'->Calls prog 39 #[.slice A2 a.length c2,sv [44]] w' fun e qQ=>e= .returned (sv (CU false a))/\Below w'.heap.size w' qQ:=fun w' h=>by
     exact YcA
    exact Ya8
  |cons k1 n1 s1 a1 R=>
   simp only[Ts.length]at vP;obtain⟨b5,o5,rfl,Kx⟩:=Sl.at_ (D:=D) (R:= .cons k1 n1 s1 a1 R) YaK YS;obtain⟨_,p0,p1,p2,⟨v',p3,pW⟩,_⟩:=Q6.1 Kx;obtain⟨A6,c6,rfl,pW⟩:=pW.form;have wC:FA (.cons k1 n1 s1 a1 R):=Qt6 (D:=D) YaL;have pS:a.nodes=D.nodes+(Ts.cons k1 n1 s1 a1 R).nodes:=by rw[hD,Ts.nodes_app]
   simp only[Ts.nodes]at pS;have oW:=Qul (D:=D) (r:=R) (k:=k1) (n:=n1) (s:=s1) (a:=a1) false;rw[<-hD]at oW;have qY:=hl;rw[wT,XB Ya]at qY;simp only[XG,XJ,XP]at qY;have Rm:∀w',Below w.heap.size w w'->_:=fun w' h=>ih0 a1 Ya k1 n1 s1 _ w' (pW.below h) wC.1 wC.2.1 Ya Ya;apply Zq.cB.cF.cE.R.1;clear hS;intro b2 pP hS;apply Zq.d.1;clear hS;intro pM hS;apply Zq.b.u.cE.F.1;refine XE (Rm _ hS.ext.below) ?_;rintro _ w3 ⟨rfl,oZ⟩;apply Zq.a.1;replace hS:=hS.grow oZ;apply Zq.bH.1;clear hS;intro b3 sR hS;apply Zq.mC.1;clear hS;intro v5 O5 w5 pK hS;apply Zq.dN.1;refine ih (R) _ _ _ _ ?_ ?_ Yb Yb Yc
   .simp[Ts.length]
   .exact Ybk
 .skip
  apply Zq.w.1;clear hS;intro b1 oQ hS;apply Zq.c2.bZ.l.bB.aL.f1.U.cN.bZ.l.bT.bZ.l.bT.bZ.Q.t.aI.aK.Q.cN.aW.aX.e.b0.cS.aQ.1;refine Qx 3 49 (50::51::52::5::53::54::55::56::57::58::[]) (fun(R:Ts) v u w'=>∃(D:Ts) (O:T0),a=D.app R/\u= .int .i64 (D.length:Nat)/\Row 9 1 v D.length ((I6 D).map sv) O/\St [] w ((b1,.cells #[.int .i64 3,.int .i64 n,sv l,.slice A a.length c] 63)::(O++[])) [] w') (fun R=>R.length) (a) ?_ Yb Yb ?_
  .exact⟨.nil,[],rfl,rfl,Row.nil_,hS⟩
  clear hS;rintro R _ _ w2 jv ⟨D,O,hD,rfl,oE,hS⟩ ih;have vP:a.length=D.length+R.length:=by rw[hD,Ts.length_app]
  obtain⟨A2,c2,rfl⟩:=oE.form
  cases R with
  |nil=>
   simp only[Ts.length]at vP;rw[Ts.app_nil]at hD;subst hD;have tM:=QnW a;by_cases h0:a.length=0
   .exact Ydk
   .rw[XB Ya]at wT;have hj:=Qlv a;rw[wT]at hl;simp only[XG,XJ,XP]at hl;have pR:=oE;rw[<-tM]at pR
    have Xb:∀w',St [] w ((b1,.cells #[.int .i64 3,.int .i64 n,sv l,.slice A a.length c] 63)::(O++[])) [] w'->Calls prog 39 #[.slice A2 a.length c2,sv [44]] w' fun e qQ=>e= .returned (sv (CU false a))/\Below w'.heap.size w' qQ:=fun w' h=>by
     exact YcA
    exact Ya8
  |cons k1 n1 s1 a1 R=>
   simp only[Ts.length]at vP;obtain⟨b5,o5,rfl,Kx⟩:=Sl.at_ (D:=D) (R:= .cons k1 n1 s1 a1 R) YaK YS;obtain⟨_,p0,p1,p2,⟨v',p3,pW⟩,_⟩:=Q6.1 Kx;obtain⟨A6,c6,rfl,pW⟩:=pW.form;have wC:FA (.cons k1 n1 s1 a1 R):=Qt6 (D:=D) YaL;have pS:a.nodes=D.nodes+(Ts.cons k1 n1 s1 a1 R).nodes:=by rw[hD,Ts.nodes_app]
   simp only[Ts.nodes]at pS;have oW:=Qul (D:=D) (r:=R) (k:=k1) (n:=n1) (s:=s1) (a:=a1) false;rw[<-hD]at oW;have qY:=hl;rw[wT,XB Ya]at qY;simp only[XG,XJ,XP]at qY;have Rm:∀w',Below w.heap.size w w'->_:=fun w' h=>ih0 a1 Ya k1 n1 s1 _ w' (pW.below h) wC.1 wC.2.1 Ya Ya;apply Zq.cB.cF.cE.R.1;clear hS;intro b2 pP hS;apply Zq.d.1;clear hS;intro pM hS;apply Zq.b.u.cE.F.1;refine XE (Rm _ hS.ext.below) ?_;rintro _ w3 ⟨rfl,oZ⟩;apply Zq.a.1;replace hS:=hS.grow oZ;apply Zq.bH.1;clear hS;intro b3 sR hS;apply Zq.mC.1;clear hS;intro v5 O5 w5 pK hS;apply Zq.dN.1;refine ih (R) _ _ _ _ ?_ ?_ Yb Yb Yc
   .simp[Ts.length]
   .exact Ybk
theorem Qmk(a:Ts):QrX a:=by
 have key:∀m,∀T:Ts,T.nodes<=m->QrX T:=by
  intro m
  induction m with
  |zero=>exact fun T h=>Qic 0 (fun U hU=>absurd hU (Nat.not_lt_zero _)) T h
  |succ m ih=>exact fun T h=>Qic (m+1) (fun U hU=>ih U Ya) T h
 exact key _ a (XF _)
end Go.Proofs.YthliapbflkfdiacGreatDoor
namespace Go.Proofs
open YthliapbflkfdiacGreatDoor
open Go.Shelf
end Go.Proofs
namespace Go.Proofs.YthliapbflkfdiacGreatDoor
open Go.Proofs.Tryz
open Go.RowKit Go.Shelf
theorem Qu2{M:T6}{w0 w:TG}{H O:T0}{F:T3}{el:Nat}{A:T4}{c:Nat}(xs:List AA)(hx:0<xs.length)(oE:Row el 1 (.slice A xs.length c) xs.length (xs.map sv) O)(hn:xs.length<=1048577)(hl:(Lib.join xs [32]).length<=1073741824)(hS:St M w0 (O++H) F w):
  Calls prog 39 #[.slice A xs.length c,sv [32]] w fun e w'=>e= .returned (sv (Lib.join xs [32]))/\Below w.heap.size w w':=by
 have pQ:=oE.cap;obtain⟨g,sp,rfl,rfl,_⟩:=oE.some_ hx;have hb:=hS.own _ (X8 ..)
 have e1:(xs.map fun l=>(⟨l.toArray⟩:TJ)).map (·.data.toList)=xs:=by
  rw[VY];exact List.map_id xs
 have e2:(⟨#[32]⟩:TJ).data.toList=[32]:=rfl;have h:=Any.strings_Join Tryz.lays156 QlG g 0 c (xs.map fun l=>(⟨l.toArray⟩:TJ)) ⟨#[32]⟩ w (fun j x hj=> ?_) (IW hb) (by simpa using(by omega:xs.length<=140737488355328)) (by simpa using pQ) (by rw[e1,e2];omega)
 .rw[e1,e2,VQ]at h;exact h
 .rw[Qs hb,XQ];rw[VW]at hj
  cases hxj:xs[j]? with
  |none=>rw[hxj]at hj;cases hj
  |some l=>
   exact Ycb
def G8:Nat->Ts->List AA
 |_,.nil=>[]
 |i,.cons k n s a r=>(Lib.itoa (i:Nat)++[61]++FQ k n s.data.toList a)::G8 (i+1) r
theorem Qlt:∀(i:Nat) (D R:Ts),G8 i (D.app R)=G8 i D++G8 (i+D.length) R
 |i,.nil,R=>by simp[Ts.app,G8,Ts.length]
 |i,.cons k n s a r,R=>by
  have:=Qlt (i+1) r R;simp only[Ts.app,G8,this,Ts.length,VI];rw[show i+1+r.length=i+(r.length+1) by omega]
theorem Qls:∀(i:Nat) (T:Ts),(G8 i T).length=T.length
 |i,.nil=>rfl
 |i,.cons k n s a r=>by simp only[G8,XJ,Ts.length,Qls]
theorem Quo(k n:Int)(s:TJ)(a:Ts):CU false (.cons k n s a .nil)=FQ k n s.data.toList a:=by simp[CU,FQ]
theorem QjQ:∀(i:Nat) (T:Ts),Lib.joinTail [32] (G8 i T)=DL i T
 |i,.nil=>rfl
 |i,.cons k n s a r=>by
  have h:=QjQ (i+1) r;have:Lib.joinTail [32] (G8 i (.cons k n s a r))=[32]++(Lib.itoa (i:Nat)++[61]++FQ k n s.data.toList a)++Lib.joinTail [32] (G8 (i+1) r):=by simp[Lib.joinTail,G8]
  rw[this,h,DL,Quo];simp
theorem QpE(T:Ts):Lib.join ([121,101,115]::G8 0 T) [32]=[121,101,115]++DL 0 T:=by
 rw[Lib.join_cons,QjQ]
theorem QwB{D R:Ts}(h:FA (D.app R)):FA R:=by
 induction D with
 |nil=>exact h
 |cons k n s a r _ ih=>exact ih h.2.2
theorem Qtp{D r:Ts}{k n:Int}{s:TJ}{a:Ts}:(FQ k n s.data.toList a).length+(Lib.itoa (D.length:Nat)).length+2<=(DL 0 (D.app (.cons k n s a r))).length:=by
 rw[Qiw,XQ,DL,Quo];exact OB
theorem QsI(k:Int)(T:Ts)(v:TH)(w:TG)(hv:Sl w (fun _=>True) v T)(hr:FA T)(hN:T.nodes<=1048576)(hl:(CS k T).length<=1073741824):
  Calls prog 19 #[.agg #[.int .i64 k,v]] w fun e w'=>e= .returned (sv (CS k T))/\Below w.heap.size w w':=by
 have hS:=St.start w;obtain⟨A,c,rfl,hv⟩:=hv.form;have zU:=T.length_le;refine Qg func19 rfl ntmps19 rfl ?_;by_cases h2:k=2
 .rw[show CS k T=[100,111,110,101] by rw[h2];rfl];apply Zq.w.1;clear hS;intro b1 oQ hS;apply Zq.b9.fS.e.f2.1;exact Yn
 by_cases h3:k=3
 .rw[show CS k T=[102,117,101,108] by rw[h3];rfl];apply Zq.w.1;clear hS;intro b1 oQ hS;apply Zq.b9.dR.fS.e.f2.1;exact Yn
 by_cases h4:k=4
 .rw[show CS k T=[108,97,114,103,101] by rw[h4];rfl];apply Zq.w.1;clear hS;intro b1 oQ hS;apply Zq.b9.cU.fS.e.f2.1;exact Yn
 by_cases h5:k=5
 .rw[show CS k T=[102,97,117,108,116] by rw[h5];rfl];apply Zq.w.1;clear hS;intro b1 oQ hS;apply Zq.b9.cU.dR.fS.e.f2.1;exact Yn
 by_cases h6:k=6
 .rw[show CS k T=[101,110,111,117,103,104] by rw[h6];rfl];apply Zq.w.1;clear hS;intro b1 oQ hS;apply Zq.b9.cU.cU.fS.e.f2.1;exact Yn
 by_cases h1:k=1
 case neg=>
  rw[show CS k T=[] by unfold CS M8;repeat' rw[XA Ye]];apply Zq.w.1;clear hS;intro b1 oQ hS;apply Zq.b9.cU.cU.cU.aW.aX.e.f2.1;exact Yn
 have he:CS k T=[121,101,115]++DL 0 T:=by unfold CS;rw[XB h1]
 rw[he]at hl⊢;rw[XG]at hl;apply Zq.w.1;clear hS;intro b1 oQ hS;apply Zq.b9.cU.cU.dR.dE.bH.1;clear hS;intro _ _ hS;apply Zq.c.b0.aE.aQ.1;refine Qx 24 3 (25::26::27::28::5::4::29::30::31::32::33::34::35::36::37::38::[]) (fun(R:Ts) v u w'=>∃(D:Ts) (A2:T4) (c2:Nat) (O:T0),T=D.app R/\v= .int .i64 (D.length:Nat)/\u= .slice A2 (D.length+1) c2/\Row 9 1 (.slice A2 (D.length+1) c2) (D.length+1) ((([121,101,115]:AA)::G8 0 D).map sv) O/\St [] w (O++[]) [] w') (fun R=>R.length) (T) ?_ Yb Yb ?_
 .exact⟨.nil,_,_,_,rfl,rfl,rfl,Row.built (by simp[G8,Ts.length]) Yd,hS.swap.drop⟩
 clear hS;rintro R _ _ _ jv ⟨D,A2,c2,O,hD,rfl,rfl,oE,hS⟩ ih;have vP:T.length=D.length+R.length:=by rw[hD,Ts.length_app]
 cases R with
 |nil=>
  rw[Ts.app_nil]at hD;subst hD;simp only[Ts.length]at vP;have hj:=QpE T;have tM:(([121,101,115]:AA)::G8 0 T).length=T.length+1:=by rw[XJ,Qls]
  have pR:=oE;rw[<-tM]at pR
  have Xb:∀w',St [] w (O++[]) [] w'->Calls prog 39 #[.slice A2 (T.length+1) c2,sv [32]] w' fun e qQ=>e= .returned (sv ([121,101,115]++DL 0 T))/\Below w'.heap.size w' qQ:=fun w' h=>by
   have:=Qu2 (([121,101,115]:AA)::G8 0 T) Yd pR (by rw[tM];omega) (by rw[hj,XG];omega) h;rw[hj,tM]at this;exact BS
  apply Zq.W.aF.jU.1;rintro _ w3 ⟨rfl,oZ⟩;apply Zq.a.1;replace hS:=hS.grow oZ;apply Zq.c.f2.1;exact Yn
 |cons k1 n1 s1 a1 R=>
  simp only[Ts.length]at vP;obtain⟨b5,_,rfl,Kx⟩:=Sl.at_ (D:=D) (R:= .cons k1 n1 s1 a1 R) YaK YS;obtain⟨_,_,_,_,⟨_,_,pW⟩,_⟩:=Q6.1 Kx;obtain⟨A6,c6,rfl,pW⟩:=pW.form;have wC:FA (.cons k1 n1 s1 a1 R):=QwB (D:=D) YaL;have pS:T.nodes=D.nodes+(Ts.cons k1 n1 s1 a1 R).nodes:=by rw[hD,Ts.nodes_app]
  simp only[Ts.nodes]at pS;have oW:=Qtp (D:=D) (r:=R) (k:=k1) (n:=n1) (s:=s1) (a:=a1);rw[<-hD]at oW
  have aAf:∀{H:T0} {F:T3} (w':TG),St [] w H F w'->Calls prog 37 #[.int .i64 (D.length:Nat)] w' fun e qQ=>e= .returned (sv (Lib.itoa (D.length:Nat)))/\St [] w H F qQ:=fun w' hS=>(Qkh D.length (D.length:Nat) Ya Ya Ya w').mono fun e qQ ⟨he,hw⟩=>⟨he,by rw[hw];exact hS⟩
  have Rm:∀{H:T0} {F:T3} (w':TG),St [] w H F w'->Calls prog 38 #[.agg #[.int .i64 k1,.int .i64 n1,.string s1,.slice A6 a1.length c6]] w' fun e qQ=>e= .returned (sv (FQ k1 n1 s1.data.toList a1))/\St [] w H F qQ:=fun w' hS=>(Qmk a1 k1 n1 s1 _ w' (pW.below hS.ext.below) wC.1 wC.2.1 Ya Ya).mono fun e qQ ⟨he,hb⟩=>⟨he,hS.grow hb⟩
  apply Zq.a8.h.cF.cE.R.1;clear hS;intro _ _ hS;apply Zq.d1.d.1;clear hS;intro _ hS;apply Zq.b.1;refine PX 3 (29::30::31::32::33::34::35::36::37::[]) (fun v w'=>∃(A5:T4) (c5:Nat) (b5:Nat) (ob:Obj) (O5:T0),v= .slice A5 (D.length+1+1) c5/\Row 9 1 (.slice A5 (D.length+1+1) c5) (D.length+1+1) (((([121,101,115]:AA)::G8 0 D).map sv)++[sv (Lib.itoa (D.length:Nat)++[61]++FQ k1 n1 s1.data.toList a1)]) O5/\St [] w ((b5,ob)::(O5++[])) [] w') ?_ ?_
  .intro oF;refine K1 (St _ _ [_] []) 10 (.read 0 (.read 1 (.read 4 (.pick 2 (.read 3 (.pick 5 (.read 6 (.pick 7 (.pick 8 (.read 9 .tail) .none) .none)) .none)) .none)))) Yc Yc hS.drew.bare1 ?_;replace hS:=hS.drew;apply Zq.a7.a7.j5.a0.F.1;refine XE (aAf _ hS) ?_;rintro _ w3 ⟨rfl,oD⟩;apply Zq.a.1;replace hS:=oD;clear oD;apply Zq.iF.kX.a0.F.1;refine XE (Rm _ hS) ?_;rintro _ _ ⟨rfl,oD⟩;apply Zq.a.1;replace hS:=oD;clear oD;apply Zq.iF.kX.a0.bH.1;clear hS;intro _ _ hS;apply Zq.iF.a0.1;refine EQ (sz:=1) (bts:=16) hS Yb rfl rfl rfl rfl oE rfl rfl (List.Perm.cons _ (XK [_] O [])) Ya Ya rfl ?_;clear hS;intro _ O5 _ pK hS;obtain⟨A5,c5,rfl⟩:=pK.form;replace hS:=hS.perm (XK O5 [_] []);apply Zq.iF.dX.eB.b.1;exact oF _ _ _ ⟨A5,c5,_,_,O5,rfl,pK,hS⟩ Yb Yc
  clear hS;rintro jv _ _ ⟨A5,c5,b5,ob,O5,rfl,pK,hS⟩;apply Zq.aZ.1;refine ih (R) _ _ _ _ ?_ ?_ Yb Yb Yc
  .simp[Ts.length]
  .refine⟨D.app (.cons k1 n1 s1 a1 .nil),A5,c5,O5,by rw[Ts.app_assoc];exact hD,by rw[Ts.length_app];simp[Ts.length],by rw[Ts.length_app];simp[Ts.length],?_,hS.drop⟩;rw[Ts.length_app,Qlt,XQ];simpa[Ts.length,G8]using pK
structure EN where
 v:Int
 t:LT
 blk:Nat
def eA:List EN->T4
 |[]=>none
 |x::_=>some ⟨x.blk,0,none⟩
abbrev DQ(E:List EN):TH:= .pointer (eA E)
abbrev ecs(v:Int)(t:LT)(p:TH):T5:=[.int .i64 v,.int .i64 t.k,.int .i64 t.n,.string t.s,.slice t.A t.ar.len t.c,p]
def NG(ty:TypeId):List EN->TG->Prop
 |[],_=>True
 |x::r,w=>w.heap[x.blk]?=some (.cells (ecs x.v x.t (DQ r)).toArray ty)/\BW x.t w/\NG ty r w
def QK(E:List EN):AC:=E.map fun x=>(x.v,x.t.tm)
theorem NG.cells{ty:TypeId}{x:EN}{r:List EN}{w:TG}(h:NG ty (x::r) w):w.cell? ⟨x.blk,0,none⟩=some (.int .i64 x.v)/\w.cell? ⟨x.blk,1,none⟩=some (.int .i64 x.t.k)/\w.cell? ⟨x.blk,2,none⟩=some (.int .i64 x.t.n)/\w.cell? ⟨x.blk,3,none⟩=some (.string x.t.s)/\w.cell? ⟨x.blk,4,none⟩=some (.slice x.t.A x.t.ar.len x.t.c)/\w.cell? ⟨x.blk,5,none⟩=some (DQ r):=by
 have hb:=h.1;refine⟨?_,?_,?_,?_,?_,?_⟩<;>rw[Qs hb]<;>rfl
theorem NG.skip{ty:TypeId}{w:TG}{R:List EN}:∀{D:List EN},NG ty (D++R) w->NG ty R w
 |[],h=>h
 |x::D,h=>NG.skip (D:=D) h.2.2
theorem QrB{c:Int}:∀{E:List EN},(∀x∈E,x.v≠c)->BR c (QK E)=none
 |[],_=>rfl
 |x::r,h=>by
  show BR c ((x.v,x.t.tm)::QK r)=none;simp only[BR];rw[XA fun e=>h x (X8 ..) e.symm];exact QrB fun y hy=>h y (XZ _ hy)
theorem QrA{c:Int}{x:EN}{R:List EN}(hx:x.v=c):∀{D:List EN},(∀x∈D,x.v≠c)->BR c (QK (D++x::R))=some x.t.tm
 |[],_=>by
  show BR c ((x.v,x.t.tm)::QK R)=_;simp only[BR];rw[XB hx.symm]
 |y::D,h=>by
  show BR c ((y.v,y.t.tm)::QK (D++x::R))=_;simp only[BR];rw[XA fun e=>h y (X8 ..) e.symm];exact QrA hx fun z hz=>h z (XZ _ hz)
section
variable{P:Program}{n:Nat}{e:AW}{w:TG}{ty:TypeId}{pos:String}{after:TE}{dst:TD}{x y:Operand}{t t2:TypeId}
theorem Qju{el:TypeId}{q:T4}(hx:ev n e x= .pointer q)(hy:ev n e y= .pointer none)(hT:N0 P t=some el):
  (execOp (ev n e) ⟨dst,.binOp .neq t x y t2,ty,pos,after,none⟩).run P w= .ok (.value (.bool (!q.isNone))) w:=by
 have h1:=QdC (w:=w) (q:=q) hT
 have h2:(execOp (ev n e) ⟨dst,.binOp .neq t x y t2,ty,pos,after,none⟩)=(Op.equal t (.pointer q) (.pointer none)).bind fun r=> .pure (.value (.bool (!r))):=by
  exact YbV
 rw[h2,XN,h1];rfl
theorem QkB{el:TypeId}(hx:ev n e x= .pointer none)(hy:ev n e y= .pointer none)(hT:N0 P t=some el):
  (execOp (ev n e) ⟨dst,.binOp .neq t x y t2,ty,pos,after,none⟩).run P w= .ok (.value (.bool false)) w:=Qju hx hy hT
theorem Qjt{el:TypeId}{a:Addr}(hx:ev n e x= .pointer (some a))(hy:ev n e y= .pointer none)(hT:N0 P t=some el):
  (execOp (ev n e) ⟨dst,.binOp .neq t x y t2,ty,pos,after,none⟩).run P w= .ok (.value (.bool true)) w:=Qju hx hy hT
end
end Go.Proofs.YthliapbflkfdiacGreatDoor
