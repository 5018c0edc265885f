/- Steps of the proof. -/
import Derived.Test.YthliapbflkfdiacGreatDoorG4
set_option linter.unusedVariables false
set_option linter.unusedSimpArgs false
set_option maxRecDepth 100000
set_option maxHeartbeats 1000000
namespace Go.Proofs.YthliapbflkfdiacGreatDoor
open Go.Proofs.Tryz
open Go.RowKit Go.Shelf
def IM(n:Int):AA:=if n<0\/25<n then[90,122]else[UInt8.ofNat (65+n.toNat)]
def DV(k n:Int)(s:AA):AA:=if k=0 then IM n else if k=2 then Lib.itoa n else if k=1\/k=3 then s else[]
theorem QsS(n:Int)(h0:0<=n)(h1:n<=25):Value.string (Utf8.encode (IntKind.i32.wrap (65+n)))=sv (IM n):=by
 obtain⟨m,rfl⟩:∃m:Nat,n=m:=⟨n.toNat,by omega⟩
 have h:∀i:Fin 26,Utf8.encode (IntKind.i32.wrap (65+((i.val:Nat):Int)))=⟨(IM (i.val:Nat)).toArray⟩:=by decide+kernel
 rw[h ⟨m,by omega⟩]
section
variable{M:T6}{w0:TG}{H:T0}{F:T3}{b:Nat}
theorem QsJ(n:Int)(w:TG)(hn: -9223372036854775808<=n/\n<=9223372036854775807):Calls prog 203 #[.int .i64 n] w fun e w'=>e= .returned (sv (IM n))/\w'=w:=by
 by_cases h0:n<0
 .have e1:IM n=[90,122]:=by simp[IM,h0]
  rw[e1];apply Zq.kR.bV.I.aS.H.e.jN.1;exact FI
 .by_cases h1:n>25
  .have e1:IM n=[90,122]:=by grind[IM]
   rw[e1];apply Zq.kR.bV.I.n.S.H.e.jN.1;exact FI
  .apply Zq.kR.bV.I.n.S.N.h.C.iJ.iJ.c.jN.1;grind[QsS]
def QzH(n:Int)(w:TG):Prop:=Calls prog 67 #[.int .i64 n] w fun e w'=>e= .returned (sv (Lib.itoa n))/\Below w.heap.size w w'
theorem QxG(n:Int)(w:TG)(hn: -9223372036854775808<=n/\n<=9223372036854775807)(g:GX w):QzH n w:=by
 refine XE (Any.strconv_Itoa Tryz.laysM171 n hn.1 hn.2 w g.tab) ?_;grind[QlJ]
theorem Qu1(k n:Int)(s:AA)(v:TH)(w:TG)(hn: -9223372036854775808<=n/\n<=9223372036854775807)(hG:∀w',BK M w0 w'->GX w')(hS:St M w0 H F w):
  Calls prog 166 #[.agg #[.int .i64 k,.int .i64 n,sv s,v]] w fun e w'=>e= .returned (sv (DV k n s))/\St M w0 H F w':=by
 by_cases h0:k=0
 .subst h0;rw[show DV 0 n s=IM n by simp[DV]];apply Zq.hM.w.1;clear hS;intro b1 oQ hS;apply Zq.b9.dE.aE.F.1;refine XE (QsJ n _ hn) ?_;rintro _ w1 ⟨rfl,rfl⟩;apply Zq.aJ.hS.1;exact SH
 by_cases h2:k=2
 .subst h2;rw[show DV 2 n s=Lib.itoa n by simp[DV]];apply Zq.hM.w.1;clear hS;intro b1 oQ hS;apply Zq.b9.dR.dE.aE.F.1;refine XE (QxG n _ hn (hG _ hS.ext)) ?_;rintro _ w1 ⟨rfl,qJ⟩;apply Zq.a.1;replace hS:=hS.grow qJ;apply Zq.c.hS.1;exact SH
 by_cases h1:k=1
 .subst h1;rw[show DV 1 n s=s by simp[DV]];apply Zq.hM.w.1;clear hS;intro b1 oQ hS;apply Zq.b9.cU.E.fS.aW.cD.p.a6.c.hS.1;exact SH
 by_cases h3:k=3
 .subst h3;rw[show DV 3 n s=s by simp[DV]];apply Zq.hM.w.1;clear hS;intro b1 oQ hS;apply Zq.b9.cU.E.dR.d8.l.dQ.p.a6.c.hS.1;exact SH
 rw[show DV k n s=[] by grind[DV]];apply Zq.hM.w.1;clear hS;intro b1 oQ hS;apply Zq.b9.cU.E.dR.d8.l.bT.aW.aX.e.hS.1;exact SH
structure Lv where
 v:TH
 T:Ts
 i:Nat
def FO(L:List Lv):T5:=L.flatMap fun x=>[x.v,.int .i64 (x.i:Nat)]
theorem QpM(L L':List Lv):FO (L++L')=FO L++FO L':=by simp[FO]
theorem QuL(L:List Lv):(FO L).length=L.length*2:=by
 induction L with
 |nil=>rfl
 |cons x L ih=>grind[FO]
abbrev KI(L:List Lv)(V:TH)(O:T0):Prop:=Row 227 2 V L.length (FO L) O
def E5(k:Int)(T:Ts):Bool:=G6 k&&decide (0<T.length)
theorem Qkm(p B V:TH)(l s:AA)(k n:Int)(T:Ts)(L:List Lv)(O O2:T0)(v:TH)(w:TG)(hp:P8 b p)(hB:H0 l B O)(hV:KI L V O2)(hn: -9223372036854775808<=n/\n<=9223372036854775807)
  (hG:∀w',BK M w0 w'->GX w') (hv:Sl w (fun _=>True) v T) (hl:l.length+(DV k n s).length+1<=1099511627776) (hL:L.length+1<=1099511627776) (hS:St M w0 ((b,KL p B V)::(O++(O2++H))) F w):
  Calls prog 109 #[DT b,.agg #[.int .i64 k,.int .i64 n,sv s,v]] w fun e w'=>∃B' V' O' Ax,e= .returned (.tuple #[])/\H0 (l++DV k n s++if E5 k T then[40]else[]) B' O'/\KI (if E5 k T then L++[⟨v,T,0⟩]else L) V' Ax/\
   St M w0 ((b,KL (DT b) B' V')::(O'++(Ax++H))) F w':=by
 obtain⟨A,c,rfl,_⟩:=hv.form;clear hv;obtain⟨A2,c2,rfl⟩:=hV.form;obtain⟨_,_,rfl⟩:=hB.form;refine Qh func109 rfl ntmps109 rfl ?_;apply Zq.w.1;clear hS;intro _ _ hS;apply Zq.a2.1;refine QH (St _ w0 [_] _) 6 ((0,true)::(1,true)::(2,true)::(3,true)::(4,false)::(5,false)::[]) Yc Yc (hS.drew.only1) ?_;replace hS:=hS.drew;apply Zq.cA.iU.aR.F.1;refine XE (Qu1 k n s _ _ hn hG hS) ?_;rintro _ _ ⟨rfl,oD⟩;apply Zq.a.1;replace hS:=oD;clear oD;apply Zq.eX.aR.f.1;refine XE (Qi0 p _ _ l _ O A2 _ c2 rfl _ hp hB Ya hS.sink1) ?_;rintro _ _ ⟨B',O',rfl,sN,oD⟩;apply Zq.a.1;replace hS:=oD;clear oD;replace hS:=hS.raise1;apply Zq.eX.aD.cT.cE.F.1;refine XE (QmM k n ⟨s.toArray⟩ _ _) ?_;rintro _ _ ⟨rfl,oZ⟩;apply Zq.a.1;replace hS:=hS.grow oZ;apply Zq.g.1;generalize hg:G6 k=g
 cases g with
 |false=>
  have e1:E5 k T=false:=by simp[E5,hg]
  apply Zq.cG.cG.N.jW.1;exact Ycn
 |true=>
  by_cases hT:0<T.length
  .have e1:E5 k T=true:=by grind[E5]
   apply Zq.j.bI.aK.dA.S.H.bN.f.1;refine XE (Qee (DT b) _ _ _ 40 O' A2 _ c2 rfl _ (.inr rfl) sN Yg hS.sink1) ?_;rintro _ _ ⟨_,O3,rfl,vL,oD⟩;apply Zq.a.1;replace hS:=oD;clear oD;replace hS:=hS.raise1;apply Zq.b.1;refine QH (St _ w0 [_,_] _) 12 ((0,true)::(1,true)::(2,true)::(3,true)::(4,true)::(5,true)::(6,true)::(7,true)::(8,false)::(9,false)::(10,true)::(11,true)::[]) Yc Yc (hS.drew.only2) ?_;replace hS:=hS.drew;apply Zq.a5.aU.b5.aN.eA.aN.1;refine Qe rfl (fun _ hS=>QD (cells:=[_,_]) (.cons Yb .nil) rfl) rfl ?_;apply Zq.aR.h0.1;clear hS;intro _ _ hS;apply Zq.mW.aR.1;refine EQ (sz:=2) (bts:=32) hS Yb rfl rfl rfl rfl (hV) rfl rfl (.cons _ (XK (_::_::O3) O2 H)) Ya Ya rfl ?_;clear hS;intro _ O4 _ sI hS;replace hS:=hS.perm (XK O4 (_::_::O3) H);obtain⟨_,_,rfl⟩:=sI.form;apply Zq.mW.eF.b5.aD.J.1;clear hS;intro _ hS;apply Zq.b.jW.1;exact⟨_,_,O3,O4,rfl,by grind,by grind[FO],hS.drop⟩
  .have e1:E5 k T=false:=by simp[E5,hT]
   apply Zq.j.bI.aK.dA.S.N.jW.1;exact Ycn
theorem QuM(L0:List Lv):0+((((L0.length+1:Nat):Int))-1).toNat*2=(FO L0).length:=by rw[QuL];omega
theorem Qu{g:Nat}{ct:TypeId}{w:TG}{L0:List Lv}{v i:TH}{sp:T5}(hS:St M w0 ((g,.cells (FO L0++v::i::sp).toArray ct)::H) F w):w.cell? ⟨g,0+((((L0.length+1:Nat):Int))-1).toNat*2,none⟩=some v:=by
 rw[QuM,Qs (hS.at_ .head)];simp
theorem Qt{g:Nat}{ct:TypeId}{w:TG}{L0:List Lv}{v i:TH}{sp:T5}(hS:St M w0 ((g,.cells (FO L0++v::i::sp).toArray ct)::H) F w):w.cell? ⟨g,0+((((L0.length+1:Nat):Int))-1).toNat*2+1,none⟩=some i:=by
 rw[QuM,Qs (hS.at_ .head)];simp
theorem FH.at_{i v u:TH}{sp:T5}:∀(l:T5),FH (l++v::i::sp) (l.length+1) u (l++v::u::sp)
 |[]=> .s .z
 |x::l=> .s (FH.at_ l)
theorem Qxx{v i u:TH}{sp:T5}(L0:List Lv):FH (FO L0++v::i::sp) (0+((((L0.length+1:Nat):Int))-1).toNat*2+1) u (FO L0++v::u::sp):=by
 grind[QuM,FH.at_]
theorem KI.top{L0:List Lv}{v V:TH}{T:Ts}{i:Nat}{O2:T0}(h:KI (L0++[⟨v,T,i⟩]) V O2):∃g cap sp,V= .slice (some ⟨g,0,none⟩) (L0.length+1) cap/\O2=[(g,.cells (FO L0++v:: .int .i64 (i:Nat)::sp).toArray 227)]/\L0.length+1<=cap/\
  (∀j:Nat,KI (L0++[⟨v,T,j⟩]) V [(g,.cells (FO L0++v:: .int .i64 (j:Nat)::sp).toArray 227)])/\KI L0 (.slice (some ⟨g,0,none⟩) L0.length cap) O2:=by
 have h':Row 227 2 V (L0.length+1) (FO L0++[v,.int .i64 (i:Nat)]) O2:=by
  have:=h;unfold KI at this;rw[XG,QpM]at this;exact BS
 clear h;generalize hn:L0.length+1=nn at h';generalize hx:FO L0++[v,.int .i64 (i:Nat)]=xs at h'
 cases h' with
 |nil_=>omega
 |own_ h1 h2 h3 h4=>
  rename_i g cap sp;subst hx;have hl:=QuL L0;refine⟨g,cap,sp,by grind,by simp,h3,fun j=> ?_,?_⟩
  .have:Row 227 2 (.slice (some ⟨g,0,none⟩) nn cap) nn (FO L0++[v,.int .i64 (j:Nat)]) [(g,.cells ((FO L0++[v,.int .i64 (j:Nat)])++sp).toArray 227)]:= .own_ Yg YaJ h3 h4;grind[FO]
  .have:Row 227 2 (.slice (some ⟨g,0,none⟩) L0.length cap) L0.length (FO L0) [(g,.cells (FO L0++(v:: .int .i64 (i:Nat)::sp)).toArray 227)]:= .own_ hl YaJ Ya h4;grind
theorem Qr8(B V v:TH)(l:AA)(T:Ts)(L0:List Lv)(O O2:T0)(A:T4)(c:Nat)(w:TG)(hB:H0 l B O)(hV:KI (L0++[⟨v,T,T.length⟩]) V O2)(hv:v= .slice A T.length c)(hl:l.length+1<=1099511627776)(hL:L0.length+1<=1099511627776)
  (hS:St M w0 ((b,KL (DT b) B V)::(O++(O2++H))) F w):
  Calls prog 110 #[DT b] w fun e w'=>∃B' V' O',e= .returned (.tuple #[])/\H0 (l++[41]) B' O'/\KI L0 V' O2/\St M w0 ((b,KL (DT b) B' V')::(O'++(O2++H))) F w':=by
 subst hv;obtain⟨_,_,sp,rfl,rfl,_,_,hV0⟩:=hV.top;obtain⟨_,_,rfl⟩:=hB.form;replace hS:=St.raise1 hS;apply Zq.jV.aT.a6.bQ.c.aT.a6.g.hH.c.E.E.jO.1;replace hS:=hS.drew;apply Zq.aU.cM.aN.cA.aN.eH.f4.aD.v.bN.f.1;refine XE (Qee (DT b) _ _ l 41 O _ _ _ rfl _ (.inr rfl) hB Ya hS.sink1) ?_;rintro _ _ ⟨_,O3,rfl,vL,oD⟩;apply Zq.a.1;replace hS:=oD;clear oD;replace hS:=hS.raise1;apply Zq.cZ.O.a6.g.1;refine Qa (QZ (sz:=2) rfl rfl rfl rfl Ya Ya) rfl ?_;apply Zq.dL.1;clear hS;intro _ hS;apply Zq.b.1;refine QoB func110 rfl  ?_;rw[show((((L0.length+1:Nat):Int))-1).toNat=L0.length by omega]at hS;exact⟨_,_,O3,rfl,vL,hV0,hS.sink1⟩
theorem QtM(B V v:TH)(l:AA)(k n:Int)(s:AA)(D a r:Ts)(L0:List Lv)(O O2:T0)(w:TG)(hB:H0 l B O)(hV:KI (L0++[⟨v,D.app (.cons k n ⟨s.toArray⟩ a r),D.length⟩]) V O2)(hv:Sl w0 (fun _=>True) v (D.app (.cons k n ⟨s.toArray⟩ a r)))
  (hn: -9223372036854775808<=n/\n<=9223372036854775807) (hG:∀w',BK [] w0 w'->GX w') (hl:l.length+(DV k n s).length+2<=1099511627776) (hL:L0.length+2<=1099511627776) (hD:D.length+1<=1099511627776)
  (hS:St [] w0 ((b,KL (DT b) B V)::(O++(O2++H))) F w):
  Calls prog 110 #[DT b] w fun e w'=>∃va B' V' O' Ax,e= .returned (.tuple #[])/\Sl w0 (fun _=>True) va a/\H0 (l++(if 0<D.length then[44]else[])++DV k n s++if E5 k a then[40]else[]) B' O'/\
   KI (if E5 k a then(L0++[⟨v,D.app (.cons k n ⟨s.toArray⟩ a r),D.length+1⟩])++[⟨va,a,0⟩]else L0++[⟨v,D.app (.cons k n ⟨s.toArray⟩ a r),D.length+1⟩]) V' Ax/\St [] w0 ((b,KL (DT b) B' V')::(O'++(Ax++H))) F w':=by
 obtain⟨A,c,rfl,hv⟩:=hv.form;obtain⟨_,o,rfl,vV⟩:=Sl.at_ hv YS;obtain⟨_,q0,q1,q2,⟨va,q3,Gi⟩,_⟩:=Q6.1 vV
 have oG:(D.app (.cons k n ⟨s.toArray⟩ a r)).length=D.length+(r.length+1):=by rw[Ts.length_app];rfl
 rw[show o+D.length*4=o+(((D.length:Nat):Int)+1-1).toNat*4 by omega]at q0 q1 q2 q3;obtain⟨_,_,sp,rfl,rfl,_,sC,_⟩:=hV.top;obtain⟨_,_,rfl⟩:=hB.form;replace hS:=St.raise1 hS;by_cases hD0:0<D.length
 .rw[XB hD0];apply Zq.jV.aT.a6.bQ.c.aT.a6.g.hH.c.E.E.jO.1;replace hS:=hS.drew;apply Zq.aU.cM.aN.cA.aN.eH.f4.aD.D.aH.aE.S.v.u.bL.f.1;refine XE (Qee (DT b) _ _ l 44 O _ _ _ rfl _ (.inr rfl) hB Ya hS.sink1) ?_;rintro _ _ ⟨_,O3,rfl,vL,oD⟩;apply Zq.a.1;replace hS:=oD;clear oD;replace hS:=hS.raise1;obtain⟨A2,c2,rfl⟩:=vL.form;apply Zq.dT.aE.C.O.L.mA.1;clear hS;intro w5 hS;apply Zq.b.lW.1;replace hS:=hS.drew;apply Zq.a5.cA.aN.aU.cM.aN.iI.hO.iU.aD.f.1;refine XE (Qkm (DT b) _ _ _ s k n a _ O3 _ va _ (.inr rfl) vL (sC (D.length+1)) hn hG (Gi.below hS.ext.below) Yg Yg hS.sink1) ?_;exact Yb6
 .rw[XA hD0,VF];apply Zq.jV.aT.a6.bQ.c.aT.a6.g.hH.c.E.E.jO.1;replace hS:=hS.drew;apply Zq.aU.cM.aN.cA.aN.eH.f4.aD.D.aH.aE.S.D.aT.aE.C.O.L.mA.1;clear hS;intro w5 hS;apply Zq.b.lW.1;replace hS:=hS.drew;apply Zq.a5.cA.aN.aU.cM.aN.iI.hO.iU.aD.f.1;refine XE (Qkm (DT b) _ _ _ s k n a _ O _ va _ (.inr rfl) hB (sC (D.length+1)) hn hG (Gi.below hS.ext.below) Yg Yg hS.sink1) ?_;exact Yb6
end
def CU(c:Bool):Ts->AA
 | .nil=>[]
 | .cons k n s a r=>(if c then[44]else[])++DV k n s.data.toList++(if E5 k a then 40::(CU false a++[41])else[])++CU true r
def FA:Ts->Prop
 | .nil=>True
 | .cons k n s a r=>(-9223372036854775808<=n/\n<=9223372036854775807)/\FA a/\FA r
abbrev Lw:=TH×Ts×Ts
def lev:List Lw->List Lv
 |[]=>[]
 |(v,D,R)::K=>lev K++[⟨v,D.app R,D.length⟩]
def ME:List Lw->AA
 |[]=>[]
 |(v,D,R)::K=>CU (decide (0<D.length)) R++41::ME K
def work:List Lw->Nat
 |[]=>0
 |(v,D,R)::K=>1+2*R.nodes+work K
theorem QuX:∀K:List Lw,(lev K).length<=(ME K).length
 |[]=>XF _
 |(v,D,R)::K=>by have:=QuX K;grind[lev,ME]
theorem Qxk(D:Ts)(k n:Int)(s:TJ)(a:Ts):(D.app (.cons k n s a .nil)).length=D.length+1:=by rw[Ts.length_app];rfl
def QzD(w0:TG)(N:Nat)(x:Lw):Prop:=Sl w0 (fun _=>True) x.1 (x.2.1.app x.2.2)/\(x.2.1.app x.2.2).nodes<=N/\FA x.2.2
theorem Quh(k n:Int)(s:AA)(a:Ts)(v:TH)(w0:TG)(hG:∀w',BK [] w0 w'->GX w')(hv:Sl w0 (fun _=>True) v a)(hn: -9223372036854775808<=n/\n<=9223372036854775807)(hr:FA a)(hN:a.nodes<=1048576)
  (oG:(CU false (.cons k n ⟨s.toArray⟩ a .nil)).length<=1073741824):
  Calls prog 68 #[.agg #[.int .i64 k,.int .i64 n,sv s,v]] w0 fun e w'=>e= .returned (sv (CU false (.cons k n ⟨s.toArray⟩ a .nil)))/\Below w0.heap.size w0 w':=by
 have hS:=St.start w0
 have e0:CU false (.cons k n ⟨s.toArray⟩ a .nil)=DV k n s++if E5 k a then 40::(CU false a++[41])else[]:=by simp[CU]
 rw[e0]at oG⊢
 have aHu:(DV k n s).length<=1073741824:=by grind
 obtain⟨A,c,rfl,hv⟩:=hv.form;refine Qg func68 rfl ntmps68 rfl ?_;apply Zq.w.1;clear hS;intro _ _ hS;apply Zq.c.p.1;refine Qa (QD (cells:=[_,_,_]) .nil rfl) rfl ?_;apply Zq.d3.1;clear hS;intro b2 _ hS;apply Zq.b4.cE.f.1;refine XE (Qkm (.pointer none) _ _ [] s k n a [] [] [] _ _ (.inl rfl) .nil_ .nil_ hn hG (hv.below hS.ext.below) Yg Yd hS) ?_;rintro _ w1 ⟨B1,V1,O1,O2,rfl,Nj,sQ,oD⟩;apply Zq.a.1;replace hS:=oD;clear oD;generalize Xy:DV k n s++(if E5 k a then 40::(CU false a++[41])else[])=tot at oG⊢
 obtain⟨H,hS⟩:∃H,St [] w0 ((b2,KL (DT b2) B1 V1)::(O1++(O2++H))) [] w1:=⟨_,hS⟩
 apply Zq.a2.c7.1;refine QhK  (9::10::11::12::13::14::15::16::[]) (fun(x:AA×List Lw) w'=>∃B V O O2,H0 x.1 B O/\KI (lev x.2) V O2/\St [] w0 ((b2,KL (DT b2) B V)::(O++(O2++H))) [] w'/\x.1++ME x.2=tot/\∀y∈x.2,QzD w0 a.nodes y) (fun x=>work x.2) ((DV k n s++(if E5 k a then[40]else[]),if E5 k a then[(.slice A a.length c,.nil,a)]else[])) ?_ ?_
 .refine⟨B1,V1,O1,O2,Nj,?_,hS,?_,?_⟩
  .generalize E5 k a=g at sQ⊢;cases g<;>exact sQ
  .rw[<-Xy];generalize E5 k a=g;cases g<;>simp[ME,Ts.length]
  .generalize E5 k a=g
   cases g with
   |false=>simp
   |true=>
    intro y hy;obtain rfl:y=_:=by simpa using hy
    exact⟨hv,XF _,hr⟩
 clear hS Nj sQ;rintro⟨l,K⟩ _ _ ⟨B,V,O,O2,hB,hV,hS,xB,hK⟩ ih;simp only at hB hV hS xB hK ih;obtain⟨_,_,rfl⟩:=hB.form
 cases K with
 |nil=>
  obtain⟨A2,c2,hVe⟩:=Row.form hV;obtain rfl:V= .slice A2 0 c2:=hVe;apply Zq.dF.bP.bE.bN.1
  have hl:l.length<=1099511627776:=by grind
  apply Zq.F.1;refine XE (Qr7 (DT b2) _ _ l O A2 0 c2 rfl _ hB hl hS) ?_;rintro _ w3 ⟨rfl,oD⟩;apply Zq.a.1;replace hS:=oD;clear oD;apply Zq.c.1;refine Qd func68 rfl Yb ?_;grind[ME,BK.below,St.ext]
 |cons x K=>
  obtain⟨u,D,R⟩:=x;have zL:KI (lev K++[⟨u,D.app R,D.length⟩]) V O2:=hV;obtain⟨hu,Xz,hR⟩:=hK (u,D,R) (.head _);simp only at hu Xz hR;have xL:=QuX K
  have Nk:l.length+((CU (decide (0<D.length)) R).length+(ME K).length+1)<=1073741824:=by grind[ME]
  have hDn:=D.length_le;rw[Ts.nodes_app]at Xz;obtain⟨g,_,sp,rfl,_,_,_⟩:=zL.top
  cases R with
  |nil=>
   rw[Ts.app_nil]at zL hu;obtain⟨A3,c3,rfl,_⟩:=hu.form;apply Zq.dF.bP.c3.u.F.1;refine XE (Qr8 _ _ _ l D (lev K) O O2 A3 c3 _ hB zL rfl Ya Ya hS) ?_;rintro _ w3 ⟨B',V',O',rfl,sN,sI,oD⟩;apply Zq.a.1;replace hS:=oD;clear oD;apply Zq.b.aX.1;refine ih ((l++[41],K)) _ _ ?_ ?_ Yc
   .grind[work]
   .exact⟨B',V',O',O2,sN,sI,hS,by rw[<-xB];simp[ME,CU],fun y hy=>hK y (.tail _ hy)⟩
  |cons k1 n1 s1 a1 r1=>
   obtain⟨s1,rfl⟩:=Qxs s1;apply Zq.dF.bP.c3.u.1
   have aEm:(DV k1 n1 s1).length<=(CU (decide (0<D.length)) (.cons k1 n1 ⟨s1.toArray⟩ a1 r1)).length:=by grind[CU]
   apply Zq.F.1;refine XE (QtM _ _ _ l k1 n1 s1 D a1 r1 (lev K) O O2 _ hB zL hu hR.1 hG Ya Ya Ya hS) ?_;rintro _ w3 ⟨va,B',V',O',O3,rfl,Gi,sN,sI,oD⟩;apply Zq.a.1;replace hS:=oD;clear oD;apply Zq.b.aX.1
   have uX:(D.app (.cons k1 n1 ⟨s1.toArray⟩ a1 .nil)).app r1=D.app (.cons k1 n1 ⟨s1.toArray⟩ a1 r1):=by rw[Ts.app_assoc];rfl
   have vW:=Qxk D k1 n1 ⟨s1.toArray⟩ a1;generalize D.app (.cons k1 n1 ⟨s1.toArray⟩ a1 .nil)=D1 at uX vW
   have oR:QzD w0 a.nodes (u,D1,r1):=⟨by grind,by grind[Ts.nodes_app],hR.2.2⟩
   have pS:(Ts.cons k1 n1 ⟨s1.toArray⟩ a1 r1).nodes=a1.nodes+r1.nodes+1:=rfl
   have yB:lev ((u,D1,r1)::K)=lev K++[⟨u,D.app (.cons k1 n1 ⟨s1.toArray⟩ a1 r1),D.length+1⟩]:=by grind[lev]
   have tI:decide (0<D1.length)=true:=by grind
   generalize hg:E5 k1 a1=g1 at sI sN;have Pg:l++(CU (decide (0<D.length)) (.cons k1 n1 ⟨s1.toArray⟩ a1 r1)++41::ME K)=tot:=xB
   cases g1 with
   |true=>
    refine ih ((l++(if 0<D.length then[44]else[])++DV k1 n1 s1++[40],(va,.nil,a1)::(u,D1,r1)::K)) _ _ ?_ ?_ Yc
    .grind[work]
    .refine⟨B',V',O',O3,sN,?_,hS,?_,?_⟩
     .show KI (lev ((u,D1,r1)::K)++[_]) V' O3;rw[yB];exact sI
     .grind[Ts.length,ME,CU]
     .intro y hy;rcases XV.1 hy with rfl|hy
      .exact⟨Gi,by show a1.nodes<=_;omega,hR.2.1⟩
      grind
   |false=>
    refine ih ((l++(if 0<D.length then[44]else[])++DV k1 n1 s1,(u,D1,r1)::K)) _ _ ?_ ?_ Yc
    .grind[work]
    grind[ME,CU]
def DL:Nat->Ts->AA
 |_,.nil=>[]
 |i,.cons k n s a r=>(([32]++Lib.itoa (i:Nat))++[61])++CU false (.cons k n s a .nil)++DL (i+1) r
def M8(k:Int):AA:=
 if k=1 then[121,101,115]else if k=2 then[100,111,110,101]else if k=3 then[102,117,101,108]else if k=4 then[108,97,114,103,101]else if k=5 then[102,97,117,108,116]else if k=6 then[101,110,111,117,103,104]else[]
def CS(k:Int)(T:Ts):AA:=if k=1 then[121,101,115]++DL 0 T else M8 k
theorem Qiw:∀(i:Nat) (D R:Ts),DL i (D.app R)=DL i D++DL (i+D.length) R
 |i,.nil,R=>by simp[Ts.app,DL,Ts.length]
 |i,.cons k n s a r,R=>by
  have:=Qiw (i+1) r R;grind[DL,Ts.app,Ts.length]
theorem Qwi(i:Nat)(k n:Int)(s:TJ)(a:Ts):DL i (.cons k n s a .nil)=(([32]++Lib.itoa (i:Nat))++[61])++CU false (.cons k n s a .nil):=by simp[DL]
theorem QnY:∀(l m:AA) (tQ a:Nat),Lib.parseUint10 tQ l= .ok a->Lib.parseUint10 tQ (l++m)=Lib.parseUint10 a m
 |[],m,tQ,a,h=>by
  grind[Lib.parseUint10]
 | c :: r, m, tQ, a, h => by
  simp only[VI,Lib.parseUint10]at h⊢;split at h
  .rename_i hc;rw[XB hc];split at h
   .cases h
   .rename_i h1;rw[XA h1];split at h
    .cases h
    .rename_i h2;rw[XA h2];exact QnY r m _ a h
  .cases h
theorem Qkg(d:Nat)(h:d<10):(UInt8.ofNat (48+d)).toNat=48+d:=by
 rw[UInt8.toNat_ofNat'];omega
theorem Qid(u:Nat)(h:u<9223372036854775808):Lib.parseUint10 0 (Lib.decDigits u)= .ok u:=by
 induction u using Nat.strongRecOn with
 |ind u ih=>
  by_cases wS:u<10
  .rw[JZ wS];grind[Qkg,Lib.parseUint10]
  .rw[Lib.decDigits,WO wS,QnY _ _ _ _ (ih (u/10) Ya Ya)];grind[Qkg,Lib.parseUint10]
theorem ZC(u:Nat):Lib.decDigits u≠[]:=by
 rw[Lib.decDigits];split<;>simp
theorem QlR(u:Nat):∀c∈Lib.decDigits u,AR c=true:=by
 have hd:∀d,d<10->AR (UInt8.ofNat (48+d))=true:=fun d h=>by
  grind[Qkg,AR]
 induction u using Nat.strongRecOn with
 |ind u ih=>
  grind[Lib.decDigits]
theorem Qhz:∀(k u:Nat),u<10^(k+1)->Lib.nDigits u<=k+1
 |0,u,h=>by grind[Lib.nDigits_small]
 |k+1,u,h=>by
  by_cases wS:u<10
  .grind[Lib.nDigits_small]
  .rw[Lib.nDigits_big wS];have:=Qhz k (u/10) (by omega);omega
theorem QyQ(c:UInt8)(h:AR c=true):c.toNat≠43/\c.toNat≠45:=by
 grind[AR]
theorem QvD(n:Int)(h0: -1099511627776<=n)(h1:n<=1099511627776):Lib.atoiAll (Lib.itoa n)= .ok n:=by
 unfold Lib.itoa;split
 .have hp:=Qid n.natAbs Ya;have oN:=ZC n.natAbs;simp only[Lib.atoiAll,Lib.parseMag];grind
 .have hp:=Qid n.toNat Ya
  cases hl:Lib.decDigits n.toNat with
  |nil=>grind[ZC]
  |cons c r=>
   have hc:=QyQ c (QlR n.toNat c (by grind));rw[hl]at hp;simp only[Lib.atoiAll,Lib.parseMag];grind
theorem Quy(n:Int)(h0: -1099511627776<=n)(h1:n<=1099511627776):QX (Lib.itoa n)=some n:=by
 grind[QX,QvD]
def Qz:AA->Nat
 |[]=>0
 |c::r=>
  if BF c||EL c then 1+BL BF r
  else if AR c||(c==45)then 1+BL AR r
  else if([58,45]:AA).isPrefixOf (c::r)then 2
  else if EP.contains c then 1
  else 0
def KB:Nat->AA->List AA
 |0,_=>[]
 |f+1,[]=>[]
 |f+1,c::r=>
  if N4 c then KB f r
  else if Qz (c::r)=0 then[[]]
  else(c::r).take (Qz (c::r))::KB f ((c::r).drop (Qz (c::r)))
def FT(l:AA):List AA:=KB l.length l
theorem Qr1(l:AA):Qz l<=l.length:=by
 cases l with
 |nil=>exact XF _
 |cons c r=>
  grind[OM,Qz]
theorem QdW:∀(n:Nat) (l:AA),l.length<=n->KB n l=FT l:=by
 intro n
 induction n using Nat.strongRecOn with
 | _ n ih =>
  intro l hn
  cases l with
  |nil=>cases n<;>rfl
  |cons c r=>
   obtain⟨m,rfl⟩:∃m,n=m+1:=⟨n-1,by grind⟩
   grind[KB,FT]
theorem Qtk:FT []=[]:=rfl
theorem Qi3{c:UInt8}(r:AA)(h:N4 c=true):FT (c::r)=FT r:=by
 rw[<-QdW (r.length+1) (c::r) Yd,KB,XB h,QdW _ r (XF _)]
theorem QeQ{c:UInt8}(r:AA)(h:N4 c=false)(hw:Qz (c::r)=0):FT (c::r)=[[]]:=by
 rw[<-QdW (r.length+1) (c::r) Yd,KB,XA (by simp[h]),XB hw]
theorem MC{c:UInt8}(r:AA)(h:N4 c=false)(hw:Qz (c::r)≠0):FT (c::r)=(c::r).take (Qz (c::r))::FT ((c::r).drop (Qz (c::r))):=by
 rw[<-QdW (r.length+1) (c::r) Yd,KB,XA (by simp[h]),XA hw,QdW _ _ (by grind)]
structure PS where
 l:List AA
 vars:List AA
 bad:Bool
def PS.has(p:PS)(t:AA):Bool:=p.l.head?==some t
def PS.pop(p:PS):PS:={ p with l:=p.l.tail }
def PS.spoil(p:PS):PS:={ p with bad:=true }
def PS.close(p:PS)(t:AA):PS:=if p.bad then p else if p.has t then p.pop else p.spoil
def PS.var(p:PS)(x:AA):Nat×PS:=if x∈p.vars then(OX p.vars x,p)else(p.vars.length,{ p with vars:=p.vars++[x] })
def ED(d:AA):Nat:=d.foldl (fun n c=>10*n+(c-48).toNat) 0
def FJ(s:AA):AA:=match s with|45::r=>r|_=>s
def E4(s:AA):Option Int:=
 let d:=FJ s
 if d=[]\/13<d.length\/(G1 d=48/\s≠[48])then none
 else if 1099511627776<ED d then none
 else some (if d=s then(ED d:Int)else -(ED d:Int))
def QL(f:PS->Nd×PS):Nat->PS->List Nd×PS
 |0,p=>([],p)
 |fuel+1,p=>if p.bad=false/\p.has [44]=true then
   let a:=f p.pop
   let q:=QL f fuel a.2
   (a.1::q.1,q.2)
  else([],p)
def QO(f:PS->Nd×PS)(t:AA)(p:PS):List Nd×PS:=
 let a:=f p
 let q:=QL f a.2.l.length a.2
 (a.1::q.1,q.2.close t)
def Ql : Nat -> PS -> Nd × PS
 |0,p=>(Nd.zero,p.spoil)
 |d+1,p=>match p.l with
  |[]=>(Nd.zero,p.spoil)
  |[]::_=>(Nd.zero,p.spoil)
  |(c::r)::_=>
   if c::r=[33]then(⟨1,0,[33],.nil⟩,p.pop)
   else if EL c then(⟨0,(p.pop.var (c::r)).1,[],.nil⟩,(p.pop.var (c::r)).2)
   else if(c==45)||AR c then(⟨2,(E4 (c::r)).getD 0,[],.nil⟩,{ p.pop with bad:=p.bad||(E4 (c::r)).isNone })
   else if BF c=false then(Nd.zero,p.spoil)
   else if p.pop.has [40]then
    (⟨3,0,c::r,AJ (QO (Ql d) [41] p.pop.pop).1⟩,(QO (Ql d) [41] p.pop.pop).2)
   else(⟨1,0,c::r,.nil⟩,p.pop)
def QJ(p:PS):List Nd×PS:=QO (Ql 24) [46] p
def Q5(p:PS):List Nd×PS:=if p.bad=false/\p.has [58,45]=true then QJ p.pop else([],p.close [46])
theorem PB(p:PS):p.pop.l.length<=p.l.length:=by simp[PS.pop]
theorem QiT(p:PS)(t:AA):(p.close t).l.length<=p.l.length:=by
 unfold PS.close;split
 .omega
 split
 .exact PB p
 .exact XF _
theorem PA{p:PS}{t:AA}(h:p.has t=true):p.pop.l.length<p.l.length/\p.l=t::p.pop.l:=by
 unfold PS.has at h
 cases hl:p.l with
 |nil=>grind
 |cons x r=>grind[PS.pop]
def SR(f:PS->Nd×PS):Prop:=∀p,(f p).2.l.length<=p.l.length
theorem Qll{f:PS->Nd×PS}(hf:SR f):∀(n:Nat) (p:PS),(QL f n p).2.l.length<=p.l.length
 |0,p=>XF _
 |n+1,p=>by
  unfold QL;split
  .have h1:=Qll hf n (f p.pop).2;have h2:=hf p.pop;grind[PB]
  grind
theorem Qgb{f:PS->Nd×PS}(hf:SR f)(t:AA)(p:PS):(QO f t p).2.l.length<=p.l.length:=by
 have h1:=Qll hf (f p).2.l.length (f p).2;have h2:=hf p;grind[QiT,QO]
theorem QqZ(p:PS)(x:AA):(p.var x).2.l=p.l/\(p.var x).2.bad=p.bad:=by
 grind[PS.var]
theorem PK:∀d,SR (Ql d)
 |0,p=>XF _
 |d+1,p=>by
  unfold Ql;have h1:=PB p;split
  .exact XF _
  .exact XF _
  .rename_i c r q hl;split
   .exact h1
   split
   .grind[QqZ]
   split
   .exact h1
   split
   .exact XF _
   split
   .exact Ydj
   omega
theorem QnN{f:PS->Nd×PS}(hf:SR f):∀(n:Nat) (p:PS),p.l.length<=n->QL f n p=QL f p.l.length p:=by
 intro n
 induction n using Nat.strongRecOn with
 |_ n ih=>
  intro p _;by_cases ht:p.bad=false/\p.has [44]=true
  .have h1:=(PA ht.2).1;have h2:=hf p.pop
   obtain⟨m,rfl⟩:∃m,n=m+1:=⟨n-1,by omega⟩
   obtain⟨l,hl⟩:∃l,p.l.length=l+1:=⟨p.l.length-1,by omega⟩
   grind[QL]
  .have h0:∀k,QL f k p=([],p):=fun k=>by cases k with|zero=>rfl|succ k=>grind[QL]
   grind
theorem Qe5{f:PS->Nd×PS}(hf:SR f){p:PS}(ht:p.bad=false/\p.has [44]=true):QL f p.l.length p=((f p.pop).1::(QL f (f p.pop).2.l.length (f p.pop).2).1,(QL f (f p.pop).2.l.length (f p.pop).2).2):=by
 have h1:=(PA ht.2).1;have h2:=hf p.pop
 obtain⟨l,hl⟩:∃l,p.l.length=l+1:=⟨p.l.length-1,by omega⟩
 grind[QL,QnN]
theorem UB{f:PS->Nd×PS}{p:PS}(ht:¬(p.bad=false/\p.has [44]=true)):QL f p.l.length p=([],p):=by
 cases p.l.length with
 |zero=>rfl
 |succ k=>grind[QL]
theorem QoK(d:AA)(c:UInt8):ED (d++[c])=10*ED d+(c-48).toNat:=by grind[ED]
theorem QyP{c:UInt8}(h:AR c=true):(c-48).toNat<10/\UInt8.ofNat (48+(c-48).toNat)=c:=by
 have hh:∀n:Fin 256,AR (UInt8.ofNat n.val)=true->(UInt8.ofNat n.val-48).toNat<10/\UInt8.ofNat (48+(UInt8.ofNat n.val-48).toNat)=UInt8.ofNat n.val:=by decide+kernel
 exact Ybi
theorem Qpl(d:Nat)(h:d<10):(UInt8.ofNat (48+d)-48).toNat=d:=by
 have hh:∀n:Fin 10,(UInt8.ofNat (48+n.val)-48).toNat=n.val:=by decide+kernel
 exact hh ⟨d,h⟩
theorem Qkc(u:Nat):ED (Lib.decDigits u)=u:=by
 induction u using Nat.strongRecOn with
 |ind u ih=>
  grind[ED,Lib.decDigits,Qpl]
theorem Qsa:∀(l:AA),l=[]\/∃e c,l=e++[c]:=fun l=>by
 rcases Xa5 l with h|⟨e,c,h⟩
 .grind
 grind
theorem Qkf:∀(n:Nat) (d:AA),d.length=n->(∀c∈d,AR c=true)->d≠[]->G1 d≠48->Lib.decDigits (ED d)=d/\0<ED d:=by
 intro n
 induction n with
 |zero=>grind
 |succ n ih=>
  intro d hl hd oN xM;rcases Qsa d with rfl|⟨e,c,rfl⟩
  .grind
  have hc:=QyP (hd c Yd);rw[QoK]
  cases e with
  |nil=>
   have h0:(c-48).toNat≠0:=fun h0=>by
    have:=hc.2;rw[h0]at this;exact xM (by show c=48;grind)
   have e0:ED []=0:=rfl;rw[e0,Nat.mul_zero,XQ,JZ hc.1,hc.2];grind
  |cons x e=>
   have h1:=ih (x::e) (by grind) (fun y hy=>hd y (JO _ hy)) Yd xM;have h2:¬10*ED (x::e)+(c-48).toNat<10:=by omega
   have h3:(10*ED (x::e)+(c-48).toNat)/10=ED (x::e):=by omega
   have h4:(10*ED (x::e)+(c-48).toNat)%10=(c-48).toNat:=by omega
   grind[Lib.decDigits]
theorem Qvk:ED [48]=0:=rfl
theorem Qkd:Lib.decDigits 0=[48]:=by rw[JZ Ya];rfl
theorem Qke(u:Nat)(h:0<u):G1 (Lib.decDigits u)≠48:=by
 induction u using Nat.strongRecOn with
 |ind u ih=>
  by_cases wS:u<10
  .rw[JZ wS];intro e;have:=Qpl u wS;rw[show UInt8.ofNat (48+u)=48 from e]at this;grind
  .rw[Lib.decDigits,WO wS];have h1:=ih (u/10) Ya Ya;have h2:=ZC (u/10)
   cases hl:Lib.decDigits (u/10)with
   |nil=>grind
   |cons x r=>rw[hl]at h1;exact h1
theorem QrJ{c:UInt8}{r:AA}(h:AR c=true):FJ (c::r)=c::r:=by
 unfold FJ;split
 .rename_i e;cases e;exact absurd h Yf
 .rfl
def Qv4(t:AA):Prop:=(t≠[]/\∀c∈t,AR c=true)\/∃r,t=45::r/\r≠[]/\∀c∈r,AR c=true
theorem Qr4{t:AA}{v:Int}(ht:Qv4 t)(h:E4 t=some v):t=Lib.itoa v/\-1099511627776<=v/\v<=1099511627776:=by
 unfold E4 at h;simp only at h;split at h
 .cases h
 rename_i h1;split at h
 .cases h
 rename_i h2;simp only[not_or,not_and]at h1;obtain⟨h11,uB,Kc⟩:=h1;rcases ht with⟨oN,hd⟩|⟨r,rfl,oN,hd⟩
 .cases t with
  |nil=>grind
  |cons c r=>
   have hb:=QrJ (r:=r) (hd c (.head _));rw[hb]at h Kc h2;rw[XB rfl]at h;cases h
   refine⟨?_,by omega,by omega⟩;unfold Lib.itoa;rw[XA Ya,X0];by_cases xM:G1 (c::r)=48
   .grind[Qvk,Qkd]
   .exact(Qkf _ _ rfl hd Yd xM).1.symm
 .have hb:FJ (45::r)=r:=rfl;rw[hb]at h Kc h2
  have Kd:r≠45::r:=fun e=>by grind
  rw[XA Kd]at h;cases h
  have xM:G1 r≠48:=fun e=>absurd (Kc e) Yd;have h5:=Qkf _ _ rfl hd oN xM;grind[Lib.itoa]
theorem Qr5(v:Int)(h0: -1099511627776<=v)(h1:v<=1099511627776):E4 (Lib.itoa v)=some v:=by
 unfold Lib.itoa;split
 .have hd:=Qkc v.natAbs;have hh:=Qke v.natAbs Ya;have hn:=ZC v.natAbs;have hl:=Qhz 12 v.natAbs Ya;rw[<-Lib.decDigits_length]at hl;grind[FJ,E4]
 .have hd:=Qkc v.toNat;have hn:=ZC v.toNat;have hl:=Qhz 12 v.toNat Ya;rw[<-Lib.decDigits_length]at hl
  have hh:G1 (Lib.decDigits v.toNat)=48->Lib.decDigits v.toNat=[48]:=fun e=>by
   grind[Qkd,Qke]
  have pO:=QlR v.toNat;generalize Lib.decDigits v.toNat=d at*
  cases d with
  |nil=>grind
  |cons c r=>
   grind[QrJ,E4]
theorem Qux{t:AA}(ht:Qv4 t):QX t=E4 t:=by
 cases hv:E4 t with
 |some v=>
  obtain⟨e,h0,h1⟩:=Qr4 ht hv;grind[Quy]
 |none=>
  grind[QX,Qr5]
theorem Qpg:E4 [45]=none:=by decide
end Go.Proofs.YthliapbflkfdiacGreatDoor
