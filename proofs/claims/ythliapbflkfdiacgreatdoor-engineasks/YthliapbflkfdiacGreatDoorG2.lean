/- Steps of the proof. -/
import Derived.Test.YthliapbflkfdiacGreatDoorG1
import Derived.Test.YthliapbflkfdiacGreatDoorRows
set_option linter.unusedVariables false
set_option linter.unusedSimpArgs false
set_option maxRecDepth 100000
set_option maxHeartbeats 1000000
namespace Go.Proofs.YthliapbflkfdiacGreatDoor
open Go.Proofs.Tryz
open Go.RowKit
abbrev DZ(s:RS)(V:TH):Obj:= .cells [sv s.token,sv s.rest,V,.int .i64 s.err].toArray 77
abbrev ptr(b:Nat):TH:= .pointer (some ⟨b,0,none⟩)
section
variable{M:T6}{w0:TG}{H:T0}{F:T3}{b:Nat}{A:T4}{vl vc:Nat}
theorem SE(s:RS)(x:Int)(w:TG)(hS:St M w0 ((b,DZ s (.slice A vl vc))::H) F w):
  Calls prog 42 #[ptr b,.int .i64 x] w fun e w'=>e= .returned (.tuple #[])/\St M w0 ((b,DZ (s.fail x) (.slice A vl vc))::H) F w':=by
 refine Qh func42 rfl ntmps42 rfl ?_;apply Zq.aH.cS.l.b.1;refine MI rfl (fun h=> ?_) (fun h=> ?_)
 .have h':s.err=0:=by grind
  apply Zq.cY.O.bI.J.1;clear hS;intro oQ hS;apply Zq.b.cY.bL.J.1;clear hS;intro pP hS;apply Zq.O.L.J.1;clear hS;intro _ hS;apply Zq.b.lD.f0.1;show St M w0 ((b,DZ ⟨[],[],s.vars,if s.err=0 then x else s.err⟩ _)::H) F _;grind
 .have h':¬s.err=0:=by grind
  apply Zq.aW.cY.bL.J.1;clear hS;intro oQ hS;apply Zq.O.L.J.1;clear hS;intro pP hS;apply Zq.b.lD.f0.1;show St M w0 ((b,DZ ⟨[],[],s.vars,if s.err=0 then x else s.err⟩ _)::H) F _;grind
def ML:Prop:=∀(l:AA) (w:TG),l.length<=1048576->Calls prog 112 #[sv l,sv [32,10,13,9]] w fun e w'=>e= .returned (sv (FP l))/\Below w.heap.size w w'
theorem RV(L1:LK)(L2:ML)(s:RS)(w:TG)(hl:s.rest.length<=1048576)(hS:St M w0 ((b,DZ s (.slice A vl vc))::H) F w):
  Calls prog 71 #[ptr b] w fun e w'=>e= .returned (.tuple #[])/\St M w0 ((b,DZ s.adv (.slice A vl vc))::H) F w':=by
 have h1:=QqB s.rest;have h2:=Qnr (FP s.rest);refine Qg func71 rfl ntmps71 rfl ?_;apply Zq.aT.aE.f.1;refine XE (L2 s.rest _ hl) ?_;rintro _ _ ⟨rfl,qJ⟩;apply Zq.a.1;replace hS:=hS.grow qJ;apply Zq.b4.1;by_cases h0:C9 (FP s.rest)=0
 .apply Zq.F.l8.1;rintro _ w2 ⟨rfl,rfl⟩;apply Zq.a.M.l.n.dD.q.b.1;refine MI rfl (fun h=> ?_) (fun h=> ?_)
  .have h':FP s.rest≠[]:=by grind
   apply Zq.aF.fW.1;rintro _ _ ⟨rfl,oD⟩;apply Zq.a.1;replace hS:=oD;clear oD;apply Zq.b.1;refine QoB func71 rfl  ?_;grind[RS.adv]
  .have h':FP s.rest=[]:=by grind
   apply Zq.aW.mE.1;replace hS:=hS.drew;apply Zq.dS.dS.kZ.dS.mH.eF.bC.aR.J.1;clear hS;intro oQ hS;refine PT trivial ?_;apply Zq.eF.cM.aD.J.1;clear hS;intro pP hS;apply Zq.b.nX.f0.1
   grind[RS.adv]
 .apply Zq.F.l8.1;rintro _ w2 ⟨rfl,rfl⟩;apply Zq.a.M.l.aS.N.mE.1;replace hS:=hS.drew;apply Zq.dS.dS.kZ.dS.mH.eF.bC.aR.J.1;clear hS;intro oQ hS;refine PT trivial ?_;apply Zq.eF.cM.aD.J.1;clear hS;intro pP hS;apply Zq.b.nX.f0.1
  grind[RS.adv]
theorem QiA(L1:LK)(L2:ML)(s:RS)(tok:AA)(w:TG)(hl:s.rest.length<=1048576)(hS:St M w0 ((b,DZ s (.slice A vl vc))::H) F w):
  Calls prog 44 #[ptr b,sv tok] w fun e w'=>e= .returned (.tuple #[])/\St M w0 ((b,DZ (s.take tok) (.slice A vl vc))::H) F w':=by
 refine Qh func44 rfl ntmps44 rfl ?_;apply Zq.bU.y.g.dD.b.1;refine MI rfl (fun h=> ?_) (fun h=> ?_)
 .have h':¬s.token=tok:=by grind
  apply Zq.u.f.fW.1;rintro _ _ ⟨rfl,oD⟩;apply Zq.a.1;replace hS:=oD;clear oD;apply Zq.b.u.F.1;refine XE (RV L1 L2 (s.fail 1) _ (by simp[RS.fail]) hS) ?_;rintro _ w4 ⟨rfl,oD⟩;apply Zq.a.1;replace hS:=oD;clear oD;apply Zq.b.mY.f0.1
  grind[RS.take]
 .have h':s.token=tok:=by grind
  apply Zq.aW.u.F.1;refine XE (RV L1 L2 s _ hl hS) ?_;rintro _ w4 ⟨rfl,oD⟩;apply Zq.a.1;replace hS:=oD;clear oD;apply Zq.b.mY.f0.1
  grind[RS.take]
def RS.start(l:AA):RS:=if 2000<l.length then(RS.fail ⟨[],l,[],0⟩ 3).adv else(RS.adv ⟨[],l,[],0⟩)
theorem QgM(L1:LK)(L2:ML)(l:AA)(w:TG)(hl:l.length<=1125899906842624)(hS:St M w0 H F w):
  Calls prog 40 #[sv l] w fun e w'=>∃b,e= .returned (ptr b)/\St M w0 ((b,DZ (RS.start l) (.slice none 0 0))::H) F w':=by
 by_cases h:2000<l.length
 .have e:RS.start l=(RS.fail ⟨[],l,[],0⟩ 3).adv:=by grind[RS.start]
  rw[e];apply Zq.nR.e.h.gT.d3.1;clear hS;intro b1 oQ hS;apply Zq.M.c5.S.v.u.f.1;refine XE (SE ⟨[],l,[],0⟩ 3 _ hS) ?_;rintro _ _ ⟨rfl,oD⟩;apply Zq.a.1;replace hS:=oD;clear oD;apply Zq.b.Z.1;refine XE (RV L1 L2 (RS.fail ⟨[],l,[],0⟩ 3) _ (by simp[RS.fail]) hS) ?_;exact YbO
 .have e:RS.start l=RS.adv ⟨[],l,[],0⟩:=by grind[RS.start]
  rw[e];apply Zq.nR.e.h.gT.d3.1;clear hS;intro b1 oQ hS;apply Zq.M.c5.S.D.Z.1;refine XE (RV L1 L2 ⟨[],l,[],0⟩ _ (by grind) hS) ?_;exact YbO
end
theorem QjP:∀(m l:AA),(decide (m.length<=l.length)&&(l.take m.length==m))=m.isPrefixOf l
 |[],l=>by grind
 |c::m,[]=>by grind
 |c::m,d::l=>by
  have ih:=QjP m l;grind
theorem QdO(l m:AA)(w:TG):Calls prog 207 #[sv l,sv m] w fun e w'=>e= .returned (.bool (m.isPrefixOf l))/\w'=w:=by
 have hp:=QjP m l;by_cases h:m.length<=l.length
 .apply Zq.lL.e.h.c5.g.c5.r.n.t.c5.j.1;refine Qa (Qh5 rfl rfl rfl Ya Y0) rfl ?_;apply Zq.P.V.a9.1;refine Qd func207 rfl Yb ?_;grind
 .apply Zq.lL.e.h.c5.g.c5.r.c8.a9.1;refine Qd func207 rfl Yb ?_;grind
theorem QmK(l m:AA)(w:TG):Calls prog 173 #[sv l,sv m] w fun e w'=>e= .returned (.bool (m.isPrefixOf l))/\w'=w:=by
 refine Qh func173 rfl ntmps173 rfl ?_;apply Zq.e.i.f.1;refine XE (QdO l m _) ?_;rintro _ _ ⟨rfl,rfl⟩;apply Zq.aJ.1;refine Qd func173 rfl Yb ?_;exact FI
def RU(vs:List AA)(x:AA):Int:=if x∈vs then(OX vs x:Nat)else -1
theorem QpX{x:AA}:∀{D:List AA} (R:List AA),x∉D->OX (D++x::R) x=D.length
 |[],R,_=>by simp[OX]
 |v::D,R,h=>by
  have h1:¬v=x:=fun e=>h (by simp[e]);have h2:x∉D:=fun e=>h (by simp[e]);simp only[VI,OX,XA h1,XJ];rw[QpX R h2]
section
variable{M:T6}{w0:TG}{H:T0}{F:T3}{b:Nat}
theorem Qor(vs:List AA)(x:AA)(V:TH)(O:T0)(w:TG)(hr:Row 9 1 V vs.length (vs.map sv) O)(hS:St M w0 (O++H) F w)(hb:vs.length<=1048576):
  Calls prog 174 #[V,sv x] w fun e w'=>e= .returned (.int .i64 (RU vs x))/\w'=w:=by
 obtain⟨A,c,rfl⟩:=hr.form;refine Qh func174 rfl ntmps174 rfl ?_;apply Zq.bV.aQ.1;refine Qp 8 (9::10::5::11::12::13::14::15::16::17::4::18::[]) (fun(R:List AA) v w'=>w'=w/\∃D,vs=D++R/\v= .int .i64 (D.length:Nat)/\x∉D) (fun R=>R.length) (vs) ?_ Yb ?_
 .exact UK
 rintro R _ w1 jv ⟨rfl,D,hD,rfl,hx⟩ ih;have oG:vs.length=D.length+R.length:=by grind
 cases R with
 |nil=>
  simp only[XP]at oG;apply Zq.W.e.l0.eI.1
  grind[RU]
 |cons y r=>
  simp only[XJ]at oG;generalize xE:vs.map sv=xs at hr;generalize Dg:vs.length=vl at*
  cases hr with
  |nil_=>omega
  |own_ h1 h2 h3 tJ=>
   rename_i bl sp
   have oL:w1.cell? ⟨bl,0+((D.length:Nat):Int).toNat*1,none⟩=some (sv y):=by
    have rA:w1.heap[bl]?=some (.cells (xs++sp).toArray 9):=hS.own (bl,_) Yd;rw[Qs rA,<-xE,hD];simp
   apply Zq.a8.aB.i.g.T.y.V.b.1;refine MI rfl (fun h=> ?_) (fun h=> ?_)
   .obtain rfl:x=y:=by grind
    apply Zq.aB.l0.eI.1
    grind[RU,QpX]
   .have h':¬x=y:=by grind
    apply Zq.aW.aZ.1;refine ih (r) _ _ _ ?_ ?_ Yb Yc
    .simp
    .exact⟨rfl,D++[y],by grind,by simp,by grind⟩
end
section
variable{M:T6}{w0 w w':TG}{H:T0}{F:T3}{v:TH}{T:Ts}{p:Nat->Prop}
theorem St.keys_lt(hS:St M w0 H F w){k:Nat}(hk:k∈H.map (·.1)):k<w.heap.size:=by
 obtain⟨q,hq,rfl⟩:=X3.1 hk;exact IW (hS.own q hq)
end
abbrev GC(vs:List AA)(V:TH)(VH:T0):Prop:=Row 9 1 V vs.length (vs.map sv) VH
section
variable{M:T6}{w0:TG}{H:T0}{F:T3}{b:Nat}
theorem Qni(s:RS)(x:AA)(V:TH)(VH:T0)(w:TG)(hV:GC s.vars V VH)(hb:s.vars.length<=1048576)(hS:St M w0 ((b,DZ s V)::(VH++H)) F w):
  Calls prog 115 #[ptr b,sv x] w fun e w'=>∃V' sZ,e= .returned (.int .i64 ((s.var x).1:Nat))/\GC (s.var x).2.vars V' sZ/\St M w0 ((b,DZ (s.var x).2 V')::(sZ++H)) F w':=by
 obtain⟨A,c,rfl⟩:=hV.form;by_cases hx:x∈s.vars
 .have hI:RU s.vars x=(OX s.vars x:Nat):=by grind[RU]
  have e:s.var x=(OX s.vars x,s):=by grind[RS.var]
  have hc:=Qor s.vars x _ VH w hV hS.drop hb;rw[hI]at hc;rw[e];apply Zq.mM.e.aT.a6.g.f.1;refine XE (hc) ?_;rintro _ w1 ⟨rfl,rfl⟩;apply Zq.a.M.c1.aB.1;refine Qd func115 rfl Yb ?_;grind
 .have hI:RU s.vars x= -1:=by grind[RU]
  have e:s.var x=(s.vars.length,{ s with vars:=s.vars++[x] }):=by grind[RS.var]
  have hc:=Qor s.vars x _ VH w hV hS.drop hb;rw[hI]at hc;rw[e];apply Zq.mM.e.aT.a6.g.f.1;refine XE (hc) ?_;rintro _ w1 ⟨rfl,rfl⟩;apply Zq.a.M.I.v.aT.a6.aC.c.cY.O.a6.g.bH.1;clear hS;intro _ _ hS;refine EQ (sz:=1) (bts:=16) hS Yb rfl rfl rfl rfl (hV) rfl rfl (.cons _ VP.symm) Ya Ya rfl ?_;clear hS;intro V' sZ _ zL hS;replace hS:=hS.raise;obtain⟨_,_,rfl⟩:=zL.form;apply Zq.dL.1;clear hS;intro _ hS;apply Zq.b.aB.1;refine Qd func115 rfl Yb ?_;grind
def SP (num : AA -> Option Int) (G : TG -> Prop) : Prop := ∀ (tok : AA) (s : RS) (A : T4) (vl vc : Nat) (M : T6) (w0 w : TG) (H : List (Nat × Obj)) (F : List (TG -> Prop)) (b : Nat), (∀ w', BK M w0 w' -> G w') -> tok.length <= 1048576 -> St M w0 ((b, DZ s (.slice A vl vc)) :: H) F w ->
    Calls prog 119 #[ptr b,sv tok] w fun e w'=>e= .returned (.int .i64 (s.number num tok).1)/\St M w0 ((b,DZ (s.number num tok).2 (.slice A vl vc))::H) F w'
def Qm1 (num : AA -> Option Int) (G : TG -> Prop) (d : Nat) : Prop := ∀ (s : RS) (V : TH) (VH : List (Nat × Obj)) (M : T6) (w0 w : TG) (H : List (Nat × Obj)) (F : List (TG -> Prop)) (b : Nat), (∀ w', BK M w0 w' -> G w') ->
    s.left<=1048576->s.vars.length+s.left<=1048576->GC s.vars V VH->St M w0 ((b,DZ s V)::(VH++H)) F w->
    Calls prog 72 #[ptr b,.int .i64 (d:Nat)] w fun e w'=>∃v V' sZ,e= .returned (.agg #[.int .i64 (QI num d s).1.k,.int .i64 (QI num d s).1.n,sv (QI num d s).1.s,v])/\
     GC (QI num d s).2.vars V' sZ/\St M w0 ((b,DZ (QI num d s).2 V')::(sZ++H)) ((fun w=>Sl w (fun _=>True) v (QI num d s).1.ar)::F) w'
def Qhf (num : AA -> Option Int) (G : TG -> Prop) (d : Nat) : Prop := ∀ (s : RS) (V : TH) (VH : List (Nat × Obj)) (M : T6) (w0 w : TG) (H : List (Nat × Obj)) (F : List (TG -> Prop)) (b : Nat), (∀ w', BK M w0 w' -> G w') ->
    s.left<=1048576->s.vars.length+s.left<=1048576->GC s.vars V VH->St M w0 ((b,DZ s V)::(VH++H)) F w->
    Calls prog 43 #[ptr b,.int .i64 (d:Nat)] w fun e w'=>∃v V' sZ,e= .returned v/\
     GC (QY (QI num d) s).2.vars V' sZ/\St M w0 ((b,DZ (QY (QI num d) s).2 V')::(sZ++H)) ((fun w=>Sl w (fun _=>True) v (AJ (QY (QI num d) s).1))::F) w'
theorem Qiv(s:RS)(x:AA):(s.var x).2.left=s.left/\(s.var x).2.vars.length<=s.vars.length+1:=by
 grind[RS.left,RS.var]
theorem Qdn(num:AA->Option Int)(s:RS)(x:AA):(s.number num x).2.left<=s.left/\(s.number num x).2.vars=s.vars:=by
 grind[RS.left,RS.number,RS.fail]
theorem NJ(s:RS):s.adv.vars=s.vars:=by
 unfold RS.adv;simp only;split<;>rfl
theorem P7(s:RS)(t:AA):(s.take t).vars=s.vars:=by
 unfold RS.take;split
 .exact NJ s
 .rw[NJ];rfl
def RW(f:RS->Nd×RS):Prop:=∀s,(f s).2.left<=s.left/\(f s).2.vars.length+(f s).2.left<=s.vars.length+s.left
theorem Qoj{f:RS->Nd×RS}(hf:RW f):∀(n:Nat) (s:RS),(C7 f n s).2.left<=s.left/\(C7 f n s).2.vars.length+(C7 f n s).2.left<=s.vars.length+s.left
 |0,s=>by simp[C7]
 |n+1,s=>by
  unfold C7;split
  .rename_i h;have h1:=K9 s (by grind);have h2:=hf s.adv;have h3:=Qoj hf n (f s.adv).2;grind[NJ]
  .simp
theorem Z0{f:RS->Nd×RS}(hf:RW f)(s:RS):(QY f s).2.left<=s.left/\(QY f s).2.vars.length+(QY f s).2.left<=s.vars.length+s.left:=by
 unfold QY;have h2:=hf s;grind[Qoj]
theorem NL(num:AA->Option Int):∀d,RW (QI num d)
 |0,s=>by simp[QI,RS.fail,RS.left]
 |d+1,s=>by
  unfold QI;split
  .simp[RS.fail,RS.left]
  .rename_i ht;have h1:=K9 s ht;have hv:=NJ s;simp only;split
   .grind[Qiv]
   split
   .have h4:=take_left s.adv [40];have h5:=P7 s.adv [40];have h6:=Z0 (NL num d) (s.adv.take [40]);grind[take_left,P7]
   grind[RS.left,RS.fail,Qdn]
theorem QuR{f:RS->Nd×RS}(hf:RW f):∀(n:Nat) (s:RS),s.left<=n->C7 f n s=C7 f s.left s:=by
 intro n
 induction n using Nat.strongRecOn with
 |_ n ih=>
  intro s _;by_cases ht:s.token=[44]
  .have h1:=K9 s RP;have h2:=hf s.adv
   obtain⟨m,rfl⟩:∃m,n=m+1:=⟨n-1,by omega⟩
   obtain⟨l,hl⟩:∃l,s.left=l+1:=⟨s.left-1,by omega⟩
   grind[C7]
  .have h0:∀k,C7 f k s=([],s):=fun k=>by cases k<;>simp[C7,ht]
   grind
theorem Qoi{f:RS->Nd×RS}(hf:RW f){s:RS}(ht:s.token=[44]):C7 f s.left s=((f s.adv).1::(C7 f (f s.adv).2.left (f s.adv).2).1,(C7 f (f s.adv).2.left (f s.adv).2).2):=by
 have h1:=K9 s RP;have h2:=hf s.adv
 obtain⟨l,hl⟩:∃l,s.left=l+1:=⟨s.left-1,by omega⟩
 grind[C7,QuR]
theorem Z8{f:RS->Nd×RS}{s:RS}(ht:¬s.token=[44]):C7 f s.left s=([],s):=by
 cases s.left<;>simp[C7,ht]
theorem Qix:∀(a b:List Nd),AJ (a++b)=(AJ a).app (AJ b)
 |[],b=>rfl
 |x::a,b=>by simp only[VI,AJ,Ts.app,Qix a b]
theorem Qdk:∀l:List Nd,(AJ l).length=l.length
 |[]=>rfl
 |x::r=>by simp[AJ,Ts.length,Qdk r]
theorem St.conv{φ ψ:TG->Prop}{w:TG}(h:St M w0 H (φ::F) w)(hp:∀w,φ w->ψ w):St M w0 H (ψ::F) w:=
 ⟨h.own,h.apart,h.ext,h.new,fun χ hχ w2 hw=>by
  rcases XV.1 hχ with rfl|hχ
  .exact hp _ (h.facts φ (X8 ..) w2 hw)
  grind[facts]⟩
theorem St.conv2{φ χ ψ:TG->Prop}{w:TG}(h:St M w0 H (φ::χ::F) w)(hp:∀w,φ w->χ w->ψ w):St M w0 H (ψ::F) w:=
 ⟨h.own,h.apart,h.ext,h.new,fun ξ hξ w2 hw=>by
  rcases XV.1 hξ with rfl|hξ
  .exact hp _ (h.facts φ (X8 ..) w2 hw) (h.facts χ (XZ _ (X8 ..)) w2 hw)
  grind[facts]⟩
theorem St.shut{v:TH}{xs:T5}{O:T0}{T:Ts}{w:TG}{el:Nat}(hr:Row el 4 v T.length xs O)(hS:St M w0 (O++H) ((fun w=>Cs w (fun _=>True) T xs)::F) w):
  St M w0 H ((fun w=>Sl w (fun _=>True) v T)::F) w:=by
 have hC:=hS.facts _ (X8 ..);have hb:=(hS.unlearn.dropL).learn (φ:=fun w=>Sl w (fun _=>True) v T) fun w' hx=> ?_
 .exact hb
 generalize hl:T.length=tl at hr
 cases hr with
 |nil_=>exact⟨none,0,by rw[hl],by omega,fun h=>by omega⟩
 |own_ h1 h2 h3 tJ=>
  rename_i bl cap sp;have rA:w.heap[bl]?=some (.cells (xs++sp).toArray el):=hS.own (bl,_) Yd
  have On:bl∉H.map (·.1):=fun hk=>by
   exact YbW
  have Jt:w'.heap[bl]?=some (.cells (xs++sp).toArray el):=by grind[BK.block]
  have AP:=hC w' (hx.mono fun k _ hk=>by grind);refine⟨_,cap,by rw[hl],by omega,fun _=>⟨bl,0,rfl,Cs.seg AP (fun _=>trivial) fun j u hj=> ?_⟩⟩
  have tX:j<xs.length:=by
   grind
  rw[Qs Jt,XQ,VO tX];exact hj
theorem Qnt(num:AA->Option Int)(G:TG->Prop)(L1:LK)(L2:ML)(d:Nat)(hd:d<=100)(ht:Qm1 num G d):Qhf num G d:=by
 intro s V VH M w0 w H F b hG hl qY hV hS;have hf:=NL num d;obtain⟨A,c,rfl⟩:=hV.form;refine Qh func43 rfl ntmps43 rfl ?_;apply Zq.e.i.f.1;refine XE (ht s _ VH M w0 _ H F b hG hl qY hV hS) ?_;rintro _ _ ⟨v,V1,zM,rfl,sQ,oD⟩;apply Zq.a.1;replace hS:=oD;clear oD;obtain⟨A1,c1,rfl,_⟩:=(hS.fact (.head _)).form;apply Zq.dZ.1;clear hS;intro _ _ hS;apply Zq.c2.1;have hi:QY (QI num d) s=([(QI num d s).1]++(C7 (QI num d) (QI num d s).2.left (QI num d s).2).1,(C7 (QI num d) (QI num d s).2.left (QI num d s).2).2):=rfl;have xF:=hf s;generalize hr:QI num d s=r at*;obtain⟨nd,s1⟩:=r
 have Oo:=(St.sink (L:=(b,DZ s1 V1)::zM) hS).conv (ψ:=fun w=>Cs w (fun _=>True) (AJ [nd]) [.int .i64 nd.k,.int .i64 nd.n,sv nd.s,.slice A1 nd.ar.length c1]) fun w h=>⟨_,[],rfl,h,rfl⟩
 clear hS;have Ju:QY (QI num d) s=([nd]++(C7 (QI num d) s1.left s1).1,(C7 (QI num d) s1.left s1).2):=hi;clear hi;refine Qp 5 (10::11::12::13::14::15::16::17::18::19::20::21::22::[]) (fun(x:List Nd×RS) v w'=>∃V VH O xs,GC x.2.vars V VH/\Row 63 4 v x.1.length xs O/\St M w0 ((b,DZ x.2 V)::(VH++(O++H))) ((fun w=>Cs w (fun _=>True) (AJ x.1) xs)::F) w'/\x.1.length+x.2.left<=1048577/\x.2.left<=1048576/\x.2.vars.length+x.2.left<=1048576/\QY (QI num d) s=(x.1++(C7 (QI num d) x.2.left x.2).1,(C7 (QI num d) x.2.left x.2).2)) (fun x=>x.2.left) (([nd],s1)) ?_ Yb ?_
 .exact⟨V1,zM,_,_,sQ,Row.built rfl Ya,Oo,by grind,by grind,by grind,Ju⟩
 clear Oo Ju sQ;rintro⟨D,s2⟩ _ _ _ ⟨_,xG,O2,Gn,sI,tY,hS,uX,vW,Jv,hi⟩ ih;simp only at sI tY hS uX vW Jv hi;obtain⟨A2,c2,rfl⟩:=sI.form;obtain⟨_,_,rfl⟩:=tY.form;apply Zq.bU.y.V.b.1;refine MI rfl (fun h=> ?_) (fun h=> ?_)
 .have h':s2.token=[44]:=by grind
  have pU:=K9 s2 (by grind)
  have qH:s2.rest.length<=1048576:=by unfold RS.left at vW;omega
  have hv:=NJ s2;apply Zq.eM.Z.1;refine XE (RV L1 L2 s2 _ qH hS) ?_;rintro _ _ ⟨rfl,oD⟩;apply Zq.a.1;replace hS:=oD;clear oD;apply Zq.b.u.aO.f.1;refine XE (ht s2.adv _ xG M w0 _ (O2++H) _ b hG Ya (by grind) (by grind) hS) ?_;rintro _ _ ⟨v,V3,uY,rfl,wL,oD⟩;apply Zq.a.1;replace hS:=oD;clear oD;obtain⟨A3,c3,rfl,_⟩:=(hS.fact (.head _)).form;have oM:=Qoi hf h';have Oq:=hf s2.adv;rw[hv]at Oq;generalize QI num d s2.adv=r3 at*;obtain⟨Mz,s3⟩:=r3;simp only at*;apply Zq.dZ.1;clear hS;intro _ _ hS;refine EQ (sz:=4) (bts:=56) hS Yb rfl rfl rfl rfl (tY) rfl rfl (.cons _ (XK (_::uY) O2 H)) Ya Ya rfl ?_;clear hS;intro _ O4 _ Fj hS
  replace hS:=(hS.perm (XK O4 ((b,DZ s3 V3)::uY) H)).conv2 (ψ:=fun w=>Cs w (fun _=>True) (AJ (D++[Mz])) (Gn++[.int .i64 Mz.k,.int .i64 Mz.n,sv Mz.s,.slice A3 Mz.ar.length c3])) fun w h1 h2=>by
   exact Yct
  obtain⟨_,_,rfl⟩:=Fj.form;apply Zq.bO.1;refine ih ((D++[Mz],s3)) _ _ _ ?_ ?_ Yb Yc
  .exact DM
  .refine⟨V3,uY,O4,_,wL,?_,hS,?_,?_,?_,?_⟩
   .grind
   .exact OB
   .exact DM
   .exact DM
   grind
 .have h':¬s2.token=[44]:=by grind
  rw[Z8 h',VF]at hi;simp only at hi;apply Zq.d5.aB.1;refine Qd func43 rfl Yb ?_;rw[hi];refine⟨_,_,xG,rfl,sI,?_⟩;have uJ:=hS.perm (XK ((b,DZ s2 (.slice A2 s2.vars.length c2))::xG) O2 H);rw[<-Qdk D]at tY;grind[Qdk,St.shut]
end
theorem QmW(num:AA->Option Int)(G:TG->Prop)(L1:LK)(L2:ML)(d:Nat)(ht:Qhf num G d)(s:RS)(V:TH)(VH:T0)(M:T6)(w0 w:TG)(H:T0)(F:T3)(b:Nat)(hG:∀w',BK M w0 w'->G w')
  (hl:s.left<=1048576) (qY:s.vars.length+s.left<=1048576) (hV:GC s.vars V VH) (hS:St M w0 ((b,DZ s V)::(VH++H)) F w):
  Calls prog 117 #[ptr b,.int .i64 (d:Nat)] w fun e w'=>∃v V' sZ,e= .returned v/\
   GC ((QY (QI num d) (s.take [40])).2.take [41]).vars V' sZ/\St M w0 ((b,DZ ((QY (QI num d) (s.take [40])).2.take [41]) V')::(sZ++H)) ((fun w=>Sl w (fun _=>True) v (AJ (QY (QI num d) (s.take [40])).1))::F) w':=by
 have qH:s.rest.length<=1048576:=by unfold RS.left at hl;omega
 have h1:=take_left s [40];have h2:=P7 s [40];have h3:=Z0 (NL num d) (s.take [40]);obtain⟨A,c,rfl⟩:=hV.form;refine Qh func117 rfl ntmps117 rfl ?_;apply Zq.e.aF.1;refine XE (QiA L1 L2 s [40] _ qH hS) ?_;rintro _ _ ⟨rfl,oD⟩;apply Zq.a.1;replace hS:=oD;clear oD;apply Zq.cZ.f.1;refine XE (ht (s.take [40]) _ VH M w0 _ H F b hG Ya (by grind) (by grind) hS) ?_;rintro _ _ ⟨v,_,zM,rfl,sQ,oD⟩;apply Zq.a.1;replace hS:=oD;clear oD;obtain⟨_,_,rfl⟩:=sQ.form;obtain⟨A2,c2,rfl,_⟩:=(hS.fact (.head _)).form;apply Zq.b4.1
 have yM:(QY (QI num d) (s.take [40])).2.rest.length<=1048576:=by
  grind[RS.left]
 apply Zq.f.1;refine XE (QiA L1 L2 _ [41] _ yM hS) ?_;rintro _ _ ⟨rfl,oD⟩;apply Zq.a.1;replace hS:=oD;clear oD;apply Zq.b.aB.1;refine Qd func117 rfl Yb ?_;grind[P7]
theorem OA(num:AA->Option Int)(d:Nat){s:RS}{c:UInt8}{r:AA}(h:s.token=c::r):QI num (d+1) s=
  if EL c then(⟨0,(s.adv.var (c::r)).1,[],.nil⟩,(s.adv.var (c::r)).2)
  else if BF c&&(s.adv.token==[40])then(⟨3,0,c::r,AJ (QY (QI num d) (s.adv.take [40])).1⟩,(QY (QI num d) (s.adv.take [40])).2.take [41])
  else if BF c||(c==33)then(⟨1,0,c::r,.nil⟩,s.adv)
  else if AR c||(c==45)then(⟨2,(s.adv.number num (c::r)).1,[],.nil⟩,(s.adv.number num (c::r)).2)
  else(Nd.zero,s.adv.fail 1):=by
 grind[QI,G1]
theorem QqE (num : AA -> Option Int) (G : TG -> Prop) (L1 : LK) (L2 : ML) (L3 : SP num G) (d : Nat) (hd : d <= 100) (ht : ∀ e, d = e + 1 -> Qhf num G e) : Qm1 num G d := by
 intro s _ VH M w0 w _ F b hG hl qY hV hS;obtain⟨A,vc,rfl⟩:=hV.form
 have oV:∀w:TG,Sl w (fun _=>True) (.slice none 0 0) .nil:=fun w=>⟨none,0,rfl,XF _,fun h=>by cases h⟩
 cases d with
 |zero=>
  apply Zq.j9.p.R.1;clear hS;intro b1 oQ hS;apply Zq.b.m.l.bB.U.H.h.1;replace hS:=hS.swap;apply Zq.f.fW.1;exact Ybe
 | succ d =>
  obtain⟨tok,Vl,vars,er⟩:=s
  cases tok with
  |nil=>
   apply Zq.j9.p.R.1;clear hS;intro b1 oQ hS;apply Zq.b.m.l.n.c9.aI.aK.V.H.h.1;replace hS:=hS.swap;apply Zq.f.1;refine XE (SE ⟨[],Vl,vars,er⟩ 1 _ hS) ?_;exact Ybe
  | cons c r =>
   generalize hs:(⟨c::r,Vl,vars,er⟩:RS)=s at*;have pY:s.token=c::r:=by rw[<-hs]
   have hhd:G1 s.token=c:=by rw[pY];rfl
   have oN:¬s.token=[]:=by grind
   have pU:=K9 s oN
   have qH:s.rest.length<=1048576:=by unfold RS.left at hl;omega
   have hv:=NJ s;have Dg:=Qiv s.adv (c::r)
   have sQ:GC s.adv.vars (.slice A s.vars.length vc) VH:=by grind
   subst hs;apply Zq.j9.p.R.1;clear hS;intro b1 oQ hS;apply Zq.b.m.l.n.c9.aI.aK.V.N.bN.y.b4.1;replace hS:=hS.sink1;apply Zq.F.1;refine XE (RV L1 L2 ⟨c::r,Vl,vars,er⟩ _ qH hS) ?_;rintro _ w1 ⟨rfl,oD⟩;apply Zq.a.1;replace hS:=oD;clear oD;apply Zq.b.m.aP.c.c7.Z.1;refine XE (Qj1 c _) ?_;rintro _ _ ⟨rfl,rfl⟩;apply Zq.aJ.1;generalize hs:(⟨c::r,Vl,vars,er⟩:RS)=s at*;rw[pY]
   cases hu:EL c with
   |true=>
    have e:QI num (d+1) s=(⟨0,(s.adv.var (c::r)).1,[],.nil⟩,(s.adv.var (c::r)).2):=by
     grind[OA]
    apply Zq.cD.i.f.1;refine XE (Qni s.adv (c::r) _ VH _ sQ (by grind) hS) ?_;rintro _ w3 ⟨V',sZ,rfl,zL,oD⟩;apply Zq.a.1;replace hS:=oD.raise1;clear oD;apply Zq.d9.d.1;clear hS;intro pP hS;apply Zq.b.e4.1;grind[St.learn,St.drop]
   |false=>
    apply Zq.bS.Z.i6.1;rintro _ w3 ⟨rfl,rfl⟩;apply Zq.c0.1
    cases qI:BF c with
    |true=>
     apply Zq.P.c9.aI.aK.V.a9.1;refine MI rfl (fun h=> ?_) (fun h=> ?_)
     .have h':(s.adv.token==[40])=true:=h
      have e:QI num (d+1) s=(⟨3,0,c::r,AJ (QY (QI num d) (s.adv.take [40])).1⟩,(QY (QI num d) (s.adv.take [40])).2.take [41]):=by
       grind[OA]
      apply Zq.i.g.b3.f.1;have ha:=QmW num G L1 L2 d (ht d rfl) s.adv _ VH M w0 _ _ F b hG Ya (by grind) sQ hS;rw[show((d:Nat):Int)=((d+1:Nat):Int)-1 by omega]at ha;refine XE ha ?_;rintro _ w4 ⟨_,V',sZ,rfl,zL,oD⟩;apply Zq.a.1;replace hS:=oD.raise1;clear oD;obtain⟨A2,c2,rfl,_⟩:=(hS.fact (.head _)).form;apply Zq.mI.d.1;clear hS;intro pP hS;apply Zq.b.e4.1;grind[St.drop]
     .have h':(s.adv.token==[40])=false:=h
      have e:QI num (d+1) s=(⟨1,0,c::r,.nil⟩,s.adv):=by
       grind[OA]
      replace hS:=hS.raise1;apply Zq.Z.i6.1;rintro _ w4 ⟨rfl,rfl⟩;apply Zq.c0.1;rw[qI];apply Zq.cG.cR.h.d9.d.1;exact Ya7
    |false=>
     apply Zq.cG.cG.U.cN.Z.i6.1;rintro _ w4 ⟨rfl,rfl⟩;apply Zq.c0.1;rw[qI];by_cases yN:c=33
     .have Jw:(c==33)=true:=by simp[yN]
      have e:QI num (d+1) s=(⟨1,0,c::r,.nil⟩,s.adv):=by
       grind[OA]
      replace hS:=hS.raise1
      have Xj:((c.toNat:Nat):Int)=33:=by rw[yN];rfl
      apply Zq.P.l.cR.h.d9.d.1;exact Ya7
     .have Xj:((c.toNat:Nat):Int)≠33:=fun h=>yN (OH (n:=33) Ya);apply Zq.P.l.cN.Z.1;refine XE (Qep c _) ?_;rintro _ _ ⟨rfl,rfl⟩;apply Zq.c0.1
      cases hdg:AR c with
      |true=>
       have e:QI num (d+1) s=(⟨2,(s.adv.number num (c::r)).1,[],.nil⟩,(s.adv.number num (c::r)).2):=by
        grind[OA]
       apply Zq.cG.cR.i.f.k8.1;exact YaX
      |false=>
       by_cases xH:c=45
       .have An:((c.toNat:Nat):Int)=45:=by rw[xH];rfl
        have e:QI num (d+1) s=(⟨2,(s.adv.number num (c::r)).1,[],.nil⟩,(s.adv.number num (c::r)).2):=by
         grind[OA]
        apply Zq.P.l.cR.i.f.k8.1;exact YaX
       .have An:((c.toNat:Nat):Int)≠45:=fun h=>xH (OH (n:=45) Ya)
        have e:QI num (d+1) s=(Nd.zero,s.adv.fail 1):=by
         grind[OA]
        apply Zq.P.l.cN.aW.aX.aF.1;refine XE (SE s.adv 1 _ hS) ?_;rintro _ w6 ⟨rfl,oD⟩;apply Zq.a.1;replace hS:=oD;clear oD;replace hS:=hS.raise1;apply Zq.cT.d2.d.1;exact Ya7
theorem Qjg(num:AA->Option Int)(G:TG->Prop)(L1:LK)(L2:ML)(L3:SP num G):∀d,d<=100->Qm1 num G d
 |0,hd=>QqE num G L1 L2 L3 0 hd fun e h=>by cases h
 |d+1,hd=>QqE num G L1 L2 L3 (d+1) hd fun e h=>by cases h;exact Qnt num G L1 L2 d Ya (Qjg num G L1 L2 L3 d Ya)
theorem QkX(num:AA->Option Int)(G:TG->Prop)(L1:LK)(L2:ML)(L3:SP num G)(d:Nat)(hd:d<=100):Qhf num G d:=Qnt num G L1 L2 d hd (Qjg num G L1 L2 L3 d hd)
def G5(c:UInt8):Bool:=decide (97<=c.toNat)&&decide (c.toNat<=122)
def DR(s:TJ):Bool:=decide (s.data.toList=[33])||(decide (1<=s.size)&&decide (s.size<=8)&&s.data.toList.all G5)
theorem Qom(s:TJ)(k:Nat)(h:k<s.size):s.data.toList.take (k+1)=s.data.toList.take k++[s[k]]:=
 Xbp (l:=s.data.toList) (i:=k) YY
theorem QoY{s:TJ}{k:Nat}{c:UInt8}(h:s.data.toList.take (k+1)=s.data.toList.take k++[c])(hc:G5 c=false):s.data.toList.all G5=false:=by
 have e:s.data.toList=s.data.toList.take (k+1)++s.data.toList.drop (k+1):=(VR _ _).symm;grind
theorem Qn7(s:TJ)(w:TG):Calls prog 184 #[.string s] w fun e w'=>e= .returned (.bool (DR s))/\w=w':=by
 by_cases h0:s.data.toList=[33]
 .have r:DR s=true:=by simp[DR,h0]
  have h1:s.toList=[33]:=by rw[V8];exact h0
  exact Ybs
 have h1:(s.toList==[33])=false:=by simp_all[V8]
 by_cases h2:s.size<1
 .have r:DR s=false:=by grind[DR]
  exact Ybs
 by_cases h3:8<s.size
 .have r:DR s=false:=by grind[DR]
  exact Ybs
 have r:DR s=s.data.toList.all G5:=by
  grind[DR]
 have R:=XH r;clear r h0;go_enter func184,ntmps184;go_wp2_with fail;go_loopg [16] s.size (fun g i wr=>w=wr/\∃k:Nat,k<=s.size/\g=s.size-k/\i= .int .i64 k/\(s.data.toList.take k).all G5=true)
 case atStart=>grind
 case round=>
  obtain⟨rfl,k,hk,hg,rfl,ha⟩:=hrel;have HA:=XH ha;have HG:=XH hg;clear ha hg;by_cases pU:k<s.size
  .have Fk:=Qom s k pU;have qU:=s[k].toNat_lt;by_cases qI:(s[k].toNat:Int)<97
   .exact YbK
   by_cases hhi:(122:Int)<(s[k].toNat:Int)
   .exact YbK
   .have hf:Hid ((s.data.toList.take (k+1)).all G5=true):=XH (by
     grind[G5,Hid.out])
    clear Fk;go_wp2_with fail;go_roundg (s.size-(k+1))
    case measure=>rw[HG.out];omega
    grind[Hid.out]
  .go_wp2_with fail;go_ret;apply Zq.eI.1;have h4:=HA.out;rw[U0 Yg]at h4;rw[R.out,h4];rfl
end Go.Proofs.YthliapbflkfdiacGreatDoor
namespace Go.Proofs
open YthliapbflkfdiacGreatDoor
open Go.Shelf
def Tryz.lays160_ren:Go.Shelf.Ren:=⟨fun|160=>225|232=>241|231=>168|227=>169|234=>242|233=>170|236=>243|235=>171|228=>204|271=>252|151=>206|197=>205|120=>255|152=>232|260=>231|137=>129|119=>246|224=>247|225=>248|217=>182|266=>213|n=>n,fun|9=>9|4=>4|3=>3|5=>5|117=>233|116=>232|0=>0|124=>236|21=>21|105=>262|46=>276|119=>286|139=>289|138=>288|n=>n,fun|3=>3|4=>4|n=>n⟩
theorem Tryz.lays160:Go.Proofs.Lays.n160 Tryz.prog Tryz.lays160_ren:={
 mixed:=by kernel_rfl
 f119:=Tryz.func246.trans (XM some (by kernel_rfl))
 f120:=Tryz.func255.trans (XM some (by kernel_rfl))
 f137:=Tryz.func129.trans (XM some (by kernel_rfl))
 f151:=Tryz.func206.trans (XM some (by kernel_rfl))
 f152:=Tryz.func232.trans (XM some (by kernel_rfl))
 f160:=Tryz.func225.trans (XM some (by kernel_rfl))
 f197:=Tryz.func205.trans (XM some (by kernel_rfl))
 f217:=Tryz.func182.trans (XM some (by kernel_rfl))
 f224:=Tryz.func247.trans (XM some (by kernel_rfl))
 f225:=Tryz.func248.trans (XM some (by kernel_rfl))
 f227:=Tryz.func169.trans (XM some (by kernel_rfl))
 f228:=Tryz.func204.trans (XM some (by kernel_rfl))
 f231:=Tryz.func168.trans (XM some (by kernel_rfl))
 f232:=Tryz.func241.trans (XM some (by kernel_rfl))
 f233:=Tryz.func170.trans (XM some (by kernel_rfl))
 f234:=Tryz.func242.trans (XM some (by kernel_rfl))
 f235:=Tryz.func171.trans (XM some (by kernel_rfl))
 f236:=Tryz.func243.trans (XM some (by kernel_rfl))
 f260:=Tryz.func231.trans (XM some (by kernel_rfl))
 f266:=Tryz.func213.trans (XM some (by kernel_rfl))
 f271:=Tryz.func252.trans (XM some (by kernel_rfl))
 t0:=Tryz.underlying0
 a0:=Tryz.isAgg0
 z0:=Tryz.sizeOf0
 v0:=Tryz.zeroValue0
 t3:=Tryz.underlying3
 a3:=Tryz.isAgg3
 z3:=Tryz.sizeOf3
 v3:=Tryz.zeroValue3
 t4:=Tryz.underlying4
 a4:=Tryz.isAgg4
 z4:=Tryz.sizeOf4
 v4:=Tryz.zeroValue4
 t5:=Tryz.underlying5
 a5:=Tryz.isAgg5
 z5:=Tryz.sizeOf5
 v5:=Tryz.zeroValue5
 t9:=Tryz.underlying9
 a9:=Tryz.isAgg9
 z9:=Tryz.sizeOf9
 v9:=Tryz.zeroValue9
 t21:=Tryz.underlying21
 a21:=Tryz.isAgg21
 z21:=Tryz.sizeOf21
 v21:=Tryz.zeroValue21
 t46:=Tryz.underlying276
 a46:=Tryz.isAgg276
 z46:=Tryz.sizeOf276
 v46:=Tryz.zeroValue276
 t105:=Tryz.underlying262
 a105:=Tryz.isAgg262
 z105:=Tryz.sizeOf262
 v105:=Tryz.zeroValue262
 t116:=Tryz.underlying232
 a116:=Tryz.isAgg232
 z116:=Tryz.sizeOf232
 t117:=Tryz.underlying233
 a117:=Tryz.isAgg233
 z117:=Tryz.sizeOf233
 v117:=Tryz.zeroValue233
 t119:=Tryz.underlying286
 a119:=Tryz.isAgg286
 z119:=Tryz.sizeOf286
 t124:=Tryz.underlying236
 a124:=Tryz.isAgg236
 z124:=Tryz.sizeOf236
 v124:=Tryz.zeroValue236
 t138:=Tryz.underlying288
 a138:=Tryz.isAgg288
 z138:=Tryz.sizeOf288
 v138:=Tryz.zeroValue288
 t139:=Tryz.underlying289
 a139:=Tryz.isAgg289
 z139:=Tryz.sizeOf289
 v139:=Tryz.zeroValue289
 g3:=by kernel_rfl
 g4:=by kernel_rfl }
end Go.Proofs
namespace Go.Proofs.YthliapbflkfdiacGreatDoor
open Go.Proofs.Tryz
open Go.RowKit Go.Shelf
def RT:TI:=[97,98,99,100,101,102,103,104,105,106,107,108,109,110,111,112,113,114,115,116,117,118,119,120,121,122]
theorem QvY(c:UInt8):RT.contains c=G5 c:=by
 have h:∀n:Fin 256,RT.contains (UInt8.ofNat n.val)=G5 (UInt8.ofNat n.val):=by decide+kernel
 have:=h ⟨c.toNat,c.toNat_lt⟩;simp_all
theorem Qou{p:UInt8->Bool}{a:UInt8}{t:TI}:∀{l:TI},l.dropWhile p=a::t->p a=false
 |[],h=>by cases h
 |x::r,h=>by
  cases hx:p x with
  |true=>rw[Xbr hx]at h;exact Qou h
  |false=>simp_all
theorem QiR{p:UInt8->Bool}:∀{l:TI},l.dropWhile p=[]↔∀x∈l,p x=true
 |[]=>by simp
 |x::r=>by
  cases hx:p x with
  |true=>rw[Xbr hx,QiR];simp[hx]
  |false=>simp_all
theorem Qwk(l:TI):(Lib.trimS l RT).isEmpty=l.all G5:=by
 have e:(fun c=>RT.contains c)=G5:=funext QvY;unfold Lib.trimS Lib.trimLeftS Lib.trimRightS;rw[e]
 cases h:l.all G5 with
 |true=>
  grind[QiR]
 |false=>
  cases h1:l.reverse.dropWhile G5 with
  |nil=>
   grind[QiR]
  |cons a t=>
   grind[Qou,QiR]
theorem QlH(s:TJ)(w:TG):Calls prog 197 #[.string s] w fun e w'=>e= .returned (.bool (DR s))/\Below w.heap.size w w':=by
 by_cases h0:s.data.toList=[33]
 .have r:DR s=true:=by simp[DR,h0]
  have h1:s.toList=[33]:=by rw[V8];exact h0
  exact Ybg
 have h1:(s.toList==[33])=false:=by simp_all[V8]
 by_cases h2:s.size<1
 .have r:DR s=false:=by grind[DR]
  have h3:s.toList=[]:=by simp_all
  exact Ybg
 have h4:s.toList.isEmpty=false:=by
  rw[V8]
  cases hl:s.data.toList with
  |nil=>
   simp_all[ByteArray.size,Array.size]
  |cons _ _=>rfl
 by_cases h3:8<s.size
 .have r:DR s=false:=by grind[DR]
  exact Ybg
 have r:DR s=s.data.toList.all G5:=by
  grind[DR]
 have Jx:=Any.strings_Trim_laid Tryz.lays160 Yc s ⟨#[97,98,99,100,101,102,103,104,105,106,107,108,109,110,111,112,113,114,115,116,117,118,119,120,121,122]⟩ w Ya Yf (ascii_of_all Yf);change Calls prog 225 _ _ (fun e w'=>e= .returned (.string ⟨(Lib.trimS s.data.toList RT).toArray⟩)/\Below w.heap.size w w')at Jx
 have hr:(⟨(Lib.trimS s.data.toList RT).toArray⟩:TJ).toList.isEmpty=DR s:=by simp_all[Qwk]
 generalize(⟨(Lib.trimS s.data.toList RT).toArray⟩:TJ)=t at Jx hr;generalize hb:DR s=nb at*;clear r hb h0;go_enter func197,ntmps197;go_wp2_with fail;refine Jx.mono ?_;rintro e w' ⟨rfl,hB⟩;go_wp2_with fail;go_ret;simp_all
theorem QgS:(prog.info? 63).map (fun i=>(i.zero,i.size,i.bytes))=some (some (.agg #[.int .i64 0,.int .i64 0,.string .empty,.slice none 0 0]),4,56):=by kernel_rfl
end Go.Proofs.YthliapbflkfdiacGreatDoor
