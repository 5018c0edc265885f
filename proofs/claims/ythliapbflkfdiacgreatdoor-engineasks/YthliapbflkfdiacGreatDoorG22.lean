/- Steps of the proof. -/
import Derived.Test.YthliapbflkfdiacGreatDoorG21
set_option linter.unusedVariables false
set_option linter.unusedSimpArgs false
set_option maxRecDepth 100000
set_option maxHeartbeats 1000000
namespace Go.Proofs.YthliapbflkfdiacGreatDoor
open Go.Proofs.Tryz
open Go.RowKit
def DW:List (LT×LT)->T5
 |[]=>[]
 |p::r=>AN p.1++(AN p.2++DW r)
theorem QpF:∀L,(DW L).length=L.length*8
 |[]=>rfl
 |p::r=>by simp only[DW,XG,QpF r,XJ];show 4+(4+_)=_;omega
theorem QjR:∀L K,DW (L++K)=DW L++DW K
 |[],K=>rfl
 |p::r,K=>by simp only[DW,VI,QjR r K,VB]
theorem Quj:∀L,(DW L).all (·.oneCell')=true
 |[]=>rfl
 |p::r=>by simp only[DW,JQ,Quj r,WA];rfl
theorem Rw.cutS{el sz len cap k:Nat}{A:T4}{xs ys:T5}{O:T0}(h:Rw el sz (.slice A (len+k) cap) (len+k) (xs++ys) O)(hx:xs.length=len*sz)(hk:0<k):Rw el sz (.slice A len cap) len xs O:=by
 generalize hz:xs++ys=zs at h;generalize hn:len+k=m at h
 cases h with
 |zero_=>omega
 |own_ rR hc oW tJ=>
  rename_i b sp;subst hz;rw[VB]at hc⊢;exact Rw.own_ hx hc Ya tJ
theorem Qeo{α:Type}:∀L:List α,L=[]\/∃K p,L=K++[p]
 |[]=> .inl rfl
 |x::r=>by
  rcases Qeo r with rfl|⟨K,p,rfl⟩
  .exact .inr ⟨[],x,rfl⟩
  .exact .inr ⟨x::K,p,rfl⟩
theorem QzL:∀(X vs Z:T5) (o k:Nat),X.length=o->vs.length=k->HK (X++(vs++Z)) o k vs
 |[],vs,Z,o,k,h,hk=>by
  obtain rfl:o=0:=by simpa using h.symm
  subst hk
  induction vs with
  |nil=>exact .z
  |cons v vs ih=>exact .t ih
 |x::X,vs,Z,o,k,h,hk=>by
  obtain⟨o,rfl⟩:∃o',o=o'+1:=⟨o-1,by simp at h;omega⟩
  exact .s (QzL X vs Z o k YY hk)
def IX(p:LT×LT):Tm×Tm:=(p.1.tm,p.2.tm)
def QzK(F:T3)(L:List (LT×LT)):Prop:=∀p∈L,AB F (BW p.1)/\AB F (BW p.2)/\AL p.1.tm/\AL p.2.tm
structure DU(F:T3)(E:List EN):Prop where
 rd:AB F (NG tyE E)
 ok:BO (QK E)
 gd:∀x∈QK E,AL x.2
theorem QqD{t:Tm}(h:AL t)(hk:t.k=0):0<=t.n/\t.n<549755813888:=by
 have:=h.1;simp only[Ts.good,XI]at this;have hn:=this.1.1;unfold CL at hn;rw[XB hk]at hn;simp only[XI,XO]at hn;exact⟨hn.1.1.1,hn.1.1.2⟩
theorem Qyg{n:Int}(h0:0<=n)(h1:n<549755813888):AL ⟨0,n,⟨#[]⟩,.nil⟩:=by
 apply Zq.e6.1;simp only[Ts.good,XI,VX];unfold CL;rw[XB rfl];simp only[XI,XO];exact⟨⟨⟨h0,h1⟩,NX []⟩,rfl⟩
theorem Qw1{B:AC}(hB:BO B){a b:Tm}(ka:(Qc B a).k=0)(kb:(Qc B b).k=0)(hn:(Qc B a).n≠(Qc B b).n):BO ((max (Qc B a).n (Qc B b).n,⟨0,min (Qc B a).n (Qc B b).n,⟨#[]⟩,.nil⟩)::B):=by
 have fa:=LY hB a ka;have fb:=LY hB b kb;refine⟨?_,fun _=>⟨?_,?_⟩,hB⟩
 .show BR (max _ _) B=none;rcases WS (Qc B a).n (Qc B b).n with h|h
  .rw[XaQ h];exact fb
  .rw[XaR h];exact fa
 .show min (Qc B a).n (Qc B b).n≠max (Qc B a).n (Qc B b).n;omega
 .show BR (min _ _) B=none;rcases WS (Qc B a).n (Qc B b).n with h|h
  .rw[Xbh h];exact fa
  .rw[Xbi h];exact fb
theorem DU.cons{F:T3}{E:List EN}{v:Int}{t:LT}{bk:Nat}(hE:DU F E)(ht:AB F (BW t))(hg:AL t.tm)(hB:BO ((v,t.tm)::QK E)):DU ((fun w=>w.heap[bk]?=some (.cells (ecs v t (DQ E)).toArray tyE))::F) (⟨v,t,bk⟩::E):=
 ⟨fun w hw=>⟨hw _ (.head _),ht w fun φ h=>hw φ (.tail _ h),hE.rd w fun φ h=>hw φ (.tail _ h)⟩,hB,fun x hx=>by
  rcases XV.1 hx with rfl|hx
  .exact hg
  .exact hE.gd x hx⟩
theorem QzK.tail{F:T3}{L:List (LT×LT)}{φ:TG->Prop}(h:QzK F L):QzK (φ::F) L:=fun p hp=>⟨(h p hp).1.tail,(h p hp).2.1.tail,(h p hp).2.2⟩
def TA.lts:TA->List LT
 | .nil=>[]
 | .cons k n s A c ar r=>⟨k,n,s,A,c,ar⟩::r.lts
theorem TA.lts_tm(T:TA):T.lts.map LT.tm=T.ts.tms:=by
 induction T with
 |nil=>rfl
 |cons k n s A c ar r _ ih=>simp only[TA.lts,VE,ih];rfl
theorem TA.lts_len(T:TA):T.lts.length=T.len:=by
 induction T with
 |nil=>rfl
 |cons k n s A c ar r _ ih=>simp only[TA.lts,XJ,ih,TA.len]
theorem TA.lts_app(D R:TA):(D.app R).lts=D.lts++R.lts:=by
 induction D with
 |nil=>rfl
 |cons k n s A c ar r _ ih=>simp only[TA.app,TA.lts,ih,VI]
theorem TA.at_split:∀(T:TA) (j:Nat),j<T.len->∃(D R:TA) (x:LT),T=D.app (.cons x.k x.n x.s x.A x.c x.ar R)/\D.len=j
 | .nil,j,h=>by simp[TA.len]at h
 | .cons k n s A c ar r,0,_=>⟨.nil,r,⟨k,n,s,A,c,ar⟩,rfl,rfl⟩
 | .cons k n s A c ar r,j+1,h=>by
  obtain⟨D,R,x,e,hl⟩:=TA.at_split r j (by simpa[TA.len]using h);exact⟨.cons k n s A c ar D,R,x,by rw[e];rfl,by simp only[TA.len,hl]⟩
def C4:List LT->T5
 |[]=>[]
 |t::r=>AN t++C4 r
theorem QgO:∀L,(C4 L).length=L.length*4
 |[]=>rfl
 |t::r=>by simp only[C4,XG,QgO r,XJ];show 4+_=_;omega
theorem OS:∀L K,C4 (L++K)=C4 L++C4 K
 |[],K=>rfl
 |t::r,K=>by simp only[C4,VI,OS r K,VB]
def QzR(F:T3)(L:List LT):Prop:=∀t∈L,AB F (BW t)/\AL t.tm
theorem RO{T:TA}(h:∀x,T.ts.Mem x->AL x):∀x∈T.lts,AL x.tm:=by
 induction T with
 |nil=>intro x hx;cases hx
 |cons k n s A c ar r _ ih=>
  intro x hx;rcases XV.1 hx with rfl|hx
  .exact h _ (.inl rfl)
  .exact ih (fun y hy=>h y (.inr hy)) x hx
theorem AV.lts{A:T4}{c:Nat}{T:TA}{w:TG}(h:AV A c T w):∀x∈T.lts,BW x w:=by
 have:=h.all;clear h
 induction T with
 |nil=>intro x hx;cases hx
 |cons k n s A c ar r _ ih=>
  intro x hx;rcases XV.1 hx with rfl|hx
  .exact this.1
  .exact ih this.2 x hx
theorem Qmt{P:Program}{n:Nat}{e:AW}{w:TG}{Q:Exit->Act->TG->Prop}{oI:TB}{rest:TC}{ty:TypeId}{pos:String}{after:TE}{d:Nat}{M:T6}{w0:TG}{F:T3}{H H':T0}{x y:Operand}{v:TH}{t tx:TypeId}{el len c:Nat}{A:T4}{u:LT}{xs:T5}{O:T0}(hS:St M w0 H F w)(hx:ev n e x=v)(hy:ev n e y= .slice A 1 c)
  (hT:QE P t=some el) (sO:QE P tx=some el) (hi:LV P el=some (4,56)) (hL:QG 4 (AN u) A 1 c w) (oE:Rw el 4 v len xs O)
  (hP:H.Perm (O++H')) (qU:len+1<=1099511627776) (hd:Nat.blt d n=true)
  (h:∀v' O' w',Rw el 4 v' (len+1) (xs++AN u) O'->St M w0 (O'++H') F w'->AU P Q oI rest n ((d,v')::e) w'):
  AU P Q oI (⟨some d,.call ⟨.builtin .append, #[x,y], #[t,tx]⟩,ty,pos,after,none⟩::rest) n e w:=by
 obtain⟨_,_,h2,h3,h4,h5,h6⟩:=K6 hi;refine RI (k:=1) (ys:=AN u) hS hx hy hT sO h2 h3 h4 (by rw[h5];rfl) (by rw[h5];exact hL.src sO rfl) TP hP RC Ya hd ?_;rw[h5];exact h
theorem QoL{α β:Type}:∀(l:List α) (m:List β) (n:Nat),(l.zip m).drop n=(l.drop n).zip (m.drop n)
 |l,m,0=>rfl
 |[],m,n+1=>by simp
 |_::_,[],n+1=>by simp
 |x::l,y::m,n+1=>by simp only[Xbf,UG];exact QoL l m n
theorem Qth:∀(l m:List LT),(l.zip m).map IX=(l.map LT.tm).zip (m.map LT.tm)
 |[],m=>by simp
 |_::_,[]=>by simp
 |x::l,y::m=>by simp only[Xbf,VE,Qth l m];rfl
theorem QuP{P:Program}{n:Nat}{e:AW}{w:TG}{Q:Exit->Act->TG->Prop}{oI:TB}{rest:TC}{ty:TypeId}{pos:String}{after:TE}{d:Nat}{M:T6}{w0:TG}{F:T3}{H H':T0}{x y:Operand}{v:TH}{t tx:TypeId}{el len c:Nat}{A:T4}{u:LT×LT}{xs:T5}{O:T0}(hS:St M w0 H F w)(hx:ev n e x=v)(hy:ev n e y= .slice A 1 c)
  (hT:QE P t=some el) (sO:QE P tx=some el) (hi:LV P el=some (8,112)) (hL:QG 8 (DW [u]) A 1 c w) (oE:Rw el 8 v len xs O)
  (hP:H.Perm (O++H')) (qU:len+1<=1099511627776) (hd:Nat.blt d n=true)
  (h:∀v' O' w',Rw el 8 v' (len+1) (xs++DW [u]) O'->St M w0 (O'++H') F w'->AU P Q oI rest n ((d,v')::e) w'):
  AU P Q oI (⟨some d,.call ⟨.builtin .append, #[x,y], #[t,tx]⟩,ty,pos,after,none⟩::rest) n e w:=by
 obtain⟨_,_,h2,h3,h4,h5,h6⟩:=K6 hi;refine RI (k:=1) (ys:=DW [u]) hS hx hy hT sO h2 h3 h4 (by rw[h5];rfl) (by rw[h5];exact hL.src sO (Quj _)) TP hP RC Ya hd ?_;rw[h5];exact h
def Qx3(M:T6)(w0:TG)(H:T0)(F:T3)(r:Ug AC)(e:Ending)(w:TG):Prop:=
 ∃(E':List EN) (F':T3) (k:Int),(∀φ∈F,φ∈F')/\St M w0 H F' w/\(400<r.w->k<0/\e= .returned (.tuple #[DQ E',.bool false,.int .i64 k]))/\(r.w<=400->k=400-(r.w:Nat)/\e= .returned (.tuple #[DQ E',.bool r.ok,.int .i64 k]))/\(r.w<=400->r.ok=true->QK E'=r.s/\DU F' E')
section
variable{M:T6}{w0:TG}{H:T0}{F:T3}
theorem Qyz (E : List EN) (a b : LT) (w : TG) (hE : DU F E) (ha : AB F (BW a)) (hb : AB F (BW b)) (ga : AL a.tm) (gb : AL b.tm) (hS : St M w0 H F w) :
  Calls prog 105 #[DQ E,tv a,tv b] w (Qx3 M w0 H F (AY BX 401 a.tm b.tm (QK E) 0)):=by
 generalize hr:AY BX 401 a.tm b.tm (QK E) 0=r
 have Wc:GK ([(a,b)].reverse.map IX) (QK E) 0=r:=by rw[<-hr];exact QwA a.tm b.tm (QK E) 0
 refine QQ func105 rfl ntmps105 rfl ?_;apply Zq.w.1;clear hS;intro b1 _ hS;apply Zq.d3.1;clear hS;intro b2 _ hS;apply Zq.a3.e.p.cE.cE.1;refine Qa (QD (cells:=[_,_,_,_,_,_,_,_]) (.cons Yb (.cons Yb .nil)) rfl) rfl ?_;apply Zq.lN.1;clear hS;intro b3 _ hS;apply Zq.c2.1;have Rx:Rw 218 8 (.slice (some ⟨b3,0,none⟩) 1 1) 1 (DW [(a,b)]) [(b3,.cells (DW [(a,b)]++[]).toArray 218)]:=Rw.own_ rfl rfl (XF _) Ya;refine QhJ 10 9 0 (22::23::24::25::26::27::28::29::30::11::31::32::33::34::35::36::37::38::39::40::41::6::7::8::42::43::44::45::46::47::48::49::12::13::50::51::52::53::54::55::56::57::58::59::60::61::62::63::64::65::66::67::68::69::70::71::72::73::74::75::76::77::78::79::80::81::82::83::84::85::86::14::87::88::89::90::91::92::93::94::95::15::96::97::98::99::100::101::102::103::104::105::106::107::108::109::110::111::112::113::114::115::116::117::118::119::120::121::122::123::124::125::16::126::127::130::131::132::133::134::135::136::137::128::129::138::139::140::141::142::143::144::145::146::147::148::149::150::151::152::153::154::155::156::157::158::159::160::161::162::163::164::165::166::167::168::169::170::171::172::173::174::175::176::177::17::178::179::182::183::184::185::186::187::188::189::190::191::192::193::194::195::180::181::[]) (fun(x:List (LT×LT)×List EN×Nat) v y z w'=>∃(Al:T4) (cl:Nat) (O:T0) (F':T3),v= .slice Al x.1.length cl/\y= .int .i64 (400-(x.2.2:Nat))/\z=DQ x.2.1/\GK (x.1.reverse.map IX) (QK x.2.1) x.2.2=r/\x.2.2<=400/\x.1.length<=24*x.2.2+1/\(∀φ∈F,φ∈F')/\DU F' x.2.1/\QzK F' x.1/\Rw 218 8 (.slice Al x.1.length cl) x.1.length (DW x.1) O/\St M w0 ((b2,.cells (AN b).toArray 63)::(b1,.cells (AN a).toArray 63)::(O++H)) F' w') (fun x=>401-x.2.2) (([(a,b)],E,0)) ?_ Yb Yb Yb ?_
 .exact⟨_,_,_,F,rfl,rfl,rfl,Wc,by show 0<=400;omega,by simp,fun _ h=>h,hE,fun p hp=>by rw[VJ.1 hp];exact⟨ha,hb,ga,gb⟩,Rx,hS.perm (XK [_] [_,_] _)⟩
 clear hS Rx Wc hE;rintro x v y z _ _ ⟨Al,cl,O,F',hv,hy,hz,tL,hwk,Ee,hF,hE,hAP,oE,hS⟩ ih;obtain⟨L,E,wk⟩:=x;dsimp only at hv hy hz tL hwk Ee hE hAP oE hS;subst hv hy hz;rcases Qeo L with rfl|⟨L,p,rfl⟩
 .have zI:r=⟨true,QK E,wk⟩:=by rw[<-tL];rfl
  apply Zq.m.bP.bE.i.a3.eY.1;refine⟨E,F',400-(wk:Nat),hF,hS.drop.drop.dropN,fun h=> ?_,fun _=> ?_,fun _ _=> ?_⟩
  .rw[zI]at h;exact absurd h (by show¬400<wk;omega)
  .rw[zI];exact FI
  .rw[zI];exact⟨rfl,hE⟩
 have hlp:(L++[p]).length=L.length+1:=by simp
 obtain⟨h1,h2,t1,t2⟩:=hAP p Yd;have Ry:QzK F' L:=fun q hq=>hAP q (by simp[hq]);obtain⟨g,sp,rfl,rfl,_,_,_⟩:=oE.some_ Ya
 have hcut:HK (DW (L++[p])++sp) (0+((((L++[p]).length:Nat):Int)-1).toNat*8) 8 (AN p.1++AN p.2):=by
  have:=QzL (DW L) (AN p.1++AN p.2) sp (0+((((L++[p]).length:Nat):Int)-1).toNat*8) 8 (by rw[QpF];omega) rfl;rw[QjR];simpa[DW]using this
 have xQ:Rw 218 8 (.slice (some ⟨g,0,none⟩) L.length cl) L.length (DW L) [(g,.cells (DW (L++[p])++sp).toArray 218)]:=by
  rw[hlp,QjR]at oE;rw[QjR];exact oE.cutS (QpF L) Ya
 have uR:GK (IX p::L.reverse.map IX) (QK E) wk=r:=by rw[<-tL,WB];rfl
 by_cases hw4:wk=400
 .have zI:r=⟨false,QK E,wk+1⟩:=by rw[<-uR];exact Qt4 (IX p) _ _ Ya
  apply Zq.m.bP.c3.i.bQ.lP.lE.mN.1;clear hS;intro b4 sR hS;apply Zq.d.1;clear hS;intro vN hS;apply Zq.cZ.bQ.lO.M.b3.b4.I.v.i.a3.eY.1;refine⟨E,F',400-(wk:Nat)-1,hF,hS.drop.drop.drop.drop,fun _=>⟨by omega,rfl⟩,fun h=> ?_,fun h=> ?_⟩
  .exact YdR
  .exact YdR
 apply Zq.m.bP.c3.i.bQ.lP.lE.mN.1;clear hS;intro b4 sR hS;apply Zq.d.1;clear hS;intro vN hS;apply Zq.cZ.bQ.lO.M.b3.b4.c1.E.1;refine Qd9 12 13 (42::43::44::45::46::47::48::49::[]) (fun y z w'=>∃(b5 b6:Nat) (u v:LT),y= .pointer (some ⟨b5,0,none⟩)/\z= .pointer (some ⟨b6,0,none⟩)/\u.tm=Qc (QK E) p.1.tm/\v.tm=Qc (QK E) p.2.tm/\AB F' (BW u)/\AB F' (BW v)/\St M w0 ((b5,.cells (AN u).toArray 63)::(b6,.cells (AN v).toArray 63)::(b4,.cells (AN p.1++AN p.2).toArray 218)::(b2,.cells (AN b).toArray 63)::(b1,.cells (AN a).toArray 63)::([(g,.cells (DW (L++[p])++sp).toArray 218)]++H)) F' w') ?_ ?_
 .intro oF;refine K1 (St _ _ _ _) 10 (.read 0 (.read 1 (.read 2 (.read 4 (.read 5 (.read 6 (.pick 3 (.pick 7 (.pick 8 (.pick 9 .tail .none) (.pick 9 (.pick 8 .tail .none) .none)) (.pick 8 (.pick 7 (.pick 9 .tail .none) (.pick 9 (.pick 7 .tail .none) .none)) (.pick 9 (.pick 7 (.pick 8 .tail .none) (.pick 8 (.pick 7 .tail .none) .none)) .none))) (.pick 8 (.pick 3 (.pick 7 (.pick 9 .tail .none) (.pick 9 (.pick 7 .tail .none) .none)) (.pick 9 (.pick 3 (.pick 7 .tail .none) .none) .none)) (.pick 9 (.pick 3 (.pick 7 (.pick 8 .tail .none) (.pick 8 (.pick 7 .tail .none) .none)) (.pick 8 (.pick 3 (.pick 7 .tail .none) .none) .none)) .none))))))))) Yc Yc hS.drew ?_;replace hS:=hS.drew;apply Zq.a7.fB.j5.a7.1;refine Qj rfl (fun _ hS=>Qi (off:=4) rfl rfl) rfl ?_;apply Zq.j5.1;refine QA rfl ?_ ?_
  .apply Zq.f.h1.1;rintro _ w5 ⟨u,rfl,oR,pT,zW,oD⟩;apply Zq.a.1;replace hS:=oD;clear oD;apply Zq.aG.1;refine QA rfl ?_ ?_
   .apply Zq.f.eO.1;rintro _ w6 ⟨v,rfl,oJ,pG,qZ,oD⟩;apply Zq.a.1;replace hS:=oD;clear oD;apply Zq.aG.1;refine QA rfl ?_ ?_
    .apply Zq.R.1;clear hS;intro b5 _ hS;apply Zq.aG.aM.1;clear hS;intro b6 _ hS;apply Zq.a4.1;clear hS;intro _ hS;apply Zq.d.1;clear hS;intro _ hS;apply Zq.b.1
     first|exact oF _ _ _ _ ⟨_,_,u,v,rfl,rfl,oR,oJ,pT,pG,hS⟩ Yb Yb Yc|exact oF _ _ _ _ ⟨_,_,u,v,rfl,rfl,oR,oJ,pT,pG,hS.perm (List.Perm.swap _ _ _)⟩ Yb Yb Yc
    apply Zq.aM.1;clear hS;intro _ _ hS;apply Zq.aG.aM.1;clear hS;intro _ _ hS;apply Zq.a4.1;clear hS;intro _ hS;apply Zq.d.1;clear hS;intro _ hS;apply Zq.b.1
    first|exact oF _ _ _ _ ⟨_,_,u,v,rfl,rfl,oR,oJ,pT,pG,hS⟩ Yb Yb Yc|exact oF _ _ _ _ ⟨_,_,u,v,rfl,rfl,oR,oJ,pT,pG,hS.perm (List.Perm.swap _ _ _)⟩ Yb Yb Yc
   refine QA rfl ?_ ?_
   .apply Zq.R.1;clear hS;intro _ _ hS;apply Zq.aG.1;refine QA rfl ?_ ?_
    .apply Zq.f.eO.1;rintro _ w6 ⟨v,rfl,oJ,pG,qZ,oD⟩;apply Zq.a.1;replace hS:=oD;clear oD;apply Zq.aG.aM.1;clear hS;intro _ _ hS;apply Zq.a4.1;clear hS;intro _ hS;apply Zq.d.1;clear hS;intro _ hS;apply Zq.b.1
     first|exact oF _ _ _ _ ⟨_,_,u,v,rfl,rfl,oR,oJ,pT,pG,hS⟩ Yb Yb Yc|exact oF _ _ _ _ ⟨_,_,u,v,rfl,rfl,oR,oJ,pT,pG,hS.perm (List.Perm.swap _ _ _)⟩ Yb Yb Yc
    apply Zq.aM.1;clear hS;intro _ _ hS;apply Zq.cV.eO.1;rintro _ w6 ⟨v,rfl,oJ,pG,qZ,oD⟩;apply Zq.a.1;replace hS:=oD;clear oD;apply Zq.a4.1;clear hS;intro _ hS;apply Zq.d.1;clear hS;intro _ hS;apply Zq.b.1
    first|exact oF _ _ _ _ ⟨_,_,u,v,rfl,rfl,oR,oJ,pT,pG,hS⟩ Yb Yb Yc|exact oF _ _ _ _ ⟨_,_,u,v,rfl,rfl,oR,oJ,pT,pG,hS.perm (List.Perm.swap _ _ _)⟩ Yb Yb Yc
   apply Zq.aM.1;clear hS;intro _ _ hS;apply Zq.aG.1;refine QA rfl ?_ ?_
   .apply Zq.f.eO.1;rintro _ w6 ⟨v,rfl,oJ,pG,qZ,oD⟩;apply Zq.a.1;replace hS:=oD;clear oD;apply Zq.aG.aM.1;clear hS;intro _ _ hS;apply Zq.a4.1;clear hS;intro _ hS;apply Zq.d.1;clear hS;intro _ hS;apply Zq.b.1
    first|exact oF _ _ _ _ ⟨_,_,u,v,rfl,rfl,oR,oJ,pT,pG,hS⟩ Yb Yb Yc|exact oF _ _ _ _ ⟨_,_,u,v,rfl,rfl,oR,oJ,pT,pG,hS.perm (List.Perm.swap _ _ _)⟩ Yb Yb Yc
   apply Zq.aM.1;clear hS;intro _ _ hS;apply Zq.cV.eO.1;rintro _ w6 ⟨v,rfl,oJ,pG,qZ,oD⟩;apply Zq.a.1;replace hS:=oD;clear oD;apply Zq.a4.1;clear hS;intro _ hS;apply Zq.d.1;clear hS;intro _ hS;apply Zq.b.1
   first|exact oF _ _ _ _ ⟨_,_,u,v,rfl,rfl,oR,oJ,pT,pG,hS⟩ Yb Yb Yc|exact oF _ _ _ _ ⟨_,_,u,v,rfl,rfl,oR,oJ,pT,pG,hS.perm (List.Perm.swap _ _ _)⟩ Yb Yb Yc
  refine QA rfl ?_ ?_
  .apply Zq.R.1;clear hS;intro _ _ hS;apply Zq.aG.1;refine QA rfl ?_ ?_
   .apply Zq.f.h1.1;rintro _ w5 ⟨u,rfl,oR,pT,zW,oD⟩;apply Zq.a.1;replace hS:=oD;clear oD;apply Zq.aG.1;refine QA rfl ?_ ?_
    .apply Zq.f.eO.1;rintro _ w6 ⟨v,rfl,oJ,pG,qZ,oD⟩;apply Zq.a.1;replace hS:=oD;clear oD;apply Zq.aG.aM.1;clear hS;intro _ _ hS;apply Zq.a4.1;clear hS;intro _ hS;apply Zq.d.1;clear hS;intro _ hS;apply Zq.b.1
     first|exact oF _ _ _ _ ⟨_,_,u,v,rfl,rfl,oR,oJ,pT,pG,hS⟩ Yb Yb Yc|exact oF _ _ _ _ ⟨_,_,u,v,rfl,rfl,oR,oJ,pT,pG,hS.perm (List.Perm.swap _ _ _)⟩ Yb Yb Yc
    apply Zq.aM.1;clear hS;intro _ _ hS;apply Zq.cV.eO.1;rintro _ w6 ⟨v,rfl,oJ,pG,qZ,oD⟩;apply Zq.a.1;replace hS:=oD;clear oD;apply Zq.a4.1;clear hS;intro _ hS;apply Zq.d.1;clear hS;intro _ hS;apply Zq.b.1
    first|exact oF _ _ _ _ ⟨_,_,u,v,rfl,rfl,oR,oJ,pT,pG,hS⟩ Yb Yb Yc|exact oF _ _ _ _ ⟨_,_,u,v,rfl,rfl,oR,oJ,pT,pG,hS.perm (List.Perm.swap _ _ _)⟩ Yb Yb Yc
   apply Zq.aM.1;clear hS;intro _ _ hS;apply Zq.cV.h1.1;rintro _ w5 ⟨u,rfl,oR,pT,zW,oD⟩;apply Zq.a.1;replace hS:=oD;clear oD;apply Zq.cV.eO.1;rintro _ w6 ⟨v,rfl,oJ,pG,qZ,oD⟩;apply Zq.a.1;replace hS:=oD;clear oD;apply Zq.a4.1;clear hS;intro _ hS;apply Zq.d.1;clear hS;intro _ hS;apply Zq.b.1
   first|exact oF _ _ _ _ ⟨_,_,u,v,rfl,rfl,oR,oJ,pT,pG,hS⟩ Yb Yb Yc|exact oF _ _ _ _ ⟨_,_,u,v,rfl,rfl,oR,oJ,pT,pG,hS.perm (List.Perm.swap _ _ _)⟩ Yb Yb Yc
  apply Zq.aM.1;clear hS;intro _ _ hS;apply Zq.aG.1;refine QA rfl ?_ ?_
  .apply Zq.f.h1.1;rintro _ w5 ⟨u,rfl,oR,pT,zW,oD⟩;apply Zq.a.1;replace hS:=oD;clear oD;apply Zq.aG.1;refine QA rfl ?_ ?_
   .apply Zq.f.eO.1;rintro _ w6 ⟨v,rfl,oJ,pG,qZ,oD⟩;apply Zq.a.1;replace hS:=oD;clear oD;apply Zq.aG.aM.1;clear hS;intro _ _ hS;apply Zq.a4.1;clear hS;intro _ hS;apply Zq.d.1;clear hS;intro _ hS;apply Zq.b.1
    first|exact oF _ _ _ _ ⟨_,_,u,v,rfl,rfl,oR,oJ,pT,pG,hS⟩ Yb Yb Yc|exact oF _ _ _ _ ⟨_,_,u,v,rfl,rfl,oR,oJ,pT,pG,hS.perm (List.Perm.swap _ _ _)⟩ Yb Yb Yc
   apply Zq.aM.1;clear hS;intro _ _ hS;apply Zq.cV.eO.1;rintro _ w6 ⟨v,rfl,oJ,pG,qZ,oD⟩;apply Zq.a.1;replace hS:=oD;clear oD;apply Zq.a4.1;clear hS;intro _ hS;apply Zq.d.1;clear hS;intro _ hS;apply Zq.b.1
   first|exact oF _ _ _ _ ⟨_,_,u,v,rfl,rfl,oR,oJ,pT,pG,hS⟩ Yb Yb Yc|exact oF _ _ _ _ ⟨_,_,u,v,rfl,rfl,oR,oJ,pT,pG,hS.perm (List.Perm.swap _ _ _)⟩ Yb Yb Yc
  apply Zq.aM.1;clear hS;intro _ _ hS;apply Zq.cV.h1.1;rintro _ w5 ⟨u,rfl,oR,pT,zW,oD⟩;apply Zq.a.1;replace hS:=oD;clear oD;apply Zq.cV.eO.1;rintro _ w6 ⟨v,rfl,oJ,pG,qZ,oD⟩;apply Zq.a.1;replace hS:=oD;clear oD;apply Zq.a4.1;clear hS;intro _ hS;apply Zq.d.1;clear hS;intro _ hS;apply Zq.b.1
  first|exact oF _ _ _ _ ⟨_,_,u,v,rfl,rfl,oR,oJ,pT,pG,hS⟩ Yb Yb Yc|exact oF _ _ _ _ ⟨_,_,u,v,rfl,rfl,oR,oJ,pT,pG,hS.perm (List.Perm.swap _ _ _)⟩ Yb Yb Yc
 clear hS;rintro _ _ _ _ ⟨b5,b6,u,v,rfl,rfl,oR,oJ,pT,pG,hS⟩
 have tu:AL u.tm:=by rw[oR];exact LN hE.gd t1
 have Ld:AL v.tm:=by rw[oJ];exact LN hE.gd t2
 by_cases ku:u.k=0
 .have Hg : (Qc (QK E) p.1.tm).k = 0 := by rw [<- oR]; exact ku
  by_cases kv:v.k=0
  .have Ef:(Qc (QK E) p.2.tm).k=0:=by rw[<-oJ];exact kv
   by_cases hn:u.n=v.n
   .have Eg:GK (L.reverse.map IX) (QK E) (wk+1)=r:=by
     rw[<-uR];exact(Qt3 _ Ya Hg Ef (by rw[<-oR,<-oJ];exact hn)).symm
    apply Zq.dW.y.l.t.aI.aK.l.H.b0.aE.aE.Q.D.d5.1;refine ih (L,E,wk+1) _ _ _ _ _ ?_ ?_ Yb Yb Yb Yc
    .exact Yd7
    .exact⟨_,_,_,F',by rw[show((((L++[p]).length:Nat):Int)-1).toNat=L.length by omega],by congr 1;show(400:Int)-(wk:Nat)-1=400-((wk+1:Nat):Int);omega,rfl,Eg,by show wk+1<=400;omega,by show L.length<=24*(wk+1)+1;omega,hF,hE,Ry,xQ,hS.drop.drop.drop⟩
   .have Eg:GK (L.reverse.map IX) ((max u.n v.n,⟨0,min u.n v.n,⟨#[]⟩,.nil⟩)::QK E) (wk+1)=r:=by
     have:=Qt5 (L.reverse.map IX) (w:=wk) Ya Hg Ef (by rw[<-oR,<-oJ];exact hn);rw[<-oR,<-oJ]at this;rw[<-uR];exact this.symm
    have Nr:max u.n v.n=if u.n<v.n then v.n else u.n:=by split<;>omega
    have Cp:min u.n v.n=if v.n<u.n then v.n else u.n:=by split<;>omega
    apply Zq.dW.y.l.t.aI.aK.l.H.b0.aE.aE.Q.v.d8.aE.aE.fA.aE.aE.kK.gT.g.hG.d3.1;clear hS;intro Hh Le hS;apply Zq.c.d5.1;replace hS:=hS.freeze;have nu:0<=u.n/\u.n<549755813888:=QqD tu ku;have nv:0<=v.n/\v.n<549755813888:=QqD Ld kv;have Bh:=Qw1 hE.ok Hg Ef (by rw[<-oR,<-oJ];exact hn);rw[<-oR,<-oJ]at Bh;have Rz:=DU.cons (bk:=Hh) (t:=⟨0,min u.n v.n,⟨#[]⟩,none,0,.nil⟩) (v:=max u.n v.n) hE (fun w _=>⟨XF _,fun h=>absurd h R3⟩) (show AL ⟨0,min u.n v.n,⟨#[]⟩,.nil⟩from Qyg Ya Ya) Bh;refine ih (L,⟨max u.n v.n,⟨0,min u.n v.n,⟨#[]⟩,none,0,.nil⟩,Hh⟩::E,wk+1) _ _ _ _ _ ?_ ?_ Yb Yb Yb Yc
    .exact Yd7
    .exact⟨_,_,_,_,by rw[show((((L++[p]).length:Nat):Int)-1).toNat=L.length by omega],by congr 1;show(400:Int)-(wk:Nat)-1=400-((wk+1:Nat):Int);omega,rfl,Eg,by show wk+1<=400;omega,by show L.length<=24*(wk+1)+1;omega,fun φ h=> .tail _ (hF φ h),Rz,Ry.tail,xQ,hS.drop.drop.drop⟩
  .have Ef : (Qc (QK E) p.2.tm).k ≠ 0 := by rw [<- oJ]; exact kv
   have sW:=Qyn (L.reverse.map IX) (w:=wk) hE.ok Ya Hg Ef;rw[<-oR,<-oJ]at sW;replace sW:=uR.symm.trans sW;apply Zq.dW.y.l.t.aI.aK.l.N.dW.y.bY.dW.y.l.dG.cE.dZ.1;clear hS;intro Hh Le hS;apply Zq.c2.1
   have hfP:BR u.n (QK E)=none:=by
    have:=LY hE.ok p.1.tm Hg;rw[<-oR]at this;exact BS
   have hkQ:v.tm.k≠0:=kv
   obtain⟨ro,zX⟩:∃ro,EI (QK E) u.tm.n [v.tm] (wk+1)=ro:=⟨_,rfl⟩
   rw[zX]at sW;have xR:Rw 63 4 (.slice (some ⟨Hh,0,none⟩) 1 1) 1 (C4 [v]) [(Hh,.cells (C4 [v]++[]).toArray 63)]:=Rw.own_ rfl rfl (XF _) Ya;rw[show(400:Int)-(wk:Nat)-1=400-((wk+1:Nat):Int) by omega];refine Qx 14 9 (87::88::89::90::91::92::93::94::95::15::96::97::98::99::100::101::102::103::104::105::106::6::7::8::107::108::109::110::111::112::113::114::115::116::117::118::119::120::121::122::123::124::125::16::126::127::130::131::132::133::134::135::136::137::128::129::[]) (fun(x:List LT×Nat) s y w'=>∃(As:T4) (cs:Nat) (Os:T0),s= .slice As x.1.length cs/\y= .int .i64 (400-(x.2:Nat))/\EI (QK E) u.tm.n (x.1.reverse.map LT.tm) x.2=ro/\wk<x.2/\x.2<=400/\x.1.length<=24*x.2+1/\QzR F' x.1/\Rw 63 4 (.slice As x.1.length cs) x.1.length (C4 x.1) Os/\St M w0 (Os++((b5,.cells (AN u).toArray 63)::(b6,.cells (AN v).toArray 63)::(b4,.cells (AN p.1++AN p.2).toArray 218)::(b2,.cells (AN b).toArray 63)::(b1,.cells (AN a).toArray 63)::(g,.cells (DW (L++[p])++sp).toArray 218)::H)) F' w') (fun x=>401-x.2) (([v],wk+1)) ?_ Yb Yb ?_
   .exact⟨_,_,_,rfl,rfl,zX,by show wk<wk+1;omega,by show wk+1<=400;omega,by show 1<=24*(wk+1)+1;omega,fun x hx=>by rw[VJ.1 hx];exact⟨pG,Ld⟩,xR,hS⟩
   clear hS xR zX;rintro x s y w8 jv3 ⟨As,cs,Os,hs,hy,Lf,wB,Ay,hSl,Bi,tD,hS⟩ uV;obtain⟨S,wq⟩:=x;dsimp only at hs hy Lf wB Ay hSl Bi tD hS;subst hs hy;rcases Qeo S with rfl|⟨S,z,rfl⟩
   .have Lg:ro=(false,wq):=by rw[<-Lf];rfl
    rw[Lg,XA (by rintro(h|h);cases h;exact absurd h (by show¬400<wq;omega))]at sW;replace hS:=St.dropN hS;apply Zq.m.bP.bE.p.aE.cE.g.hG.d3.1;clear hS;intro Bj Lh hS;apply Zq.c.d5.1;replace hS:=hS.freeze
    have Bh:BO ((u.n,v.tm)::QK E):=⟨hfP,fun e=>absurd e hkQ,hE.ok⟩
    have Rz:=DU.cons (bk:=Bj) (t:=v) (v:=u.n) hE pG Ld Bh;refine ih (L,⟨u.n,v,Bj⟩::E,wq) _ _ _ _ _ ?_ ?_ Yb Yb Yb Yc
    .show 401-wq<401-wk;omega
    .exact Ya5
   have Gr:(S++[z]).length=S.length+1:=by simp
   obtain⟨sY,vX⟩:=Bi z Yd;have Eh:QzR F' S:=fun q hq=>Bi q (by simp[hq]);obtain⟨sg,Li,rfl,rfl,Sa,aAt,_⟩:=tD.some_ Ya
   have Sb:HK (C4 (S++[z])++Li) (0+((((S++[z]).length:Nat):Int)-1).toNat*4) 4 (AN z):=by
    have:=QzL (C4 S) (AN z) Li (0+((((S++[z]).length:Nat):Int)-1).toNat*4) 4 (by rw[QgO];omega) rfl;rw[OS];simpa[C4]using this
   have xS:Rw 63 4 (.slice (some ⟨sg,0,none⟩) S.length cs) S.length (C4 S) [(sg,.cells (C4 (S++[z])++Li).toArray 63)]:=by
    exact Yd5
   have wD:EI (QK E) u.tm.n (z.tm::S.reverse.map LT.tm) wq=ro:=by rw[<-Lf,WB];rfl
   by_cases hwq:wq=400
   .have sA:=Qlf (QK E) u.tm.n z.tm (S.reverse.map LT.tm) (w:=wq) Ya;rw[wD]at sA;rw[XB (.inr sA.2)]at sW;apply Zq.m.bP.c3.i.bQ.cF.cE.R.1;clear hS;intro Bj Lh hS;apply Zq.d.1;clear hS;intro Sc hS;apply Zq.cZ.bQ.h2.M.b3.b4.I.v.i.a3.eY.1;refine⟨E,F',400-(wq:Nat)-1,hF,hS.drop.drop.drop.drop.drop.drop.drop.drop,fun _=>⟨by omega,rfl⟩,fun h=> ?_,fun h=> ?_⟩
    .exact YcZ
    .exact YcZ
   apply Zq.m.bP.c3.i.bQ.cF.cE.R.1;clear hS;intro Bj Lh hS;apply Zq.d.1;clear hS;intro Sc hS;apply Zq.cZ.bQ.h2.M.b3.b4.c1.m.cE.f.nU.1;rintro _ w9 ⟨zz,rfl,vF,wE,aAu,oD⟩;apply Zq.a.1;replace hS:=oD;clear oD
   have Hi:AL zz.tm:=by rw[vF];exact LN hE.gd vX
   have tR:zz.ar.len<=24:=by
    exact Yb8
   by_cases kz:zz.k=0
   .have Sd : (Qc (QK E) z.tm).k = 0 := by rw[<- vF]; exact kz
    by_cases nz:zz.n=u.n
    .have hh:=QnI (v:=u.tm.n) (S.reverse.map LT.tm) (w:=wq) Ya Sd YaF;rw[wD]at hh;rw[hh,XB (.inl rfl)]at sW;apply Zq.d.1;clear hS;intro Ei hS;apply Zq.b.bZ.l.t.L.aK.L.aK.l.H.i.a3.eY.1;refine⟨E,F',400-(wq:Nat)-1,hF,hS.drop.drop.drop.drop.drop.drop.drop.drop,fun h=> ?_,fun h=> ?_,fun h h'=> ?_⟩
     .exact YdV
     .exact YcI
     .rw[sW]at h';cases h'
    .have uS:EI (QK E) u.tm.n (zz.ar.lts.map LT.tm++S.reverse.map LT.tm) (wq+1)=ro:=by
      have hh:=Qld (v:=u.tm.n) (S.reverse.map LT.tm) (w:=wq) Ya Sd YaF;rw[wD]at hh
      have oV:zz.ar.lts=[]:=VL (by
       have:=(Qmb Hi kz).2
       have h2:zz.ar.ts.length=0:=by show zz.tm.ar.length=0;rw[this];rfl
       rw[TA.lts_len,<-TA.len_ts];exact h2)
      rw[oV];exact hh.symm
     apply Zq.d.1;clear hS;intro Ei hS;apply Zq.b.bZ.l.t.L.aK.L.aK.l.N.p.cS.bQ.c.c7.1
     have wF:zz.ar.lts.drop zz.ar.len=[]:=by rw[<-TA.lts_len];simp
     have yW:=RO (T:=zz.ar) (GJ _ Hi);rw[show((((S++[z]).length:Nat):Int)-1).toNat=(S++(zz.ar.lts.drop zz.ar.len).reverse).length by rw[wF];simp];obtain⟨zk,zn,zs,zA,zc,pL⟩:=zz;dsimp only at tR wF yW uS;refine Qx 16 14 (126::127::130::131::132::133::134::135::136::137::128::129::[]) (fun(j:Nat) i s w'=>∃(As:T4) (cs:Nat) (Os:T0),j<=pL.len/\i= .int .i64 ((j:Nat)-1)/\s= .slice As (S++(pL.lts.drop j).reverse).length cs/\Rw 63 4 (.slice As (S++(pL.lts.drop j).reverse).length cs) (S++(pL.lts.drop j).reverse).length (C4 (S++(pL.lts.drop j).reverse)) Os/\St M w0 ((Bj,.cells [.int .i64 zk,.int .i64 zn,.string zs,.slice zA pL.len zc].toArray 63)::(Os++((b5,.cells (AN u).toArray 63)::(b6,.cells (AN v).toArray 63)::(b4,.cells (AN p.1++AN p.2).toArray 218)::(b2,.cells (AN b).toArray 63)::(b1,.cells (AN a).toArray 63)::(g,.cells (DW (L++[p])++sp).toArray 218)::H))) F' w') (fun j=>j) (pL.len) ?_ Yb Yb ?_
     .exact Ybw
     clear hS;rintro j i s w10 jv4 ⟨As,cs,Os,hj,hi,hs,xZ,hS⟩ ih3;subst hi hs
     cases j with
     |zero=>
      have e0:S++(pL.lts.drop 0).reverse=S++pL.lts.reverse:=rfl;rw[e0]at xZ;apply Zq.m.r.bE.aX.1;refine uV (S++pL.lts.reverse,wq+1) _ _ _ _ ?_ ?_ Yb Yb Yc
      .exact Yc7
      .refine⟨As,cs,Os,rfl,by congr 1;show(400:Int)-(wq:Nat)-1=400-((wq+1:Nat):Int);omega,?_,by show wk<wq+1;omega,by show wq+1<=400;omega,?_,?_,xZ,hS.drop⟩
       .exact Ya3
       .exact Ybd
       .intro x hx;rcases VG.1 hx with hx|hx
        .exact Eh x hx
        .exact Ybq
     |succ j=>
      obtain⟨D,R,x,zY,yX⟩:=TA.at_split pL j Ya
      have zZ:AB F' (AV zA zc (D.app (.cons x.k x.n x.s x.A x.c x.ar R))):=by rw[<-zY];exact wE
      obtain⟨bk,ok,rfl⟩:=(hS.und zZ).some_ YI;have oS:∀{H'} w',St M w0 H' F' w'->_:=fun w' hS=>(hS.und zZ).cells;have Hj:(((j+1:Nat):Int)-1).toNat=D.len:=by omega
      rw[<-Hj]at oS
      have Hk:pL.lts.drop j=x::pL.lts.drop (j+1):=by
       rw[zY,TA.lts_app,<-yX,<-TA.lts_len D];simp[TA.lts]
      have Ab:(S++(pL.lts.drop j).reverse)=(S++(pL.lts.drop (j+1)).reverse)++[x]:=by rw[Hk];simp
      have Ac:(pL.lts.drop (j+1)).length<=24:=by rw[V0,TA.lts_len];omega
      apply Zq.m.r.v.eR.u.bI.b6.g.cF.dI.dZ.1;clear hS;intro b25 Lj hS;apply Zq.i5.1;clear hS;intro v9 O9 Lk oO hS;obtain⟨A9,c9,rfl,_⟩:=oO.form;replace hS:=(hS.perm (XK O9 [_,_] _)).drop;apply Zq.bO.u.b3.c.1;refine ih3 j _ _ _ _ ?_ ?_ Yb Yb Yc
      .omega
      .refine⟨A9,c9,O9,by omega,by congr 1;show(((j+1:Nat):Int)-1)-1=(j:Nat)-1;omega,?_,?_,hS⟩
       .exact YdW
       .rw[Ab,XG (bs:=[x]),OS];have:C4 [x]=AN x:=by simp[C4]
        rw[this];exact oO
   .have uS:EI (QK E) u.tm.n (zz.ar.lts.map LT.tm++S.reverse.map LT.tm) (wq+1)=ro:=by
     have hh:=Qlc (v:=u.tm.n) (S.reverse.map LT.tm) (w:=wq) Ya (show(Qc (QK E) z.tm).k≠0 by rw[<-vF];exact kz);exact Yeh
    apply Zq.d.1;clear hS;intro Ei hS;apply Zq.b.bD.b6.l.bB.U.N.p.bI.b6.bQ.c.c7.1
    have wF:zz.ar.lts.drop zz.ar.len=[]:=by rw[<-TA.lts_len];simp
    have yW:=RO (T:=zz.ar) (GJ _ Hi);rw[show((((S++[z]).length:Nat):Int)-1).toNat=(S++(zz.ar.lts.drop zz.ar.len).reverse).length by rw[wF];simp];obtain⟨zk,zn,zs,zA,zc,pL⟩:=zz;dsimp only at tR wF yW uS;refine Qx 16 14 (126::127::130::131::132::133::134::135::136::137::128::129::[]) (fun(j:Nat) i s w'=>∃(As:T4) (cs:Nat) (Os:T0),j<=pL.len/\i= .int .i64 ((j:Nat)-1)/\s= .slice As (S++(pL.lts.drop j).reverse).length cs/\Rw 63 4 (.slice As (S++(pL.lts.drop j).reverse).length cs) (S++(pL.lts.drop j).reverse).length (C4 (S++(pL.lts.drop j).reverse)) Os/\St M w0 ((Bj,.cells [.int .i64 zk,.int .i64 zn,.string zs,.slice zA pL.len zc].toArray 63)::(Os++((b5,.cells (AN u).toArray 63)::(b6,.cells (AN v).toArray 63)::(b4,.cells (AN p.1++AN p.2).toArray 218)::(b2,.cells (AN b).toArray 63)::(b1,.cells (AN a).toArray 63)::(g,.cells (DW (L++[p])++sp).toArray 218)::H))) F' w') (fun j=>j) (pL.len) ?_ Yb Yb ?_
    .exact Ybw
    clear hS;rintro j i s w10 jv4 ⟨As,cs,Os,hj,hi,hs,xZ,hS⟩ ih3;subst hi hs
    cases j with
    |zero=>
     have e0:S++(pL.lts.drop 0).reverse=S++pL.lts.reverse:=rfl;rw[e0]at xZ;apply Zq.m.r.bE.aX.1;refine uV (S++pL.lts.reverse,wq+1) _ _ _ _ ?_ ?_ Yb Yb Yc
     .exact Yc7
     .refine⟨As,cs,Os,rfl,by congr 1;show(400:Int)-(wq:Nat)-1=400-((wq+1:Nat):Int);omega,?_,by show wk<wq+1;omega,by show wq+1<=400;omega,?_,?_,xZ,hS.drop⟩
      .exact Ya3
      .exact Ybd
      .intro x hx;rcases VG.1 hx with hx|hx
       .exact Eh x hx
       .exact Ybq
    |succ j=>
     obtain⟨D,R,x,zY,yX⟩:=TA.at_split pL j Ya
     have zZ:AB F' (AV zA zc (D.app (.cons x.k x.n x.s x.A x.c x.ar R))):=by rw[<-zY];exact wE
     obtain⟨bk,ok,rfl⟩:=(hS.und zZ).some_ YI;have oS:∀{H'} w',St M w0 H' F' w'->_:=fun w' hS=>(hS.und zZ).cells;have Hj:(((j+1:Nat):Int)-1).toNat=D.len:=by omega
     rw[<-Hj]at oS
     have Hk:pL.lts.drop j=x::pL.lts.drop (j+1):=by
      rw[zY,TA.lts_app,<-yX,<-TA.lts_len D];simp[TA.lts]
     have Ab:(S++(pL.lts.drop j).reverse)=(S++(pL.lts.drop (j+1)).reverse)++[x]:=by rw[Hk];simp
     have Ac:(pL.lts.drop (j+1)).length<=24:=by rw[V0,TA.lts_len];omega
     apply Zq.m.r.v.eR.u.bI.b6.g.cF.dI.dZ.1;clear hS;intro b25 Lj hS;apply Zq.i5.1;clear hS;intro v9 O9 Lk oO hS;obtain⟨A9,c9,rfl,_⟩:=oO.form;replace hS:=(hS.perm (XK O9 [_,_] _)).drop;apply Zq.bO.u.b3.c.1;refine ih3 j _ _ _ _ ?_ ?_ Yb Yb Yc
     .omega
     .refine⟨A9,c9,O9,by omega,by congr 1;show(((j+1:Nat):Int)-1)-1=(j:Nat)-1;omega,?_,?_,hS⟩
      .exact YdW
      .rw[Ab,XG (bs:=[x]),OS];have:C4 [x]=AN x:=by simp[C4]
       rw[this];exact oO
 .have Hg : (Qc (QK E) p.1.tm).k ≠ 0 := by rw [<- oR]; exact ku
  by_cases kv:v.k=0
  .have Ef : (Qc (QK E) p.2.tm).k = 0 := by rw [<- oJ]; exact kv
   have sW:=Qyo (L.reverse.map IX) (w:=wk) hE.ok Ya Hg Ef;rw[<-oR,<-oJ]at sW;replace sW:=uR.symm.trans sW;apply Zq.dB.l.bX.N.dB.l.v.d8.dI.dI.d.1;clear hS;intro Le hS;apply Zq.d.1;clear hS;intro Lh hS;apply Zq.a2.bD.b6.l.dG.dI.dZ.1;clear hS;intro Hh Sc hS;apply Zq.c2.1
   have hfP:BR v.n (QK E)=none:=by
    have:=LY hE.ok p.2.tm Ef;rw[<-oJ]at this;exact BS
   have hkQ:u.tm.k≠0:=ku
   obtain⟨ro,zX⟩:∃ro,EI (QK E) v.tm.n [u.tm] (wk+1)=ro:=⟨_,rfl⟩
   rw[zX]at sW;have xR:Rw 63 4 (.slice (some ⟨Hh,0,none⟩) 1 1) 1 (C4 [u]) [(Hh,.cells (C4 [u]++[]).toArray 63)]:=Rw.own_ rfl rfl (XF _) Ya;rw[show(400:Int)-(wk:Nat)-1=400-((wk+1:Nat):Int) by omega];refine Qx 14 9 (87::88::89::90::91::92::93::94::95::15::96::97::98::99::100::101::102::103::104::105::106::6::7::8::107::108::109::110::111::112::113::114::115::116::117::118::119::120::121::122::123::124::125::16::126::127::130::131::132::133::134::135::136::137::128::129::[]) (fun(x:List LT×Nat) s y w'=>∃(As:T4) (cs:Nat) (Os:T0),s= .slice As x.1.length cs/\y= .int .i64 (400-(x.2:Nat))/\EI (QK E) v.tm.n (x.1.reverse.map LT.tm) x.2=ro/\wk<x.2/\x.2<=400/\x.1.length<=24*x.2+1/\QzR F' x.1/\Rw 63 4 (.slice As x.1.length cs) x.1.length (C4 x.1) Os/\St M w0 (Os++((b5,.cells (AN v).toArray 63)::(b6,.cells (AN u).toArray 63)::(b4,.cells (AN p.1++AN p.2).toArray 218)::(b2,.cells (AN b).toArray 63)::(b1,.cells (AN a).toArray 63)::(g,.cells (DW (L++[p])++sp).toArray 218)::H)) F' w') (fun x=>401-x.2) (([u],wk+1)) ?_ Yb Yb ?_
   .exact⟨_,_,_,rfl,rfl,zX,by show wk<wk+1;omega,by show wk+1<=400;omega,by show 1<=24*(wk+1)+1;omega,fun x hx=>by rw[VJ.1 hx];exact⟨pT,tu⟩,xR,hS⟩
   clear hS xR zX;rintro x s y w8 jv3 ⟨As,cs,Os,hs,hy,Lf,wB,Ay,hSl,Bi,tD,hS⟩ uV;obtain⟨S,wq⟩:=x;dsimp only at hs hy Lf wB Ay hSl Bi tD hS;subst hs hy;rcases Qeo S with rfl|⟨S,z,rfl⟩
   .have Lg:ro=(false,wq):=by rw[<-Lf];rfl
    rw[Lg,XA (by rintro(h|h);cases h;exact absurd h (by show¬400<wq;omega))]at sW;replace hS:=St.dropN hS;apply Zq.m.bP.bE.p.L.b6.dI.g.hG.d3.1;clear hS;intro Bj Ei hS;apply Zq.c.d5.1;replace hS:=hS.freeze
    have Bh:BO ((v.n,u.tm)::QK E):=⟨hfP,fun e=>absurd e hkQ,hE.ok⟩
    have Rz:=DU.cons (bk:=Bj) (t:=u) (v:=v.n) hE pT tu Bh;refine ih (L,⟨v.n,u,Bj⟩::E,wq) _ _ _ _ _ ?_ ?_ Yb Yb Yb Yc
    .show 401-wq<401-wk;omega
    .exact Ya5
   have Gr:(S++[z]).length=S.length+1:=by simp
   obtain⟨sY,vX⟩:=Bi z Yd;have Eh:QzR F' S:=fun q hq=>Bi q (by simp[hq]);obtain⟨sg,Li,rfl,rfl,Sa,aAt,_⟩:=tD.some_ Ya
   have Sb:HK (C4 (S++[z])++Li) (0+((((S++[z]).length:Nat):Int)-1).toNat*4) 4 (AN z):=by
    have:=QzL (C4 S) (AN z) Li (0+((((S++[z]).length:Nat):Int)-1).toNat*4) 4 (by rw[QgO];omega) rfl;rw[OS];simpa[C4]using this
   have xS:Rw 63 4 (.slice (some ⟨sg,0,none⟩) S.length cs) S.length (C4 S) [(sg,.cells (C4 (S++[z])++Li).toArray 63)]:=by
    exact Yd5
   have wD:EI (QK E) v.tm.n (z.tm::S.reverse.map LT.tm) wq=ro:=by rw[<-Lf,WB];rfl
   by_cases hwq:wq=400
   .have sA:=Qlf (QK E) v.tm.n z.tm (S.reverse.map LT.tm) (w:=wq) Ya;rw[wD]at sA;rw[XB (.inr sA.2)]at sW;apply Zq.m.bP.c3.i.bQ.cF.dI.R.1;clear hS;intro Bj Ei hS;apply Zq.d.1;clear hS;intro Lj hS;apply Zq.cZ.bQ.h2.M.b3.b4.I.v.i.a3.eY.1;refine⟨E,F',400-(wq:Nat)-1,hF,hS.drop.drop.drop.drop.drop.drop.drop.drop,fun _=>⟨by omega,rfl⟩,fun h=> ?_,fun h=> ?_⟩
    .exact YcZ
    .exact YcZ
   apply Zq.m.bP.c3.i.bQ.cF.dI.R.1;clear hS;intro Bj Ei hS;apply Zq.d.1;clear hS;intro Lj hS;apply Zq.cZ.bQ.h2.M.b3.b4.c1.m.dI.f.nU.1;rintro _ w9 ⟨zz,rfl,vF,wE,aAu,oD⟩;apply Zq.a.1;replace hS:=oD;clear oD
   have Hi:AL zz.tm:=by rw[vF];exact LN hE.gd vX
   have tR:zz.ar.len<=24:=by
    exact Yb8
   by_cases kz:zz.k=0
   .have Sd : (Qc (QK E) z.tm).k = 0 := by rw[<- vF]; exact kz
    by_cases nz:zz.n=v.n
    .have hh:=QnI (v:=v.tm.n) (S.reverse.map LT.tm) (w:=wq) Ya Sd YaF;rw[wD]at hh;rw[hh,XB (.inl rfl)]at sW;apply Zq.d.1;clear hS;intro Se hS;apply Zq.b.bD.b6.l.t.cJ.dC.cJ.dC.l.H.i.a3.eY.1;refine⟨E,F',400-(wq:Nat)-1,hF,hS.drop.drop.drop.drop.drop.drop.drop.drop,fun h=> ?_,fun h=> ?_,fun h h'=> ?_⟩
     .exact YdV
     .exact YcI
     .rw[sW]at h';cases h'
    .have uS:EI (QK E) v.tm.n (zz.ar.lts.map LT.tm++S.reverse.map LT.tm) (wq+1)=ro:=by
      have hh:=Qld (v:=v.tm.n) (S.reverse.map LT.tm) (w:=wq) Ya Sd YaF;rw[wD]at hh
      have oV:zz.ar.lts=[]:=VL (by
       have:=(Qmb Hi kz).2
       have h2:zz.ar.ts.length=0:=by show zz.tm.ar.length=0;rw[this];rfl
       rw[TA.lts_len,<-TA.len_ts];exact h2)
      rw[oV];exact hh.symm
     apply Zq.d.1;clear hS;intro Se hS;apply Zq.b.bD.b6.l.t.cJ.dC.cJ.dC.l.N.p.bI.b6.bQ.c.c7.1
     have wF:zz.ar.lts.drop zz.ar.len=[]:=by rw[<-TA.lts_len];simp
     have yW:=RO (T:=zz.ar) (GJ _ Hi);rw[show((((S++[z]).length:Nat):Int)-1).toNat=(S++(zz.ar.lts.drop zz.ar.len).reverse).length by rw[wF];simp];obtain⟨zk,zn,zs,zA,zc,pL⟩:=zz;dsimp only at tR wF yW uS;refine Qx 16 14 (126::127::130::131::132::133::134::135::136::137::128::129::[]) (fun(j:Nat) i s w'=>∃(As:T4) (cs:Nat) (Os:T0),j<=pL.len/\i= .int .i64 ((j:Nat)-1)/\s= .slice As (S++(pL.lts.drop j).reverse).length cs/\Rw 63 4 (.slice As (S++(pL.lts.drop j).reverse).length cs) (S++(pL.lts.drop j).reverse).length (C4 (S++(pL.lts.drop j).reverse)) Os/\St M w0 ((Bj,.cells [.int .i64 zk,.int .i64 zn,.string zs,.slice zA pL.len zc].toArray 63)::(Os++((b5,.cells (AN v).toArray 63)::(b6,.cells (AN u).toArray 63)::(b4,.cells (AN p.1++AN p.2).toArray 218)::(b2,.cells (AN b).toArray 63)::(b1,.cells (AN a).toArray 63)::(g,.cells (DW (L++[p])++sp).toArray 218)::H))) F' w') (fun j=>j) (pL.len) ?_ Yb Yb ?_
     .exact Ybw
     clear hS;rintro j i s w10 jv4 ⟨As,cs,Os,hj,hi,hs,xZ,hS⟩ ih3;subst hi hs
     cases j with
     |zero=>
      have e0:S++(pL.lts.drop 0).reverse=S++pL.lts.reverse:=rfl;rw[e0]at xZ;apply Zq.m.r.bE.aX.1;refine uV (S++pL.lts.reverse,wq+1) _ _ _ _ ?_ ?_ Yb Yb Yc
      .exact Yc7
      .refine⟨As,cs,Os,rfl,by congr 1;show(400:Int)-(wq:Nat)-1=400-((wq+1:Nat):Int);omega,?_,by show wk<wq+1;omega,by show wq+1<=400;omega,?_,?_,xZ,hS.drop⟩
       .exact Ya3
       .exact Ybd
       .intro x hx;rcases VG.1 hx with hx|hx
        .exact Eh x hx
        .exact Ybq
     |succ j=>
      obtain⟨D,R,x,zY,yX⟩:=TA.at_split pL j Ya
      have zZ:AB F' (AV zA zc (D.app (.cons x.k x.n x.s x.A x.c x.ar R))):=by rw[<-zY];exact wE
      obtain⟨bk,ok,rfl⟩:=(hS.und zZ).some_ YI;have oS:∀{H'} w',St M w0 H' F' w'->_:=fun w' hS=>(hS.und zZ).cells;have Hj:(((j+1:Nat):Int)-1).toNat=D.len:=by omega
      rw[<-Hj]at oS
      have Hk:pL.lts.drop j=x::pL.lts.drop (j+1):=by
       rw[zY,TA.lts_app,<-yX,<-TA.lts_len D];simp[TA.lts]
      have Ab:(S++(pL.lts.drop j).reverse)=(S++(pL.lts.drop (j+1)).reverse)++[x]:=by rw[Hk];simp
      have Ac:(pL.lts.drop (j+1)).length<=24:=by rw[V0,TA.lts_len];omega
      apply Zq.m.r.v.eR.u.bI.b6.g.cF.dI.dZ.1;clear hS;intro b25 aAw hS;apply Zq.i5.1;clear hS;intro v9 O9 Lk oO hS;obtain⟨A9,c9,rfl,_⟩:=oO.form;replace hS:=(hS.perm (XK O9 [_,_] _)).drop;apply Zq.bO.u.b3.c.1;refine ih3 j _ _ _ _ ?_ ?_ Yb Yb Yc
      .omega
      .refine⟨A9,c9,O9,by omega,by congr 1;show(((j+1:Nat):Int)-1)-1=(j:Nat)-1;omega,?_,?_,hS⟩
       .exact YdW
       .rw[Ab,XG (bs:=[x]),OS];have:C4 [x]=AN x:=by simp[C4]
        rw[this];exact oO
   .have uS:EI (QK E) v.tm.n (zz.ar.lts.map LT.tm++S.reverse.map LT.tm) (wq+1)=ro:=by
     have hh:=Qlc (v:=v.tm.n) (S.reverse.map LT.tm) (w:=wq) Ya (show(Qc (QK E) z.tm).k≠0 by rw[<-vF];exact kz);exact Yeh
    apply Zq.d.1;clear hS;intro Se hS;apply Zq.b.bD.b6.l.bB.U.N.p.bI.b6.bQ.c.c7.1
    have wF:zz.ar.lts.drop zz.ar.len=[]:=by rw[<-TA.lts_len];simp
    have yW:=RO (T:=zz.ar) (GJ _ Hi);rw[show((((S++[z]).length:Nat):Int)-1).toNat=(S++(zz.ar.lts.drop zz.ar.len).reverse).length by rw[wF];simp];obtain⟨zk,zn,zs,zA,zc,pL⟩:=zz;dsimp only at tR wF yW uS;refine Qx 16 14 (126::127::130::131::132::133::134::135::136::137::128::129::[]) (fun(j:Nat) i s w'=>∃(As:T4) (cs:Nat) (Os:T0),j<=pL.len/\i= .int .i64 ((j:Nat)-1)/\s= .slice As (S++(pL.lts.drop j).reverse).length cs/\Rw 63 4 (.slice As (S++(pL.lts.drop j).reverse).length cs) (S++(pL.lts.drop j).reverse).length (C4 (S++(pL.lts.drop j).reverse)) Os/\St M w0 ((Bj,.cells [.int .i64 zk,.int .i64 zn,.string zs,.slice zA pL.len zc].toArray 63)::(Os++((b5,.cells (AN v).toArray 63)::(b6,.cells (AN u).toArray 63)::(b4,.cells (AN p.1++AN p.2).toArray 218)::(b2,.cells (AN b).toArray 63)::(b1,.cells (AN a).toArray 63)::(g,.cells (DW (L++[p])++sp).toArray 218)::H))) F' w') (fun j=>j) (pL.len) ?_ Yb Yb ?_
    .exact Ybw
    clear hS;rintro j i s w10 jv4 ⟨As,cs,Os,hj,hi,hs,xZ,hS⟩ ih3;subst hi hs
    cases j with
    |zero=>
     have e0:S++(pL.lts.drop 0).reverse=S++pL.lts.reverse:=rfl;rw[e0]at xZ;apply Zq.m.r.bE.aX.1;refine uV (S++pL.lts.reverse,wq+1) _ _ _ _ ?_ ?_ Yb Yb Yc
     .exact Yc7
     .refine⟨As,cs,Os,rfl,by congr 1;show(400:Int)-(wq:Nat)-1=400-((wq+1:Nat):Int);omega,?_,by show wk<wq+1;omega,by show wq+1<=400;omega,?_,?_,xZ,hS.drop⟩
      .exact Ya3
      .exact Ybd
      .intro x hx;rcases VG.1 hx with hx|hx
       .exact Eh x hx
       .exact Ybq
    |succ j=>
     obtain⟨D,R,x,zY,yX⟩:=TA.at_split pL j Ya
     have zZ:AB F' (AV zA zc (D.app (.cons x.k x.n x.s x.A x.c x.ar R))):=by rw[<-zY];exact wE
     obtain⟨bk,ok,rfl⟩:=(hS.und zZ).some_ YI;have oS:∀{H'} w',St M w0 H' F' w'->_:=fun w' hS=>(hS.und zZ).cells;have Hj:(((j+1:Nat):Int)-1).toNat=D.len:=by omega
     rw[<-Hj]at oS
     have Hk:pL.lts.drop j=x::pL.lts.drop (j+1):=by
      rw[zY,TA.lts_app,<-yX,<-TA.lts_len D];simp[TA.lts]
     have Ab:(S++(pL.lts.drop j).reverse)=(S++(pL.lts.drop (j+1)).reverse)++[x]:=by rw[Hk];simp
     have Ac:(pL.lts.drop (j+1)).length<=24:=by rw[V0,TA.lts_len];omega
     apply Zq.m.r.v.eR.u.bI.b6.g.cF.dI.dZ.1;clear hS;intro b25 aAw hS;apply Zq.i5.1;clear hS;intro v9 O9 Lk oO hS;obtain⟨A9,c9,rfl,_⟩:=oO.form;replace hS:=(hS.perm (XK O9 [_,_] _)).drop;apply Zq.bO.u.b3.c.1;refine ih3 j _ _ _ _ ?_ ?_ Yb Yb Yc
     .omega
     .refine⟨A9,c9,O9,by omega,by congr 1;show(((j+1:Nat):Int)-1)-1=(j:Nat)-1;omega,?_,?_,hS⟩
      .exact YdW
      .rw[Ab,XG (bs:=[x]),OS];have:C4 [x]=AN x:=by simp[C4]
       rw[this];exact oO
  have Ef:(Qc (QK E) p.2.tm).k≠0:=by rw[<-oJ];exact kv
  have sE:¬(u.k=v.k/\u.n=v.n/\u.s=v.s/\u.ar.len=v.ar.len)->r=⟨false,QK E,wk+1⟩:=fun hh=>by
   have:=Qyp (L.reverse.map IX) (w:=wk) Ya Hg Ef (by
    rw[<-oR,<-oJ];rintro⟨x1,x2,x3,x4⟩
    exact hh ⟨x1,x2,x3,by rw[<-TA.len_ts,<-TA.len_ts];exact x4⟩)
   exact uR.symm.trans this
  have Sf:u.ar.len<=24:=by
   have h1:=tu.2;have h2:=Ts.length_le u.ar.ts;rw[TA.len_ts]at h2;have h3:u.ar.ts.nodes+1<=24:=h1;omega
  have Dg:v.ar.len<=24:=by
   have h1:=Ld.2;have h2:=Ts.length_le v.ar.ts;rw[TA.len_ts]at h2;have h3:v.ar.ts.nodes+1<=24:=h1;omega
  by_cases q1:¬(u.k=v.k)
  .skip
   apply Zq.dB.l.bX.N.dB.bY.dB.bY.dB.aI.b6.Q.bB.U.q.bB.U.q.c8.U.H.i.a3.eY.1;refine⟨E,F',400-(wk:Nat)-1,hF,hS.drop.drop.drop.drop.drop.drop,fun h=> ?_,fun h=> ?_,fun h h'=> ?_⟩
   .rw[sE (fun h=>q1 h.1)]at h;exact absurd h YaG
   .rw[sE (fun h=>q1 h.1)];exact Ybf
   .rw[sE (fun h=>q1 h.1)]at h';cases h'
  replace q1:=XaS.1 q1;by_cases q2:¬(u.n=v.n)
  .skip
   apply Zq.dB.l.bX.N.dB.bY.dB.bY.dB.aI.b6.Q.t.cJ.dC.cJ.dC.Q.q.bB.U.q.c8.U.H.i.a3.eY.1;refine⟨E,F',400-(wk:Nat)-1,hF,hS.drop.drop.drop.drop.drop.drop,fun h=> ?_,fun h=> ?_,fun h h'=> ?_⟩
   .rw[sE (fun h=>q2 h.2.1)]at h;exact absurd h YaG
   .rw[sE (fun h=>q2 h.2.1)];exact Ybf
   .rw[sE (fun h=>q2 h.2.1)]at h';cases h'
  replace q2:=XaS.1 q2;by_cases q3:¬(u.s=v.s)
  .skip
   apply Zq.dB.l.bX.N.dB.bY.dB.bY.dB.aI.b6.Q.t.cJ.dC.cJ.dC.Q.q.t.Y.j.dC.Y.j.dC.dD.q.c8.U.H.i.a3.eY.1;refine⟨E,F',400-(wk:Nat)-1,hF,hS.drop.drop.drop.drop.drop.drop,fun h=> ?_,fun h=> ?_,fun h h'=> ?_⟩
   .rw[sE (fun h=>q3 h.2.2.1)]at h;exact absurd h YaG
   .rw[sE (fun h=>q3 h.2.2.1)];exact Ybf
   .rw[sE (fun h=>q3 h.2.2.1)]at h';cases h'
  replace q3:=XaS.1 q3;by_cases q4:¬(u.ar.len=v.ar.len)
  .skip
   apply Zq.dB.l.bX.N.dB.bY.dB.bY.dB.aI.b6.Q.t.cJ.dC.cJ.dC.Q.q.t.Y.j.dC.Y.j.dC.dD.q.t.bI.j.dC.dA.bI.j.dC.dA.Q.H.i.a3.eY.1;refine⟨E,F',400-(wk:Nat)-1,hF,hS.drop.drop.drop.drop.drop.drop,fun h=> ?_,fun h=> ?_,fun h h'=> ?_⟩
   .rw[sE (fun h=>q4 h.2.2.2)]at h;exact absurd h YaG
   .rw[sE (fun h=>q4 h.2.2.2)];exact Ybf
   .rw[sE (fun h=>q4 h.2.2.2)]at h';cases h'
  replace q4:=XaS.1 q4;clear sE
  have sW:GK ((u.ar.lts.zip v.ar.lts).map IX++L.reverse.map IX) (QK E) (wk+1)=r:=by
   have:=Qyq (L.reverse.map IX) (w:=wk) Ya Hg Ef (by
    rw[<-oR,<-oJ]
    exact⟨q1,q2,q3,by show u.ar.ts.length=v.ar.ts.length;rw[TA.len_ts,TA.len_ts];exact q4⟩)
   rw[<-oR,<-oJ]at this;rw[Qth,TA.lts_tm,TA.lts_tm];exact this.symm.trans uR
  have tR:(u.ar.lts.zip v.ar.lts).length=u.ar.len:=by rw[List.length_zip,TA.lts_len,TA.lts_len];omega
  have wF:(u.ar.lts.zip v.ar.lts).drop u.ar.len=[]:=by rw[<-tR];simp
  have htu:=RO (T:=u.ar) (GJ _ tu);have wU:=RO (T:=v.ar) (GJ _ Ld);replace hS:=hS.perm (WT [_,_] (XK [_,_,_] [_] H));apply Zq.dB.l.bX.N.dB.bY.dB.bY.dB.aI.b6.Q.t.cJ.dC.cJ.dC.Q.q.t.Y.j.dC.Y.j.dC.dD.q.t.bI.j.dC.dA.bI.j.dC.dA.Q.N.p.bI.b6.bQ.c.c7.1;rw[show((((L++[p]).length:Nat):Int)-1).toNat=(L++((u.ar.lts.zip v.ar.lts).drop u.ar.len).reverse).length by rw[wF];simp];obtain⟨uk,un,us,uA,uc,tO⟩:=u;obtain⟨vk,vn,vs,vA,vc,var⟩:=v;dsimp only at tR wF htu wU sW Sf Dg q4;refine Qx 17 10 (178::179::182::183::184::185::186::187::188::189::190::191::192::193::194::195::180::181::[]) (fun(j:Nat) i s w'=>∃(As:T4) (cs:Nat) (Os:T0),j<=tO.len/\i= .int .i64 ((j:Nat)-1)/\s= .slice As (L++((tO.lts.zip var.lts).drop j).reverse).length cs/\Rw 218 8 (.slice As (L++((tO.lts.zip var.lts).drop j).reverse).length cs) (L++((tO.lts.zip var.lts).drop j).reverse).length (DW (L++((tO.lts.zip var.lts).drop j).reverse)) Os/\St M w0 ((b5,.cells [.int .i64 uk,.int .i64 un,.string us,.slice uA tO.len uc].toArray 63)::(b6,.cells [.int .i64 vk,.int .i64 vn,.string vs,.slice vA var.len vc].toArray 63)::(Os++((b4,.cells (AN p.1++AN p.2).toArray 218)::(b2,.cells (AN b).toArray 63)::(b1,.cells (AN a).toArray 63)::H))) F' w') (fun j=>j) (tO.len) ?_ Yb Yb ?_
  .exact⟨_,_,_,XF _,rfl,rfl,by rw[wF];simpa using xQ,hS⟩
  clear hS;rintro j i s w10 jv4 ⟨As,cs,Os,hj,hi,hs,xZ,hS⟩ ih3;subst hi hs
  cases j with
  |zero=>
   have e0:L++((tO.lts.zip var.lts).drop 0).reverse=L++(tO.lts.zip var.lts).reverse:=rfl;rw[e0]at xZ;apply Zq.m.r.bE.aX.1;refine ih (L++(tO.lts.zip var.lts).reverse,E,wk+1) _ _ _ _ _ ?_ ?_ Yb Yb Yb Yc
   .exact Yd7
   .refine⟨As,cs,Os,F',rfl,by congr 1;show(400:Int)-(wk:Nat)-1=400-((wk+1:Nat):Int);omega,rfl,?_,by show wk+1<=400;omega,?_,hF,hE,?_,xZ,(hS.drop.drop.perm ((XK Os [_] _).trans (List.Perm.cons _ (XK Os [_,_] H)))).drop⟩
    .show GK ((L++(tO.lts.zip var.lts).reverse).reverse.map IX) _ _=r;rw[WB,WU,VD];exact sW
    .show(L++(tO.lts.zip var.lts).reverse).length<=24*(wk+1)+1;rw[XG,WJ,tR];omega
    .intro x hx;rcases VG.1 hx with hx|hx
     .exact Ry x hx
     .have hx:=JD.1 hx;have Co:=List.of_mem_zip (a:=x.1) (b:=x.2) hx;exact⟨fun w hw=>(pT w hw).lts x.1 Co.1,fun w hw=>(pG w hw).lts x.2 Co.2,htu x.1 Co.1,wU x.2 Co.2⟩
  |succ j=>
   obtain⟨D,R,x,zY,yX⟩:=TA.at_split tO j Ya;obtain⟨D2,R2,y,hDy,aAx⟩:=TA.at_split var j Ya
   have Fl:AB F' (AV uA uc (D.app (.cons x.k x.n x.s x.A x.c x.ar R))):=by rw[<-zY];exact pT
   have Fm:AB F' (AV vA vc (D2.app (.cons y.k y.n y.s y.A y.c y.ar R2))):=by rw[<-hDy];exact pG
   obtain⟨bk,ok,rfl⟩:=(hS.und Fl).some_ YI;obtain⟨bk2,ok2,rfl⟩:=(hS.und Fm).some_ YI;have oS:∀{H'} w',St M w0 H' F' w'->_:=fun w' hS=>(hS.und Fl).cells;have xY:∀{H'} w',St M w0 H' F' w'->_:=fun w' hS=>(hS.und Fm).cells;have Hj:(((j+1:Nat):Int)-1).toNat=D.len:=by omega
   have aAy:(((j+1:Nat):Int)-1).toNat=D2.len:=by omega
   rw[<-Hj]at oS;rw[<-aAy]at xY
   have Ii:tO.lts.drop j=x::R.lts:=by rw[zY,TA.lts_app,<-yX,<-TA.lts_len D];simp[TA.lts]
   have Na:var.lts.drop j=y::R2.lts:=by rw[hDy,TA.lts_app,<-aAx,<-TA.lts_len D2];simp[TA.lts]
   have Hk:(tO.lts.zip var.lts).drop j=(x,y)::(tO.lts.zip var.lts).drop (j+1):=by
    have e1:(tO.lts.zip var.lts).drop j=(x,y)::R.lts.zip R2.lts:=by rw[QoL,Ii,Na];rfl
    have e2:(tO.lts.zip var.lts).drop (j+1)=R.lts.zip R2.lts:=by rw[<-Xba,e1];rfl
    rw[e1,e2]
   have Ab:L++((tO.lts.zip var.lts).drop j).reverse=(L++((tO.lts.zip var.lts).drop (j+1)).reverse)++[(x,y)]:=by rw[Hk];simp
   have Ac:((tO.lts.zip var.lts).drop (j+1)).length<=24:=by rw[V0,tR];omega
   apply Zq.m.r.v.eR.1;refine PX 10 (182::183::184::185::186::187::188::189::190::191::192::193::194::195::[]) (fun s w'=>∃(A9:T4) (c9:Nat) (O9:T0),s= .slice A9 ((L++((tO.lts.zip var.lts).drop (j+1)).reverse).length+1) c9/\Rw 218 8 (.slice A9 ((L++((tO.lts.zip var.lts).drop (j+1)).reverse).length+1) c9) ((L++((tO.lts.zip var.lts).drop (j+1)).reverse).length+1) (DW (L++((tO.lts.zip var.lts).drop (j+1)).reverse)++DW [(x,y)]) O9/\St M w0 ((b5,.cells [.int .i64 uk,.int .i64 un,.string us,.slice (some ⟨bk,ok,none⟩) tO.len uc].toArray 63)::(b6,.cells [.int .i64 vk,.int .i64 vn,.string vs,.slice (some ⟨bk2,ok2,none⟩) var.len vc].toArray 63)::(O9++((b4,.cells (AN p.1++AN p.2).toArray 218)::(b2,.cells (AN b).toArray 63)::(b1,.cells (AN a).toArray 63)::H))) F' w') ?_ ?_
   .intro oF;refine K1 (fun w=>∃O:T0,St M w0 ((b5,.cells [.int .i64 uk,.int .i64 un,.string us,.slice (some ⟨bk,ok,none⟩) tO.len uc].toArray 63)::(b6,.cells [.int .i64 vk,.int .i64 vn,.string vs,.slice (some ⟨bk2,ok2,none⟩) var.len vc].toArray 63)::(O++((b4,.cells (AN p.1++AN p.2).toArray 218)::(b2,.cells (AN b).toArray 63)::(b1,.cells (AN a).toArray 63)::H))) F' w) 15 (.read 0 (.read 1 (.read 2 (.read 3 (.read 4 (.read 5 (.read 6 (.read 7 (.read 8 (.read 9 (.read 10 (.read 11 (.pick 12 (.pick 13 (.read 14 .tail) .none) .none))))))))))))) Yc Yc ⟨_,hS.drew⟩ ?_;replace hS:=hS.drew;apply Zq.eJ.hJ.k9.eJ.n6.lJ.hJ.k9.eJ.n6.lJ.1;refine Qj rfl (fun _ ⟨_,hS⟩=>QD (cells:=[_,_,_,_,_,_,_,_]) (.cons Yb (.cons Yb .nil)) rfl) rfl ?_;apply Zq.a0.lN.1;clear hS;intro Hh Le hS;apply Zq.l2.a0.1;refine QuP (u:=(x,y)) hS Yb Yi rfl rfl rfl (QG.own (sp:=[]) (hS.own (_,_) (.head _)) rfl (XF _)) xZ (XK [_,_,_] Os _) (by rw[XG,WJ];omega) rfl ?_;clear hS;intro v9 O9 Lk oO hS;obtain⟨A9,c9,rfl,_⟩:=oO.form;replace hS:=hS.perm (XK O9 [_,_,_] _);apply Zq.l2.1;refine Qj rfl (fun _ ⟨_,hS⟩=>Qfr Yb) rfl ?_;apply Zq.eB.b.1;exact oF _ _ _ ⟨A9,c9,O9,rfl,oO,hS.drop⟩ Yb Yc
   clear hS;rintro _ _ _ ⟨A9,c9,O9,rfl,oO,hS⟩;apply Zq.aX.u.b3.c.1;refine ih3 j _ _ _ _ ?_ ?_ Yb Yb Yc
   .omega
   .refine⟨A9,c9,O9,by omega,by congr 1;show(((j+1:Nat):Int)-1)-1=(j:Nat)-1;omega,?_,?_,hS⟩
    .rw[Ab,XG (bs:=[(x,y)])];rfl
    .rw[Ab,XG (bs:=[(x,y)]),QjR];exact oO
end
end Go.Proofs.YthliapbflkfdiacGreatDoor
