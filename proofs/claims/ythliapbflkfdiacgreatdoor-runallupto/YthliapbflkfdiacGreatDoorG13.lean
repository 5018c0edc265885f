/- Steps of the proof. -/
import Derived.Test.YthliapbflkfdiacGreatDoorG12
namespace Go.Proofs.YthliapbflkfdiacGreatDoor
open Go.RowKit
set_option linter.unusedVariables false
set_option linter.unusedSimpArgs false
set_option maxRecDepth 100000
set_option maxHeartbeats 1000000
structure OE where
 k:Int
 A:Option Addr
 c:Nat
 T:TA
def OE.ev (x:OE):Ev:=(x.k,x.T.ts)
abbrev Qui (x:OE):List Value:=[.int .i64 x.k,.slice x.A x.T.len x.c]
def oeL:List OE→List Value
 |[]=>[]
 |x::r=>Qui x++oeL r
theorem Qs1:∀L,(oeL L).length=L.length*2
 |[]=>rfl
 |x::r=>by simp only [oeL,List.length_append,Qs1 r,List.length_cons];show 2+_=_;omega
theorem QlR:∀L K,oeL (L++K)=oeL L++oeL K
 |[],K=>rfl
 |x::r,K=>by simp only [oeL,List.cons_append,QlR r K,List.append_assoc]
theorem QpF:∀L,(oeL L).all (·.oneCell')=true
 |[]=>rfl
 |x::r=>by simp only [oeL,List.all_append,QpF r,Bool.and_true];rfl
abbrev Qd2 (pA:Option Addr) (np pc q:Nat) (p:Qax) (oA:Option Addr) (no oc:Nat):List Value:=[.slice pA np pc,.int .i64 (q:Nat),.int .i64 (p.fuel:Nat),.int .i64 (p.vars:Nat),.slice oA no oc,.bool p.ended,.int .i64 (p.calls:Nat)]
def PSt (M:List Nat) (w0:World) (H:List (Nat×Obj)) (F:List (World→Prop)) (pb:Nat) (pA:Option Addr) (np pc q:Nat) (p:Qax) (w:World):Prop:=
 ∃(K:List OE) (oA:Option Addr) (oc:Nat) (O:List (Nat×Obj)),K.map OE.ev=p.out∧(∀x∈K,Und F (ArA x.A x.c x.T))∧Rw 34 2 (.slice oA K.length oc) K.length (oeL K) O∧
  St M w0 ((pb,.cells (Qd2 pA np pc q p oA K.length oc).toArray 109)::(O++H)) F w
theorem Qm1 {P:Program} {n:Nat} {e:Env} {w:World} {Q:Exit→Act→World→Prop} {ops:Array Oper} {rest:List Oper} {ty:TypeId} {pos:String} {after:Array Edge} {d:Nat} {M:List Nat} {w0:World} {F:List (World→Prop)} {H H':List (Nat×Obj)} {x y:Operand} {v:Value} {t tx:TypeId} {el len c:Nat} {A:Option Addr} {u:OE} {xs:List Value} {O:List (Nat×Obj)} (hS:St M w0 H F w) (hx:ev n e x=v) (hy:ev n e y= .slice A 1 c)
  (hT:Qw P t=some el) (hTx:Qw P tx=some el) (hi:Qpu P el=some (2,32)) (hL:Qz 2 (oeL [u]) A 1 c w) (hrow:Rw el 2 v len xs O)
  (hP:H.Perm (O++H')) (hbig:len+1≤1099511627776) (hd:Nat.blt d n=true)
  (h:∀v' O' w',Rw el 2 v' (len+1) (xs++oeL [u]) O'→St M w0 (O'++H') F w'→Lst P Q ops rest n ((d,v')::e) w'):
  Lst P Q ops (⟨some d,.call ⟨.builtin .append, #[x,y], #[t,tx]⟩,ty,pos,after,none⟩::rest) n e w:=by
 obtain ⟨i,z,h2,h3,h4,h5,h6⟩:=QaG hi;refine QaR (k:=1) (ys:=oeL [u]) hS hx hy hT hTx h2 h3 h4 (by rw [h5];rfl) (by rw [h5];exact hL.src hTx (QpF _)) Yau hP Yar Ya hd ?_;rw [h5];exact h
section
variable {M:List Nat} {w0:World} {H:List (Nat×Obj)} {F:List (World→Prop)}
theorem Qc0 (pb:Nat) (pA:Option Addr) (np pc q:Nat) (p:Qax) (k:Int) (w:World) (ho:p.out.length≤100) (hP:PSt M w0 H F pb pA np pc q p w):
  Calls Tryz.prog 63 #[.pointer (some ⟨pb,0,none⟩),.int .i64 k] w fun e w'=>e= .returned (.int .i64 (-1))∧PSt M w0 H F pb pA np pc q (Qea k p) w':=by
 obtain ⟨K,oA,oc,O,hK,hKr,hrow,hS⟩:=hP
 have hKl:K.length≤100:=by have:=congrArg List.length hK;simp at this;omega
 refine Qo Tryz.func63 rfl Tryz.ntmps63 rfl ?_;refine Zl ?_;refine Zt ?_;refine ZB ?_;refine ZaC ?_;refine Zm ?_;refine Ze ?_;refine Qa (QB (cells:=[_,_]) (.cons Yb .nil) rfl) rfl ?_;refine Ze3 ?_;clear hS;intro b1 wx1 hS;refine Qm1 (u:=⟨k,none,0,.nil⟩) hS Yb Yi rfl rfl rfl (Qz.own (sp:=[]) (hS.own (_,_) (.head _)) rfl (Nat.le_refl _)) hrow (List.perm_append_comm_assoc [_,_] O _) Ya rfl ?_;clear hS;intro v7 O7 w7 hrow7 hS;obtain ⟨B7,d7,rfl,_⟩:=hrow7.form;replace hS:=(hS.perm (List.perm_append_comm_assoc O7 [_,_] _)).drop;refine ZB ?_;refine ZaC ?_;refine Zy ?_;clear hS;intro wx2 hS;refine Zch ?_;refine Zc8 ?_;refine Zy ?_;clear hS;intro wx3 hS;refine Zc ?_;refine Zl ?_;refine Qg Tryz.func63 rfl Yb ?_;refine ⟨rfl,K++[⟨k,none,0,.nil⟩],B7,d7,O7,?_,?_,?_,?_⟩
 ·rw [List.map_append,hK];rfl
 ·intro x hx;rcases List.mem_append.1 hx with hx|hx
  ·exact hKr x hx
  ·rw [List.mem_singleton.1 hx];exact fun w _=>⟨Nat.le_refl _,fun h=>absurd h Yag⟩
 ·rw [List.length_append,QlR];exact hrow7
 ·rw [List.length_append];exact hS
end
abbrev lvO (l:Int):Obj:= .cells [.int .i64 l].toArray 3
def QjL (B:Bnd) (f:Nat) (t:Tm) (l:Nat):Option (Tm×Nat):=QcE Qb4 B f t l
def QjI (B:Bnd) (f:Nat) (T:List Tm) (l:Nat):Option (Ts×Nat):=Qcm (QcE Qb4 B f) T l
theorem Qhx (B:Bnd) (f:Nat) (t:Tm):QjL B f t 0=none:=by
 cases f<;>rfl
theorem QqF (B:Bnd) (f:Nat) (t:Tm) (l:Nat):QjL B (f+1) t (l+1)=if (Qc B t).k=0 then some (⟨0,(Qc B t).n,⟨#[]⟩,.nil⟩,l) else match QjI B f (Qc B t).ar.tms l with
  |none=>none
  |some (T,l')=>some (⟨(Qc B t).k,(Qc B t).n,(Qc B t).s,T⟩,l'):=by
 have e:QjL B (f+1) t (l+1)=QcE Qb4 B (f+1) t (l+1):=rfl;rw [e];simp only [QcE];rw [if_neg (Nat.succ_ne_zero l),show Qb4.view B t=tvw (Qc B t) from rfl,Nat.add_sub_cancel];unfold tvw;by_cases hk:(Qc B t).k=0
 ·rw [if_pos hk,if_pos hk]
 ·rw [if_neg hk,if_neg hk]
  cases hq:QjI B f (Qc B t).ar.tms l with
  |none=>
   have hq':Qcm (QcE Qb4 B f) (Qc B t).ar.tms l=none:=hq;show (match Qcm (QcE Qb4 B f) (Qc B t).ar.tms l with|none=>none|some (T,l')=>some (_,l'))=_;rw [hq']
  |some q=>
   have hq':Qcm (QcE Qb4 B f) (Qc B t).ar.tms l=some q:=hq;show (match Qcm (QcE Qb4 B f) (Qc B t).ar.tms l with|none=>none|some (T,l')=>some ((⟨(Qc B t).k,(Qc B t).n,(Qc B t).s,T⟩:Tm),l'))=_;rw [hq']
theorem Qhb (B:Bnd) (f:Nat) (x:Tm):∀(T:List Tm) (l:Nat),QjI B f (T++[x]) l=match QjI B f T l with
  |none=>none
  |some (U,n)=>match QjL B f x n with
   |none=>none
   |some (t,n')=>some (U.app (.cons t.k t.n t.s t.ar .nil),n')
 |[],l=>by
  show Qcm (QcE Qb4 B f) [x] l=match QjL B f x l with
   |none=>none
   |some (t,n')=>some (Ts.nil.app (.cons t.k t.n t.s t.ar .nil),n')
  simp only [Qcm]
  show (match QjL B f x l with
   |none=>none
   |some (t,l')=>some (Ts.cons t.k t.n t.s t.ar .nil,l'))=_
  cases QjL B f x l with
  |none=>rfl
  |some p=>obtain ⟨a,b⟩:=p;rfl
 |y::T,l=>by
  have ih:=Qhb B f x T
  have e:∀(L:List Tm) (l:Nat),QjI B f (y::L) l=match QjL B f y l with
   |none=>none
   |some (t,l')=>match QjI B f L l' with
    |none=>none
    |some (U,l'')=>some (.cons t.k t.n t.s t.ar U,l''):=fun L l=>rfl
  rw [List.cons_append,e,e]
  cases QjL B f y l with
  |none=>rfl
  |some p=>
   obtain ⟨a,b⟩:=p;dsimp only;rw [ih]
   cases QjI B f T b with
   |none=>rfl
   |some q=>
    obtain ⟨U,n⟩:=q;dsimp only
    cases QjL B f x n with
    |none=>rfl
    |some r=>obtain ⟨c,d⟩:=r;rfl
def WOk (o:Option (Tm×Nat)) (u:LT) (l l':Int):Prop:=(match o with|some (T,n)=>u.tm=T∧l'=(n:Int)|none=>l'<0)∧l-1-5*(max l 0-max l' 0)≤l'∧max l' 0≤max l 0
def MOk (o:Option (Ts×Nat)) (T:Ts) (l':Int):Prop:=match o with|some (U,n)=>T=U∧l'=(n:Int)|none=>l'<0
def Qtr (f:Nat):Prop:=∀(M:List Nat) (w0:World) (H:List (Nat×Obj)) (F:List (World→Prop)) (E:List EN) (t:LT) (lb:Nat) (l:Int) (w:World),EOk F E→Und F (LRd t)→tgd t.tm→l≤200→-100000≤l→l≤f→St M w0 ((lb,lvO l)::H) F w→
 Calls Tryz.prog 158 #[Qen E,tv t,.pointer (some ⟨lb,0,none⟩)] w fun e w'=>∃(u:LT) (l':Int) (F':List (World→Prop)),e= .returned (tv u)∧(∀φ∈F,φ∈F')∧Und F' (LRd u)∧WOk (QjL (Qx E) (f+1) t.tm l.toNat) u l l'∧St M w0 ((lb,lvO l')::H) F' w'
theorem Qms (f:Nat) (ihf:∀g,f=g+1→Qtr g):Qtr f:=by
 intro M w0 H F E t lb l w hE ht gt h200 hlo hlf hS;refine QE Tryz.func158 rfl Tryz.ntmps158 rfl ?_;by_cases h0:l≤0
 ·have e0:l.toNat=0:=by omega
  rw [e0,Qhx];refine Zg ?_;clear hS;intro b1 wx1 hS;refine ZG ?_;clear hS;intro b2 wx2 hS;refine Zao ?_;refine ZB ?_;refine Zm ?_;refine Zbr ?_;refine ZB ?_;refine Zy ?_;clear hS;intro wx3 hS;refine Zch ?_;refine Zm ?_;refine ZH ?_;refine ZcF ?_;refine ZcL ?_;clear hS;intro wx4 hS;refine Zc ?_;refine ZgA ?_;exact ⟨⟨0,0,⟨#[]⟩,none,0,.nil⟩,l-1,F,rfl,fun _ h=>h,fun w _=>⟨Nat.le_refl _,fun h=>absurd h Yag⟩,⟨by show l-1<0;omega,by omega,by omega⟩,hS.drop.drop⟩
 obtain ⟨m,rfl⟩:∃m:Nat,l=(m:Int)+1:=⟨(l-1).toNat,by omega⟩
 obtain ⟨f,rfl⟩:∃g,f=g+1:=⟨f-1,by omega⟩
 have ihf:=ihf f rfl;have e1:((m:Int)+1).toNat=m+1:=by omega
 rw [e1,QqF];refine Zg ?_;clear hS;intro b1 wx1 hS;refine ZG ?_;clear hS;intro b2 wx2 hS;refine Zao ?_;refine ZB ?_;refine Zm ?_;refine Zbr ?_;refine ZB ?_;refine Zy ?_;clear hS;intro wx3 hS;refine Zch ?_;refine Zm ?_;refine ZH ?_;refine Zz ?_;refine Zv ?_;refine ZaB ?_;refine Zj ?_;refine Calls.mono (Qcf E t _ hE.rd ht hE.ok hS) ?_;rintro _ w3 ⟨zz,rfl,hz1,hz2,hz3,hS'⟩;refine Za ?_;replace hS:=hS';clear hS';rw [←hz1]
 have tz:tgd zz.tm:=by rw [hz1];exact Qc7 hE.gd gt
 have hzl:zz.ar.len≤4:=by
  have:=tz.1;simp only [Ts.good,Bool.and_eq_true] at this;have hn:=this.1.1;have hl:zz.tm.ar.length=zz.ar.len:=TA.len_ts _;rw [hl] at hn;unfold Qai at hn;split at hn
  ·simp only [Bool.and_eq_true,decide_eq_true_eq] at hn;omega
  split at hn
  ·simp only [Bool.and_eq_true,decide_eq_true_eq] at hn;omega
  split at hn
  ·simp only [Bool.and_eq_true,decide_eq_true_eq] at hn;omega
  split at hn
  ·simp only [Bool.and_eq_true,decide_eq_true_eq] at hn;omega
  ·cases hn
 have htg:=Qeb (T:=zz.ar) (Qac _ tz);refine Zb ?_;clear hS;intro wx4 hS;refine ZcM ?_;refine ZbE ?_;refine ZdL ?_;refine Zba ?_;refine Zy ?_;clear hS;intro wx5 hS;refine Zao ?_;refine ZN ?_;refine Qr 28 (29::30::31::9::32::33::34::35::36::37::38::39::40::41::[]) (fun (R:TA) v w'=>∃(D Td:TA) (Au:Option Addr) (cu:Nat) (Ou:List (Nat×Obj)) (lc:Int) (F':List (World→Prop)),zz.ar=D.app R∧v= .int .i64 (D.len:Nat)∧(∀φ∈F,φ∈F')∧Und F' (Qli Td)∧Td.len=D.len∧MOk (QjI (Qx E) (f+1) D.ts.tms m) Td.ts lc∧(m:Int)-D.len-5*((m:Int)-max lc 0)≤lc∧max lc 0≤m∧Rw 63 4 (.slice Au Td.len cu) Td.len (QfK Td) Ou∧St M w0 ((b2,.cells [.int .i64 0,.int .i64 0,.string ⟨#[]⟩,.slice none 0 0].toArray 63)::(b1,.cells [.int .i64 zz.k,.int .i64 zz.n,.string zz.s,.slice Au Td.len cu].toArray 63)::(lb,lvO lc)::(Ou++H)) F' w') (fun R=>R.len) (zz.ar) ?_ Yb ?_
 ·refine ⟨.nil,.nil,none,0,[],m,F,rfl,rfl,fun _ h=>h,fun _ _=>trivial,rfl,⟨rfl,rfl⟩,by simp only [TA.len];omega,by omega,Rw.zero_,?_⟩;rw [show ((m:Int)+1)-1=m by omega] at hS;exact hS
 clear hS;rintro R _ w4 jv ⟨D,Td,Au,cu,Ou,lc,F',hD,rfl,hF,hAT,hTl,hM,hb1,hb2,hrow,hS⟩ ih;have hlen:zz.ar.len=D.len+R.len:=by rw [hD,TA.len_app]
 cases R with
 |nil=>
  have e0:zz.ar=D:=by rw [hD,TA.app_nil]
  have hnl:TA.nil.len=0:=rfl;replace hS:=hS.perm (List.perm_append_comm_assoc [_,_,_] Ou _);obtain ⟨F9,hF9,hA9,hS'⟩:=St.freezeT hrow hAT hS;clear hS;have hS:=hS';clear hS';refine ZL ?_;refine Zf ?_;refine ZaB ?_;refine Zb ?_;clear hS;intro wx6 hS;refine Zc ?_;refine ZgA ?_;refine ⟨⟨zz.k,zz.n,zz.s,Au,cu,Td⟩,lc,F9,rfl,fun φ h=>hF9 φ (hF φ h),hA9,⟨?_,by omega,by omega⟩,hS.drop.drop⟩;rw [←e0] at hM;by_cases hk:zz.k=0
  ·rw [if_pos (show zz.tm.k=0 from hk)];obtain ⟨x1,x2⟩:=QiS tz hk;have hz0:zz.ar.ts= .nil:=x2;rw [hz0] at hM;obtain ⟨y1,y2⟩:Td.ts= .nil∧lc=(m:Int):=hM;refine ⟨?_,y2⟩;show (⟨zz.k,zz.n,zz.s,Td.ts⟩:Tm)=⟨0,zz.n,⟨#[]⟩,.nil⟩;rw [y1,hk,show zz.s=⟨#[]⟩ from x1]
  ·rw [if_neg (show¬zz.tm.k=0 from hk)];show (match (match QjI (Qx E) (f+1) zz.ar.ts.tms m with|none=>none|some (T,l')=>some ((⟨zz.k,zz.n,zz.s,T⟩:Tm),l')) with|some (T,n)=>(⟨zz.k,zz.n,zz.s,Td.ts⟩:Tm)=T∧lc=(n:Int)|none=>lc<0)
   cases hq:QjI (Qx E) (f+1) zz.ar.ts.tms m with
   |none=>rw [hq] at hM;exact hM
   |some q=>
    obtain ⟨U,n⟩:=q;rw [hq] at hM;obtain ⟨y1,y2⟩:Td.ts=U∧lc=(n:Int):=hM;exact ⟨by rw [y1],y2⟩
 |cons k1 n1 s1 A1 c1 a1 r=>
  have hRl:(TA.cons k1 n1 s1 A1 c1 a1 r).len=r.len+1:=rfl
  have hA':Und F' (ArA zz.A zz.c (D.app (.cons k1 n1 s1 A1 c1 a1 r))):=by rw [←hD];exact Und.mono hz2 hF
  obtain ⟨bk,ok,hzA⟩:=(hS.und hA').some_ YH;rw [hzA] at hA'⊢;have hcc:∀{H'} w',St M w0 H' F' w'→_:=fun w' hS=>(hS.und hA').cells;have hsub:Und F' (LRd ⟨k1,n1,s1,A1,c1,a1⟩):=fun w hw=>(hA' w hw).sub
  have hEF:EOk F' E:=⟨hE.rd.mono hF,hE.ok,hE.gd⟩
  have gx:tgd (LT.tm ⟨k1,n1,s1,A1,c1,a1⟩):=htg ⟨k1,n1,s1,A1,c1,a1⟩ (by rw [hD,TA.lts_app];simp [TA.lts]);refine Zb2 ?_;refine ZdI ?_;clear hS;intro b3 wx6 hS;refine Zb ?_;clear hS;intro wx7 hS;refine Zc ?_;replace hS:=hS.perm (List.Perm.cons _ (List.Perm.swap _ _ _));refine Qbx 39 (32::33::34::35::36::37::38::40::[]) (fun y w'=>∃(u2:LT) (l2:Int) (F2:List (World→Prop)) (A9:Option Addr) (c9:Nat) (O9:List (Nat×Obj)),(∀φ∈F',φ∈F2)∧Und F2 (LRd u2)∧WOk (QjL (Qx E) (f+1) (LT.tm ⟨k1,n1,s1,A1,c1,a1⟩) lc.toNat) u2 lc l2∧Rw 63 4 (.slice A9 (Td.len+1) c9) (Td.len+1) (QfK Td++tcs u2) O9∧St M w0 ((b3,.cells [.int .i64 k1,.int .i64 n1,.string s1,.slice A1 a1.len c1].toArray 63)::(b1,.cells [.int .i64 zz.k,.int .i64 zz.n,.string zz.s,.slice A9 (Td.len+1) c9].toArray 63)::(b2,.cells [.int .i64 0,.int .i64 0,.string ⟨#[]⟩,.slice none 0 0].toArray 63)::(lb,lvO l2)::(O9++H)) F2 w') ?_ ?_
  ·intro hmeet;refine QaA (fun w=>∃O:List (Nat×Obj),St M w0 ((b3,.cells [.int .i64 k1,.int .i64 n1,.string s1,.slice A1 a1.len c1].toArray 63)::(b1,.cells [.int .i64 zz.k,.int .i64 zz.n,.string zz.s,.slice Au Td.len cu].toArray 63)::O) F' w) 9 (.read 0 (.read 1 (.read 2 (.read 3 (.read 4 (.pick 5 (.pick 6 (.pick 7 (.read 8 .tail) .none) .none) .none)))))) Yc Yc ⟨_,hS.drew⟩ ?_;replace hS:=hS.drew;refine Zem ?_
   first
    |refine Qh rfl (fun _ ⟨_,hS⟩=>Qe hS rfl rfl Ym Yf) rfl ?_
    |refine Qh rfl (fun _ ⟨_,hS⟩=>Qi rfl rfl (by first|assumption|exact (hcc _ hS).1|exact (hcc _ hS).2.1|exact (hcc _ hS).2.2.1|exact (hcc _ hS).2.2.2|exact hS.cell0 Ye|exact lv_next hS|exact lv_list hS)) rfl ?_
   refine ZaN ?_
   first
    |refine Qh rfl (fun _ ⟨_,hS⟩=>Qb (k:=4) hS rfl rfl rfl Ym Yf) rfl ?_
    |refine Qh rfl (fun _ ⟨_,hS⟩=>Qb (k:=4) hS rfl rfl rfl Ym Ye) rfl ?_
    |refine Qh rfl (fun _ ⟨_,hS⟩=>QQ rfl rfl rfl Yu Yu Yu Yu) rfl ?_
   refine ZaN ?_;refine ZcN ?_;refine Calls.mono (ihf M w0 _ F' E ⟨k1,n1,s1,A1,c1,a1⟩ lb lc _ hEF hsub gx Ya Ya Ya (hS.perm (List.perm_append_comm_assoc [_,_,_] [_] _))) ?_;rintro _ w5 ⟨u2,l2,F2,rfl,hF2,hu2,hW2,hS'⟩;refine Za ?_;clear hS;have hS:=hS'.perm (List.perm_append_comm_assoc [_] [_,_,_] _);clear hS';refine ZfE ?_;refine ZX ?_;refine Zas ?_;clear hS;intro b4 wx8 hS;refine ZfE ?_;refine ZX ?_;refine Qi8 (u:=u2) hS Yb Yi rfl rfl rfl (Qz.own (sp:=[]) (hS.own (_,_) (.head _)) rfl (Nat.le_refl _)) hrow (List.perm_append_comm_assoc [_,_,_,_,_] Ou _) Ya rfl ?_;clear hS;intro v9 O9 w11 hrow9 hS;obtain ⟨A9,c9,rfl,_⟩:=hrow9.form;replace hS:=hS.perm (List.perm_append_comm_assoc O9 [_,_,_,_,_] _);refine ZfE ?_;refine Zem ?_;refine Zef ?_;refine Zy ?_;clear hS;intro wx9 hS;refine Zc ?_;exact hmeet _ _ _ ⟨u2,l2,F2,A9,c9,O9,hF2,hu2,hW2,hrow9,hS.drop⟩ Yb Yc
  clear hS;rintro jv2 _ w6 ⟨u2,l2,F2,A9,c9,O9,hF2,hu2,hW2,hrow9,hS⟩
  have e1:(Td.app (.cons u2.k u2.n u2.s u2.A u2.c u2.ar .nil)).len=Td.len+1:=by rw [TA.len_app];rfl
  obtain ⟨hw1,hw2,hw3⟩:=hW2;refine ZbA ?_;rw [←hzA];refine ih (r) _ _ _ ?_ ?_ Yb Yc
  ·omega
  ·refine ⟨D.app (.cons k1 n1 s1 A1 c1 a1 .nil),Td.app (.cons u2.k u2.n u2.s u2.A u2.c u2.ar .nil),A9,c9,O9,l2,F2,by rw [hD,TA.app_assoc];rfl,by rw [TA.len_app];rfl,fun φ h=>hF2 φ (hF φ h),?_,?_,?_,?_,by omega,?_,?_⟩
   ·exact fun w hw=>Qli.app (U:= .cons u2.k u2.n u2.s u2.A u2.c u2.ar .nil) ⟨hu2 w hw,trivial⟩ ((hAT.mono hF2) w hw)
   ·rw [e1,TA.len_app,hTl];rfl
   ·have es:(D.app (.cons k1 n1 s1 A1 c1 a1 .nil)).ts.tms=D.ts.tms++[LT.tm ⟨k1,n1,s1,A1,c1,a1⟩]:=by rw [←TA.lts_tm,←TA.lts_tm,TA.lts_app,List.map_append];rfl
    rw [es,Qhb];unfold MOk at hM⊢
    cases hq:QjI (Qx E) (f+1) D.ts.tms m with
    |none=>
     rw [hq] at hM;have hlc:lc<0:=hM;rw [show lc.toNat=0 by omega,Qhx] at hw1;exact hw1
    |some x=>
     obtain ⟨U,n⟩:=x;rw [hq] at hM;obtain ⟨y1,y2⟩:Td.ts=U∧lc=(n:Int):=hM;rw [show lc.toNat=n by omega] at hw1;dsimp only
     cases hq2:QjL (Qx E) (f+1) (LT.tm ⟨k1,n1,s1,A1,c1,a1⟩) n with
     |none=>rw [hq2] at hw1;exact hw1
     |some x2=>
      obtain ⟨T2,n2⟩:=x2;rw [hq2] at hw1;obtain ⟨z1,z2⟩:u2.tm=T2∧l2=(n2:Int):=hw1;refine ⟨?_,z2⟩;rw [TA.app_ts,y1,←z1];rfl
   ·rw [TA.len_app];show (m:Int)-((D.len+1:Nat):Int)-5*((m:Int)-max l2 0)≤l2;omega
   ·rw [e1,Qf4];exact hrow9
   ·rw [e1];exact (hS.perm (List.Perm.cons _ (List.Perm.swap _ _ _))).drop
theorem QhR:∀f,Qtr f
 |0=>Qms 0 fun g h=>by omega
 |f+1=>Qms (f+1) fun g h=>by
                      have:f=g:=by omega
                      subst this;exact QhR f
def qvs:Nat→Nat→List Tm
 |0,_=>[]
 |m+1,v=>⟨0,(v:Nat),⟨#[]⟩,.nil⟩::qvs m (v+1)
theorem QmQ:∀m v,qvs (m+1) v=qvs m v++[⟨0,((v+m:Nat):Int),⟨#[]⟩,.nil⟩]
 |0,v=>by simp [qvs]
 |m+1,v=>by
  rw [qvs,QmQ m (v+1),qvs,show v+1+m=v+(m+1) by omega];rfl
theorem QjR (B:Bnd):∀(m v l:Nat),Qfb Qd3 B m v l=QjI B 201 (qvs m v) l
 |0,v,l=>rfl
 |m+1,v,l=>by
  have e:QjI B 201 (qvs (m+1) v) l=match QjL B 201 ⟨0,(v:Nat),⟨#[]⟩,.nil⟩ l with
   |none=>none
   |some (t,l')=>match QjI B 201 (qvs m (v+1)) l' with
    |none=>none
    |some (U,l'')=>some (.cons t.k t.n t.s t.ar U,l''):=rfl
  have e2:Qfb Qd3 B (m+1) v l=match QjL B 201 ⟨0,(v:Nat),⟨#[]⟩,.nil⟩ l with
   |none=>none
   |some (t,l')=>match Qfb Qd3 B m (v+1) l' with
    |none=>none
    |some (U,l'')=>some (.cons t.k t.n t.s t.ar U,l''):=rfl
  rw [e,e2]
  cases QjL B 201 ⟨0,(v:Nat),⟨#[]⟩,.nil⟩ l with
  |none=>rfl
  |some x=>
   obtain ⟨a,b⟩:=x;dsimp only;rw [QjR B m (v+1) b]
theorem Qfo {X:Type} {g:X→Nat→Option (Tm×Nat)} (hg:∀x l p,g x l=some p→p.1.ar.nodes+1+p.2≤l):∀(L:List X) (l:Nat) (p:Ts×Nat),Qcm g L l=some p→p.1.nodes+p.2≤l
 |[],l,p,h=>by simp only [Qcm,Option.some.injEq] at h;subst h;simp [Ts.nodes]
 |x::r,l,p,h=>by
  simp only [Qcm] at h
  cases h1:g x l with
  |none=>rw [h1] at h;cases h
  |some q=>
   obtain ⟨a,b⟩:=q;rw [h1] at h;dsimp only at h
   cases h2:Qcm g r b with
   |none=>rw [h2] at h;cases h
   |some q2=>
    obtain ⟨U,c⟩:=q2;rw [h2] at h;dsimp only at h;cases h
    have i1:=hg x l _ h1;have i2:=Qfo hg r b _ h2;dsimp only at i1 i2;simp only [Ts.nodes];omega
theorem QiG {A:Sy} {σ:A.S}:∀(f:Nat) (x:A.X) (l:Nat) (p:Tm×Nat),QcE A σ f x l=some p→p.1.ar.nodes+1+p.2≤l
 |0,x,l,p,h=>by cases h
 | f + 1, x, l, p, h => by
  simp only [QcE] at h;split at h
  ·cases h
  ·cases hv:A.view σ x with
   |var u=>rw [hv] at h;cases h;simp only [Ts.nodes];omega
   |node k n s ar=>
    rw [hv] at h;dsimp only at h
    cases h2:Qcm (QcE A σ f) ar (l-1) with
    |none=>rw [h2] at h;cases h
    |some q=>
     obtain ⟨U,c⟩:=q;rw [h2] at h;dsimp only at h;cases h
     have:=Qfo (fun x l p hh=>QiG f x l p hh) ar (l-1) _ h2;dsimp only at this⊢;omega
theorem Qoi {B:Bnd} {f:Nat} {L:List Tm} {l:Nat} {p:Ts×Nat} (h:QjI B f L l=some p):p.1.nodes+p.2≤l:=Qfo (fun x l p hh=>QiG (A:=Qb4) f x l p hh) L l p h
section
variable {M:List Nat} {w0:World} {H:List (Nat×Obj)} {F:List (World→Prop)}
theorem Qq9 (E:List EN) (pb:Nat) (pA:Option Addr) (np pc q:Nat) (p:Qax) (w:World) (hq:q≤8) (ho:p.out.length≤12) (hE:EOk F E) (hP:PSt M w0 H F pb pA np pc q p w):
  Calls Tryz.prog 102 #[.pointer (some ⟨pb,0,none⟩),Qen E] w fun e w'=>∃F':List (World→Prop),e= .returned (.int .i64 (Qec q (Qx E) p).1)∧(∀φ∈F,φ∈F')∧PSt M w0 H F' pb pA np pc q (Qec q (Qx E) p).2 w':=by
 obtain ⟨K,oA,oc,O,hK,hKr,hrow,hS⟩:=hP
 have hKl:K.length≤12:=by have:=congrArg List.length hK;simp at this;omega
 unfold Qec;rw [QjR];refine Qo Tryz.func102 rfl Tryz.ntmps102 rfl ?_;refine Zl ?_;refine Zf ?_;refine Zen ?_;clear hS;intro b1 wx1 hS;refine Zy ?_;clear hS;intro wx2 hS;refine Zc ?_;refine Zx ?_;refine ZB ?_;refine Zcc ?_;refine Zdt ?_;refine Qy 12 6 (13::14::7::15::16::17::18::19::20::21::22::[]) (fun (k:Nat) v y w'=>∃(i:Nat) (Td:TA) (Au:Option Addr) (cu:Nat) (Ou:List (Nat×Obj)) (lc:Int) (F':List (World→Prop)),i+k=q∧v= .int .i64 (i:Nat)∧y= .slice Au Td.len cu∧Td.len=i∧(∀φ∈F,φ∈F')∧Und F' (Qli Td)∧MOk (QjI (Qx E) 201 (qvs i 0) 200) Td.ts lc∧(200:Int)-i-5*(200-max lc 0)≤lc∧max lc 0≤200∧Rw 63 4 (.slice Au Td.len cu) Td.len (QfK Td) Ou∧St M w0 ((b1,lvO lc)::(pb,.cells (Qd2 pA np pc q p oA K.length oc).toArray 109)::(Ou++(O++H))) F' w') (fun k=>k) (q) ?_ Yb Yb ?_
 ·exact ⟨0,.nil,none,0,[],200,F,by omega,rfl,rfl,rfl,fun _ h=>h,fun _ _=>trivial,⟨rfl,rfl⟩,by omega,by omega,Rw.zero_,hS⟩
 clear hS;rintro k _ _ w3 jv ⟨i,Td,Au,cu,Ou,lc,F',hik,rfl,rfl,hTl,hF,hAT,hM,hb1,hb2,hrt,hS⟩ ih
 have hEF:EOk F' E:=⟨hE.rd.mono hF,hE.ok,hE.gd⟩
 cases k with
 |succ k=>
  refine Zax ?_;refine ZT ?_;refine ZK ?_;refine Qa (QB (cells:=[_,_,_,_]) (.cons Yb .nil) rfl) rfl ?_;refine Zab ?_;refine Calls.mono (QhR 200 M w0 _ F' E ⟨0,(i:Nat),⟨#[]⟩,none,0,.nil⟩ b1 lc _ hEF (fun w _=>⟨Nat.le_refl _,fun h=>absurd h Yag⟩) (QsK Ya) Ya Ya Ya hS) ?_;rintro _ w5 ⟨u2,l2,F2,rfl,hF2,hu2,⟨hw1,hw2,hw3⟩,hS'⟩;refine Za ?_;replace hS:=hS';clear hS';refine Zas ?_;clear hS;intro b2 wx3 hS;refine Qi8 (u:=u2) hS Yb Yi rfl rfl rfl (Qz.own (sp:=[]) (hS.own (_,_) (.head _)) rfl (Nat.le_refl _)) hrt (List.perm_append_comm_assoc [_,_,_] Ou _) Ya rfl ?_;clear hS;intro v9 O9 w11 hrow9 hS;obtain ⟨A9,c9,rfl,_⟩:=hrow9.form;replace hS:=(hS.perm (List.perm_append_comm_assoc O9 [_,_,_] _)).drop
  have e1:(Td.app (.cons u2.k u2.n u2.s u2.A u2.c u2.ar .nil)).len=Td.len+1:=by rw [TA.len_app];rfl
  refine Zap ?_;refine ih (k) _ _ _ _ ?_ ?_ Yb Yb Yc
  ·omega
  ·refine ⟨i+1,Td.app (.cons u2.k u2.n u2.s u2.A u2.c u2.ar .nil),A9,c9,O9,l2,F2,by omega,by simp,by rw [e1],by rw [e1,hTl],fun φ h=>hF2 φ (hF φ h),?_,?_,by omega,by omega,?_,hS⟩
   ·exact fun w hw=>Qli.app (U:= .cons u2.k u2.n u2.s u2.A u2.c u2.ar .nil) ⟨hu2 w hw,trivial⟩ ((hAT.mono hF2) w hw)
   ·rw [QmQ,Qhb,Nat.zero_add];unfold MOk at hM⊢
    cases hq1:QjI (Qx E) 201 (qvs i 0) 200 with
    |none=>
     rw [hq1] at hM;have hlc:lc<0:=hM;rw [show lc.toNat=0 by omega,Qhx] at hw1;exact hw1
    |some x=>
     obtain ⟨U,n⟩:=x;rw [hq1] at hM;obtain ⟨y1,y2⟩:Td.ts=U∧lc=(n:Int):=hM;rw [show lc.toNat=n by omega] at hw1;dsimp only;have hw1':(match QjL (Qx E) 201 ⟨0,(i:Nat),⟨#[]⟩,.nil⟩ n with|some (T,n)=>u2.tm=T∧l2=(n:Int)|none=>l2<0):=hw1
     cases hq2:QjL (Qx E) 201 ⟨0,(i:Nat),⟨#[]⟩,.nil⟩ n with
     |none=>rw [hq2] at hw1';exact hw1'
     |some x2=>
      obtain ⟨T2,n2⟩:=x2;rw [hq2] at hw1';obtain ⟨z1,z2⟩:u2.tm=T2∧l2=(n2:Int):=hw1';refine ⟨?_,z2⟩;rw [TA.app_ts,y1,←z1];rfl
   ·rw [e1,Qf4];exact hrow9
 |zero=>
 obtain rfl:i=q:=by omega
 clear ih
 cases hq1:QjI (Qx E) 201 (qvs i 0) 200 with
 |none=>
  rw [hq1] at hM;have hlc:lc<0:=hM;refine ZL ?_;refine ZaI ?_;refine Zm ?_;refine Zca ?_;refine Zv ?_;replace hS:=St.dropN (hS.drop.perm (List.perm_append_comm_assoc [_] Ou _));refine Zj ?_;refine Calls.mono (Qc0 pb pA np pc i p 4 _ Ya ⟨K,oA,oc,O,hK,fun x hx=>(hKr x hx).mono hF,hrow,hS⟩) ?_;rintro _ w6 ⟨rfl,hP'⟩;refine ZM ?_;refine ZfF ?_;exact ⟨F',rfl,hF,hP'⟩
 |some x=>
  obtain ⟨U,n⟩:=x;rw [hq1] at hM;obtain ⟨y1,y2⟩:Td.ts=U∧lc=(n:Int):=hM;have hnd:=Qoi hq1;dsimp only at hnd⊢;replace hS:=hS.perm (List.perm_append_comm_assoc [_,_] Ou _);obtain ⟨F9,hF9,hA9,hS'⟩:=St.freezeT hrt hAT hS;clear hS;have hS:=hS';clear hS';have hF09:∀φ∈F,φ∈F9:=fun φ h=>hF9 φ (hF φ h);refine ZL ?_;refine ZaI ?_;refine Zm ?_;refine ZH ?_;refine Zz ?_;refine Zp ?_;replace hS:=hS.drop;refine Qbx 36 (27::28::29::30::31::32::33::34::35::37::38::[]) (fun y w'=>∃(A7:Option Addr) (c7:Nat) (L7:TA) (F7:List (World→Prop)) (A9:Option Addr) (c9:Nat) (O9:List (Nat×Obj)),(∀φ∈F9,φ∈F7)∧Und F7 (ArA A7 c7 L7)∧L7.ts=Td.ts.tidy∧Rw 34 2 (.slice A9 (K.length+1) c9) (K.length+1) (oeL K++oeL [⟨1,A7,c7,L7⟩]) O9∧St M w0 ((pb,.cells (Qd2 pA np pc i p A9 (K.length+1) c9).toArray 109)::(O9++H)) F7 w') ?_ ?_
  ·intro hmeet;refine QaA (fun w=>∃Oh:List (Nat×Obj),St M w0 ((pb,.cells (Qd2 pA np pc i p oA K.length oc).toArray 109)::Oh) F9 w) 12 (.read 0 (.read 1 (.read 2 (.read 3 (.read 4 (.read 5 (.pick 6 (.read 7 (.pick 8 (.pick 9 (.read 10 (.read 11 .tail)) .none) .none)) .none))))))) Yc Yc ⟨_,hS.drew⟩ ?_;replace hS:=hS.drew;refine ZaN ?_;refine ZaN ?_;refine Ze4 ?_;refine Qh rfl (fun _ ⟨_,hS⟩=>Qf (off:=4) rfl rfl) rfl ?_
   first
    |refine Qh rfl (fun _ ⟨_,hS⟩=>Qe hS rfl rfl Ym Yf) rfl ?_
    |refine Qh rfl (fun _ ⟨_,hS⟩=>Qi rfl rfl (by first|assumption|exact hS.cell0 Ye|exact lv_next hS|exact lv_list hS)) rfl ?_
   refine ZaN ?_;refine ZX ?_;refine Zs ?_;refine Calls.mono (QnO Td.ts (.slice Au Td.len cu) _ (hS.und hA9).sl (by rw [y1];omega)) ?_;rintro _ w7 ⟨v7,rfl,hsl7,hb7⟩;refine Za ?_;obtain ⟨A7,c7,L7,rfl,hL7,hS'⟩:=hS.located hb7 hsl7;clear hS
   obtain ⟨F7,hF7,hA7,hS⟩:∃F7:List (World→Prop),(∀φ∈F9,φ∈F7)∧Und F7 (ArA A7 c7 L7)∧St _ _ _ F7 _:=⟨_,fun φ h=> .tail _ h,Und.head,hS'⟩
   clear hS';refine ZfG ?_;refine Qh rfl (fun _ ⟨_,hS⟩=>QB (cells:=[_,_]) (.cons Yb (.cons Yb .nil)) rfl) rfl ?_;refine ZX ?_;refine Ze3 ?_;clear hS;intro b2 wx3 hS;refine ZfG ?_;refine ZX ?_;refine Qm1 (u:=⟨1,A7,c7,L7⟩) hS Yb Yi rfl rfl rfl (Qz.own (sp:=[]) (hS.own (_,_) (.head _)) rfl (Nat.le_refl _)) hrow (List.perm_append_comm_assoc [_,_] O _) Ya rfl ?_;clear hS;intro v9 O9 w11 hrow9 hS;obtain ⟨A9,c9,rfl,_⟩:=hrow9.form;replace hS:=hS.perm (List.perm_append_comm_assoc O9 [_,_] _);refine ZfG ?_;refine Ze4 ?_;refine Qh rfl (fun _ ⟨_,hS⟩=>Qf (off:=4) rfl rfl) rfl ?_;refine Zef ?_;refine Zy ?_;clear hS;intro wx4 hS;refine Zc ?_;exact hmeet _ _ _ ⟨A7,c7,L7,F7,A9,c9,O9,hF7,hA7,hL7,hrow9,hS.drop⟩ Yb Yc
  clear hS;rintro jv2 _ w8 ⟨A7,c7,L7,F7,A9,c9,O9,hF7,hA7,hL7,hrow9,hS⟩
  have hP2:∀w',St M w0 ((pb,.cells (Qd2 pA np pc i p A9 (K.length+1) c9).toArray 109)::(O9++H)) F7 w'→PSt M w0 H F7 pb pA np pc i ⟨p.fuel,p.vars,p.calls,p.out++[(1,U.tidy)],p.ended⟩ w':=fun w' hS=>by
   refine ⟨K++[⟨1,A7,c7,L7⟩],A9,c9,O9,?_,?_,?_,?_⟩
   ·rw [List.map_append,hK];show p.out++[((1:Int),L7.ts)]=_;rw [hL7,y1]
   ·intro x hx;rcases List.mem_append.1 hx with hx|hx
    ·exact ((hKr x hx).mono hF09).mono hF7
    ·rw [List.mem_singleton.1 hx];exact hA7
   ·rw [List.length_append,QlR];exact hrow9
   ·rw [List.length_append];exact hS
  have hlen:(p.out++[((1:Int),U.tidy)]).length=K.length+1:=by rw [←hK];simp
  rw [hlen];by_cases h12:K.length+1=12
  ·rw [if_pos h12];refine Zq ?_;refine ZB ?_;refine ZaC ?_;refine ZcO ?_;refine Zk ?_;refine ZF ?_;refine Zb9 ?_;refine Calls.mono (Qc0 pb pA np pc i _ 6 _ (by rw [hlen];omega) (hP2 _ hS)) ?_;rintro _ w9 ⟨rfl,hP'⟩;refine ZM ?_;refine ZfF ?_;exact ⟨F7,rfl,fun φ h=>hF7 φ (hF09 φ h),hP'⟩
  ·rw [if_neg h12];refine Zq ?_;refine ZB ?_;refine ZaC ?_;refine ZcO ?_;refine Zak ?_;refine Zl ?_;refine ZfF ?_;exact ⟨F7,rfl,fun φ h=>hF7 φ (hF09 φ h),hP2 _ hS⟩
end
structure BdI (C D:Nat) (p:Qax):Prop where
 v:p.vars+8*(p.fuel+12)≤C+8*p.out.length
 c:p.calls+p.fuel≤D
 o:p.out.length<12
 e:p.ended=false
structure BdO (C D:Nat) (p:Qax):Prop where
 v:p.vars≤C+104
 c:p.calls+p.fuel≤D
 o:p.out.length≤13
 n:p.ended=false→p.vars+8*(p.fuel+13)≤C+8*p.out.length∧p.out.length<12
theorem BdO.i {C D:Nat} {p:Qax} (h:BdO C D p) (he:p.ended=false):BdI C D p:=⟨by have:=(h.n he).1;omega,h.c,(h.n he).2,he⟩
theorem BdI.stop {C D:Nat} {p:Qax} (h:BdI C D p) (k:Int):BdO C D (Qea k p):=⟨by have:=h.v;have:=h.o;show p.vars≤_;omega,h.c,by have:=h.o;simp only [Qea,List.length_append,List.length_cons,List.length_nil];omega,fun hh=>by cases hh⟩
theorem BdI.stop' {C D:Nat} {p:Qax} (hv:p.vars≤C+104) (hc:p.calls+p.fuel≤D) (ho:p.out.length≤12) (k:Int):BdO C D (Qea k p):=⟨hv,hc,by simp only [Qea,List.length_append,List.length_cons,List.length_nil];omega,fun hh=>by cases hh⟩
theorem Qo9 {C D q:Nat} {e:Bnd} {p:Qax} (h:BdI C D p):BdO C D (Qec q e p).2:=by
 obtain ⟨hv,hc,ho,he⟩:=h;unfold Qec
 cases Qfb Qd3 e q 0 200 with
 |none=>exact BdI.stop ⟨hv,hc,ho,he⟩ 4
 |some x=>
  obtain ⟨T,l⟩:=x;dsimp only;split
  ·exact BdI.stop' (p:=⟨p.fuel,p.vars,p.calls,p.out++[(1,T.tidy)],p.ended⟩) (by show p.vars≤_;omega) hc Yh 6
  ·rename_i h12;simp only [List.length_append,List.length_cons,List.length_nil] at h12;exact ⟨by show p.vars≤_;omega,hc,by simp;omega,fun _=>⟨by show p.vars+8*(p.fuel+13)≤C+8*(p.out++_).length;simp;omega,by show (p.out++_).length<12;simp;omega⟩⟩
theorem Qo0 {C D:Nat} {pr:List Tg→Bnd→Qax→Int×Qax} (hpr:∀g e p,BdI C D p→BdO C D (pr g e p).2) {g:Tg} {r:List Tg} {e:Bnd} {call:Nat}:∀(cls:List Cl) (p:Qax),(∀c∈cls,c.vars.toNat≤8)→BdO C D p→p.ended=false→BdO C D (QeB pr g r e call cls p).2
 |[],p,_,h,_=>h
 |c::cs,p,hc,h,he=>by
  have hi:=h.i he;have hn:=h.n he;have h8:=hc c (List.mem_cons_self ..)
  have hp1:BdI C D ⟨p.fuel,p.vars+c.vars.toNat,p.calls,p.out,p.ended⟩:=⟨by show p.vars+c.vars.toNat+8*(p.fuel+12)≤C+8*p.out.length;omega,h.c,hn.2,he⟩
  have h1:=hpr (Qau c.bd p.vars call r) (Qba (c.head.shift p.vars) g.1 e).s _ hp1;rw [QeB];split
  ·exact hi.stop 4
  split
  ·split
   ·exact h1
   ·rename_i hen;split
    ·exact h1
    split
    ·exact h1
    ·exact Qo0 hpr cs _ (fun x hx=>hc x (List.mem_cons_of_mem _ hx)) h1 (by simpa using hen)
  ·exact Qo0 hpr cs _ (fun x hx=>hc x (List.mem_cons_of_mem _ hx)) h he
theorem Qr8 {C D:Nat} {pr:List Tg→Bnd→Qax→Int×Qax} (hpr:∀g e p,BdI C D p→BdO C D (pr g e p).2) {r:List Tg} {e:Bnd} {p:Qax} {x y:Tm} (h:BdO C D p) (he:p.ended=false):BdO C D (QjF pr r e p x y).2:=by
 unfold QjF;split
 ·exact (h.i he).stop 4
 split
 ·exact hpr _ _ _ (h.i he)
 ·exact h
theorem Qpe {C D:Nat} {pr:List Tg→Bnd→Qax→Int×Qax} (hpr:∀g e p,BdI C D p→BdO C D (pr g e p).2) {g:Tg} {r:List Tg} {e:Bnd} {p:Qax} (h:BdO C D p) (he:p.ended=false):BdO C D (Qbu pr g r e p).2:=by
 unfold Qbu;split
 ·split
  ·exact hpr _ _ _ (h.i he)
  ·exact hpr _ _ _ (h.i he)
 split
 ·exact hpr _ _ _ (h.i he)
 split
 ·exact h
 split
 ·exact Qr8 hpr h he
 split
 ·exact (h.i he).stop 5
 split
 ·split
  ·exact hpr _ _ _ (h.i he)
  ·exact h
 ·exact Qr8 hpr h he
theorem Qi0 {P:List Cl} {q C D:Nat} (hP:∀c∈P,c.vars.toNat≤8):∀(f:Nat) (g:List Tg) (e:Bnd) (p:Qax),BdI C D p→BdO C D (Qj P q f g e p).2
 |0,[],e,p,h=>Qo9 h
 |f+1,[],e,p,h=>Qo9 h
 |0,_::_,e,p,h=>h.stop 3
 | f + 1, g :: r, e, p, h => by
  have ih:=Qi0 (q:=q) (C:=C) (D:=D) hP f;rw [Qj];split
  ·exact h.stop 3
  ·rename_i h0;have hv:=h.v;have hc:=h.c;have ho:=h.o
   have h1:BdO C D ⟨p.fuel-1,p.vars,p.calls,p.out,p.ended⟩:=⟨by show p.vars≤_;omega,by show p.calls+(p.fuel-1)≤D;omega,by show p.out.length≤13;omega,fun _=>⟨by show p.vars+8*(p.fuel-1+13)≤C+8*p.out.length;omega,ho⟩⟩
   split
   ·exact Qpe (fun g e p hh=>ih g e p hh) h1 h.e
   ·cases hf:P.filter (QbX g.1) with
    |nil=>exact (h1.i h.e).stop 5
    |cons c cs=>
     have h2:BdO C D ⟨p.fuel-1,p.vars,p.calls+1,p.out,p.ended⟩:=⟨by show p.vars≤_;omega,by show p.calls+1+(p.fuel-1)≤D;omega,by show p.out.length≤13;omega,fun _=>⟨by show p.vars+8*(p.fuel-1+13)≤C+8*p.out.length;omega,ho⟩⟩
     exact Qo0 (fun g e p hh=>ih g e p hh) (c::cs) _ (fun x hx=>hP x (List.mem_filter.1 (show x∈P.filter (QbX g.1) by rw [hf];exact hx)).1) h2 h.e
abbrev TdR:List GN→World→Prop:=PRd 112
def PrC (X:List LC) (pA:Option Addr) (pc q C D f:Nat):Prop:=
 ∀(M:List Nat) (w0:World) (H:List (Nat×Obj)) (F:List (World→Prop)) (gs:List GN) (E:List EN) (pb:Nat) (p:Qax) (w:World),Und F (Qes X pA pc)→Und F (TdR gs)→(∀g∈gs,tgd g.t.tm)→EOk F E→p.fuel≤f→BdI C D p→PSt M w0 H F pb pA X.length pc q p w→
  Calls Tryz.prog 62 #[.pointer (some ⟨pb,0,none⟩),Qdr gs,Qen E] w fun e w'=>∃F':List (World→Prop),e= .returned (.int .i64 (Qj (X.map LC.cl) q f (Q3 gs) (Qx E) p).1)∧(∀φ∈F,φ∈F')∧PSt M w0 H F' pb pA X.length pc q (Qj (X.map LC.cl) q f (Q3 gs) (Qx E) p).2 w'
section
variable {M:List Nat} {w0:World} {H:List (Nat×Obj)} {F:List (World→Prop)} {X:List LC} {pA:Option Addr} {pc q C D f:Nat}
theorem Qlv (hpr:PrC X pA pc q C D f) (g:GN) (r:List GN) (E:List EN) (pb:Nat) (p:Qax) (w:World) (hX:Und F (Qes X pA pc)) (hr:Und F (TdR (g::r))) (hg:∀x∈g::r,tgd x.t.tm) (hE:EOk F E) (hf:p.fuel≤f) (hB:BdI C D p) (h2:g.t.s.toList=[116,114,117,101]) (hP:PSt M w0 H F pb pA X.length pc q p w):
  Calls Tryz.prog 104 #[.pointer (some ⟨pb,0,none⟩),Qdr (g::r),Qen E] w fun e w'=>∃F':List (World→Prop),e= .returned (.int .i64 (Qj (X.map LC.cl) q f (Q3 r) (Qx E) p).1)∧(∀φ∈F,φ∈F')∧PSt M w0 H F' pb pA X.length pc q (Qj (X.map LC.cl) q f (Q3 r) (Qx E) p).2 w':=by
 have hc:=fun w' hP=>hpr M w0 H F r E pb p w' hX (hr.imp fun w h=>h.2.2) (fun x hx=>hg x (.tail _ hx)) hE hf hB hP;have hpc:∀{H'} w',St M w0 H' F w'→_:=fun w' hS=>(hS.und hr).cells;have e2:=(QR [116,114,117,101]).1 h2
 have e1:g.t.s≠⟨#[33]⟩:=by rw [e2];decide
 obtain ⟨K,oA,oc,O,hK,hKr,hrow,hS⟩:=hP;refine ZdM ?_;refine Zfu ?_;refine ZaD ?_;refine Zgh ?_;refine Zci ?_;refine Zt ?_;refine ZaH ?_;refine ZaD ?_;refine Zdz ?_;refine Zdc ?_;rintro _ w5 ⟨F',rfl,hF,hP'⟩;refine ZaT ?_;exact ⟨F',rfl,hF,hP'⟩
theorem Qly (g:GN) (r:List GN) (E:List EN) (pb:Nat) (p:Qax) (w:World) (hr:Und F (TdR (g::r))) (h3:g.t.s.toList=[102,97,105,108]) (hP:PSt M w0 H F pb pA X.length pc q p w):
  Calls Tryz.prog 104 #[.pointer (some ⟨pb,0,none⟩),Qdr (g::r),Qen E] w fun e w'=>e= .returned (.int .i64 (-1))∧PSt M w0 H F pb pA X.length pc q p w':=by
 have hpc:∀{H'} w',St M w0 H' F w'→_:=fun w' hS=>(hS.und hr).cells;have e3:=(QR [102,97,105,108]).1 h3
 have e1:g.t.s≠⟨#[33]⟩:=by rw [e3];decide
 have e2:g.t.s≠⟨#[116,114,117,101]⟩:=by rw [e3];decide
 obtain ⟨K,oA,oc,O,hK,hKr,hrow,hS⟩:=hP;refine ZdM ?_;refine Zfu ?_;refine ZaD ?_;refine Zcj ?_;refine Zci ?_;refine Zl ?_;refine ZbU ?_;exact ⟨rfl,K,oA,oc,O,hK,hKr,hrow,hS⟩
theorem QnQ (hpr:PrC X pA pc q C D f) (g:GN) (r:List GN) (E:List EN) (pb:Nat) (p:Qax) (w:World) (hX:Und F (Qes X pA pc)) (hr:Und F (TdR (g::r))) (hg:∀x∈g::r,tgd x.t.tm) (hE:EOk F E) (hf:p.fuel≤f) (hB:BdI C D p) (h1:g.t.s.toList=[33]) (hP:PSt M w0 H F pb pA X.length pc q p w):
  Calls Tryz.prog 104 #[.pointer (some ⟨pb,0,none⟩),Qdr (g::r),Qen E] w fun e w'=>∃F':List (World→Prop),e= .returned (.int .i64 (if 0≤(Qj (X.map LC.cl) q f (Q3 r) (Qx E) p).1∧(Qj (X.map LC.cl) q f (Q3 r) (Qx E) p).1<(g.o:Nat) then (Qj (X.map LC.cl) q f (Q3 r) (Qx E) p).1 else (g.o:Nat)))∧(∀φ∈F,φ∈F')∧PSt M w0 H F' pb pA X.length pc q (Qj (X.map LC.cl) q f (Q3 r) (Qx E) p).2 w':=by
 have hc:=fun w' hP=>hpr M w0 H F r E pb p w' hX (hr.imp fun w h=>h.2.2) (fun x hx=>hg x (.tail _ hx)) hE hf hB hP;have hpc:∀{F':List (World→Prop)} {H':List (Nat×Obj)} (hF:∀φ∈F,φ∈F') (w':World),St M w0 H' F' w'→_:=fun hF w' hS=>(hS.und (hr.mono hF)).cells;have hF0:∀φ∈F,φ∈F:=fun _ h=>h;have e1:=(QR [33]).1 h1;generalize Qj (X.map LC.cl) q f (Q3 r) (Qx E) p=pr at*;obtain ⟨k,p'⟩:=pr;dsimp only at*;obtain ⟨K,oA,oc,O,hK,hKr,hrow,hS⟩:=hP;refine ZdM ?_;refine ZbL ?_;refine Zbf ?_;refine Zci ?_;refine Zt ?_;refine ZaH ?_;refine Z2 ?_;refine Zdz ?_;refine Zdc ?_;rintro _ w5 ⟨F',rfl,hF,hP'⟩;refine Za ?_;clear hrow hK hKr;clear hS;obtain ⟨K',oA',oc',O',hK',hKr',hrow',hS⟩:=hP';by_cases hk:0≤k
 ·by_cases hk2:k<(g.o:Nat)
  ·rw [if_pos ⟨hk,hk2⟩];refine Zw ?_;refine ZaM ?_;refine Z9 ?_;refine ZA ?_;refine ZeM ?_;refine ZaC ?_;refine Zi ?_;refine Zdd ?_;refine Zi ?_;refine ZH ?_;refine Zbd ?_;refine Zai ?_;refine ZbU ?_;exact ⟨F',rfl,hF,K',oA',oc',O',hK',hKr',hrow',hS⟩
  ·rw [if_neg (fun h=>hk2 h.2)];refine Zw ?_;refine ZaM ?_;refine Z9 ?_;refine ZA ?_;refine ZeM ?_;refine ZaC ?_;refine Zi ?_;refine Zdd ?_;refine Zi ?_;refine ZH ?_;refine ZU ?_;refine Zag ?_;refine ZaC ?_;refine Zdd ?_;refine Zd ?_;refine ZbU ?_;exact ⟨F',rfl,hF,K',oA',oc',O',hK',hKr',hrow',hS⟩
 ·rw [if_neg (fun h=>hk h.1)];refine Zw ?_;refine ZaM ?_;refine Zgd ?_;refine ZU ?_;refine Zag ?_;refine ZaC ?_;refine Zdd ?_;refine Zd ?_;refine ZbU ?_;exact ⟨F',rfl,hF,K',oA',oc',O',hK',hKr',hrow',hS⟩
end
section
variable {M:List Nat} {w0:World} {H:List (Nat×Obj)} {F:List (World→Prop)} {X:List LC} {pA:Option Addr} {pc q C D f:Nat}
theorem QsZ (E:List EN) (a b:LT) (w:World) (hE:EOk F E) (ha:Und F (LRd a)) (hb:Und F (LRd b)) (ga:tgd a.tm) (gb:tgd b.tm) (hS:St M w0 H F w):
  Calls Tryz.prog 105 #[Qen E,tv a,tv b] w fun e w'=>∃(E':List EN) (ok:Bool) (k:Int) (F':List (World→Prop)),e= .returned (.tuple #[Qen E',.bool ok,.int .i64 k])∧(∀φ∈F,φ∈F')∧(400<(Qba a.tm b.tm (Qx E)).w→k<0)∧((Qba a.tm b.tm (Qx E)).w≤400→0≤k∧ok=(Qba a.tm b.tm (Qx E)).ok∧((Qba a.tm b.tm (Qx E)).ok=true→Qx E'=(Qba a.tm b.tm (Qx E)).s∧EOk F' E'))∧St M w0 H F' w':=by
 refine Calls.mono (Qs0 E a b w hE ha hb ga gb hS) ?_;show∀e w',Qsz M w0 H F (Qba a.tm b.tm (Qx E)) e w'→_;generalize Qba a.tm b.tm (Qx E)=u;rintro e w' ⟨E',F',k,hF,hS',c1,c2,c3⟩;by_cases hw:400<u.w
 ·obtain ⟨hk,rfl⟩:=c1 hw;exact ⟨E',false,k,F',rfl,hF,fun _=>hk,fun h=>absurd h Ya,hS'⟩
 ·obtain ⟨hk,rfl⟩:=c2 Ya;exact ⟨E',_,k,F',rfl,hF,fun h=>absurd h hw,fun h=>⟨by omega,rfl,fun ho=>c3 h ho⟩,hS'⟩
theorem Qpd (hpr:PrC X pA pc q C D f) (g:GN) (r:List GN) (E:List EN) (pb:Nat) (p:Qax) (w:World) (hX:Und F (Qes X pA pc)) (hr:Und F (TdR (g::r))) (hg:∀x∈g::r,tgd x.t.tm) (hE:EOk F E) (hf:p.fuel≤f) (hB:BdI C D p) (h4:g.t.s.toList=[101,113]) (hlen:g.t.ar.len=2) (hP:PSt M w0 H F pb pA X.length pc q p w):
  Calls Tryz.prog 104 #[.pointer (some ⟨pb,0,none⟩),Qdr (g::r),Qen E] w fun e w'=>∃F':List (World→Prop),e= .returned (.int .i64 (QjF (Qj (X.map LC.cl) q f) (Q3 r) (Qx E) p (g.t.ar.ts.at_ 0) (g.t.ar.ts.at_ 1)).1)∧(∀φ∈F,φ∈F')∧PSt M w0 H F' pb pA X.length pc q (QjF (Qj (X.map LC.cl) q f) (Q3 r) (Qx E) p (g.t.ar.ts.at_ 0) (g.t.ar.ts.at_ 1)).2 w':=by
 have hpc:∀{F':List (World→Prop)} {H':List (Nat×Obj)} (hF:∀φ∈F,φ∈F') (w':World),St M w0 H' F' w'→_:=fun hF w' hS=>(hS.und (hr.mono hF)).cells;have hF0:∀φ∈F,φ∈F:=fun _ h=>h;have e4:=(QR [101,113]).1 h4
 have e1:g.t.s≠⟨#[33]⟩:=by rw [e4];decide
 have e2:g.t.s≠⟨#[116,114,117,101]⟩:=by rw [e4];decide
 have e3:g.t.s≠⟨#[102,97,105,108]⟩:=by rw [e4];decide
 have hrt:Und F (LRd g.t):=hr.imp fun w h=>h.2.1;have hrr:Und F (TdR r):=hr.imp fun w h=>h.2.2;have hgr:∀x∈r,tgd x.t.tm:=fun x hx=>hg x (.tail _ hx);have hdown:=Qac _ (hg g (.head _));obtain ⟨x,y,hT⟩:=Qr1 (T:=g.t.ar) hlen;obtain ⟨⟨gk,gn,gs_,gA,gc,gar⟩,go_,gb⟩:=g;dsimp only at*;subst hT;have hra:=hrt;unfold LRd at hra;dsimp only at hra;obtain ⟨K,oA,oc,O,hK,hKr,hrow,hS⟩:=hP;obtain ⟨b6,o6,rfl⟩:=(hS.und hra).some_ Yag;have hcA:∀{H'} w',St M w0 H' F w'→_:=fun w' hS=>ArA.cells (D:= .nil) (hS.und hra);have hcB:∀{H'} w',St M w0 H' F w'→_:=fun w' hS=>ArA.cells (D:= .cons x.k x.n x.s x.A x.c x.ar .nil) (hS.und hra);have hrx:Und F (LRd x):=hra.imp fun w h=>ArA.sub (D:= .nil) h;have hry:Und F (LRd y):=hra.imp fun w h=>ArA.sub (D:= .cons x.k x.n x.s x.A x.c x.ar .nil) h;have tx:tgd x.tm:=hdown x.tm (.inl rfl);have ty_:tgd y.tm:=hdown y.tm (.inr (.inl rfl));have hlen2:(TA.cons x.k x.n x.s x.A x.c x.ar (TA.cons y.k y.n y.s y.A y.c y.ar TA.nil)).len=2:=rfl
 have hres:QjF (Qj (X.map LC.cl) q f) (Q3 r) (Qx E) p ((TA.cons x.k x.n x.s x.A x.c x.ar (TA.cons y.k y.n y.s y.A y.c y.ar TA.nil)).ts.at_ 0) ((TA.cons x.k x.n x.s x.A x.c x.ar (TA.cons y.k y.n y.s y.A y.c y.ar TA.nil)).ts.at_ 1)=if 400<(Qba x.tm y.tm (Qx E)).w then (-1,Qea 4 p) else if (Qba x.tm y.tm (Qx E)).ok=true then Qj (X.map LC.cl) q f (Q3 r) (Qba x.tm y.tm (Qx E)).s p else (-1,p):=rfl
 have hone:∀{H'} w',St M w0 H' F w'→_:=fun w' hS=>QsZ E x y w' hE hrx hry tx ty_ hS;rw [hres];clear hres;generalize Qba x.tm y.tm (Qx E)=u at*;refine ZdM ?_;refine ZbL ?_;refine Zcj ?_;refine Z4 ?_;refine Zck ?_;refine ZaG ?_;refine Zba ?_;refine Z2 ?_;refine Zw ?_;refine ZbL ?_;refine Zbb ?_;refine Zz ?_;refine Zp ?_;refine Qfv 11 12 13 (138::139::140::141::142::143::144::145::137::146::147::148::[]) (fun v y z w'=>∃(E':List EN) (ok:Bool) (k:Int) (F':List (World→Prop)),v=Qen E'∧y= .bool ok∧z= .int .i64 k∧(∀φ∈F,φ∈F')∧(400<u.w→k<0)∧(u.w≤400→0≤k∧ok=u.ok∧(u.ok=true→Qx E'=u.s∧EOk F' E'))∧St M w0 ((pb,.cells (Qd2 pA X.length pc q p oA K.length oc).toArray 109)::(O++H)) F' w') ?_ ?_
 ·intro hmeet;refine ZgB ?_;replace hS:=hS.drew;refine ZdN ?_;refine Zde ?_;refine ZaY ?_;refine ZfC ?_;refine Zde ?_;refine ZcN ?_;refine Calls.mono (hone _ hS) ?_;rintro _ w9 ⟨E9,ok9,k9,F9,rfl,hF9,c19,c29,hS'⟩;refine Za ?_;replace hS:=hS';clear hS';refine ZgC ?_;refine ZcP ?_;refine Zcx ?_;refine Zbt ?_;refine Zbt ?_;refine Zcl ?_;exact hmeet _ _ _ _ _ ⟨E9,ok9,k9,F9,rfl,rfl,rfl,hF9,c19,c29,hS⟩ Yb Yb Yb Yc
 clear hS;rintro jw _ _ _ w9 ⟨E',ok,k,F',rfl,rfl,rfl,hF,c1,c2,hS⟩;by_cases hw:400<u.w
 ·have hk:=c1 hw;rw [if_pos hw];refine Zq ?_;refine Zca ?_;refine Zb9 ?_;refine Calls.mono (Qc0 pb pA X.length pc q p 4 _ (by have:=hB.o;omega) ⟨K,oA,oc,O,hK,fun x hx=>(hKr x hx).mono hF,hrow,hS⟩) ?_;rintro _ w6 ⟨rfl,hP'⟩;refine ZaT ?_;exact ⟨F',rfl,hF,hP'⟩
 obtain ⟨hk,rfl,hok⟩:=c2 Ya;rw [if_neg hw]
 cases ho:u.ok with
 |false=>
  rw [if_neg Yg];rw [ho] at*;refine ZdO ?_;refine ZdP ?_;refine ZbU ?_;exact ⟨F',rfl,hF,K,oA,oc,O,hK,fun x hx=>(hKr x hx).mono hF,hrow,hS⟩
 |true=>
  rw [if_pos rfl];obtain ⟨hE1,hE2⟩:=hok ho;have hc:=fun w' hP=>hpr M w0 H F' r E' pb p w' (hX.mono hF) (hrr.mono hF) hgr hE2 hf hB hP;rw [hE1] at hc;rw [ho] at*;refine ZdO ?_;refine ZP ?_;refine Zt ?_;refine ZaH ?_;refine Zdd ?_;refine Zdz ?_;refine Calls.mono (hc _ ⟨K,oA,oc,O,hK,fun x hx=>(hKr x hx).mono hF,hrow,hS⟩) ?_;rintro _ w6 ⟨F2,rfl,hF2,hP'⟩;refine ZaT ?_;exact ⟨F2,rfl,fun φ h=>hF2 φ (hF φ h),hP'⟩
end
end Go.Proofs.YthliapbflkfdiacGreatDoor
