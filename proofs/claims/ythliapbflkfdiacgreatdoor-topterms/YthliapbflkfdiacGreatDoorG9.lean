/- SWalk3, SMem2: texts that follow one another, laid into one file. -/
import Derived.Test.YthliapbflkfdiacGreatDoorZ0
import Derived.Test.YthliapbflkfdiacGreatDoorG8
import Derived.Test.YthliapbflkfdiacGreatDoorG7
namespace Go.Proofs.YthliapbflkfdiacGreatDoor
open Go.RowKit
set_option linter.unusedVariables false
set_option linter.unusedSimpArgs false
set_option maxRecDepth 100000
set_option maxHeartbeats 1000000
def Qht (f:Nat):Prop:=∀(M:List Nat) (w0:World) (H:List (Nat×Obj)) (F:List (World→Prop)) (b mb clk ub:Nat) (es:Array MapEntry) (TR:Value) (rest:List Value) (O:List (Nat×Obj)) (G:List GB) (a t:LT) (k:Nat) (w:World),
 BM G 3 es TR O F→SmB (bnd G)→a.tm.ar.nodes≤24→t.tm.ar.nodes≤24→Und F (LRd a)→Und F (LRd t)→400≤k+f→k≤400→f≤401→G.length≤1000000000000+k→St M w0 ((ub,Qpg b k)::(b,sob mb TR rest)::(mb,.map es clk)::(O++H)) F w→
  Calls Tryz.prog 180 #[pt ub,tv a,tv t] w fun e w'=>e= .returned (.bool (Qa8 f a.tm t.tm (bnd G) k).ok)∧USt M w0 H F b mb ub rest (Qa8 f a.tm t.tm (bnd G) k) w'
section
variable {M:List Nat} {w0:World} {H:List (Nat×Obj)} {F:List (World→Prop)} {b mb clk ub:Nat} {es:Array MapEntry} {TR:Value} {rest:List Value} {O:List (Nat×Obj)} {G:List GB}
def QjL (f:Nat) (x y:Tm) (B:Bnd) (w:Nat):Us:=if QiQ x y=true then QiV (Qa8 f) x.ar y.ar B w else ⟨false,B,w⟩
theorem Qpj (f:Nat) (ihu:Qht f) (x y:LT) (k:Nat) (w:World) (hB:BM G 3 es TR O F) (hSm:SmB (bnd G)) (hx:x.tm.ar.nodes≤24) (hy:y.tm.ar.nodes≤24) (hrx:Und F (LRd x)) (hry:Und F (LRd y)) (hkf:400≤k+f) (hk:k≤400) (hf:f≤400) (hl:G.length≤1000000000000+k)
  (hS:St M w0 ((ub,Qpg b k)::(b,sob mb TR rest)::(mb,.map es clk)::(O++H)) F w):
  Calls Tryz.prog 212 #[pt ub,tv x,tv y] w fun e w'=>e= .returned (.bool (QjL f x.tm y.tm (bnd G) k).ok)∧USt M w0 H F b mb ub rest (QjL f x.tm y.tm (bnd G) k) w':=by
 have hpm:QiQ x.tm y.tm=false→QjL f x.tm y.tm (bnd G) k=⟨false,bnd G,k⟩:=fun h=>by unfold QjL;rw [if_neg (by rw [h];decide)]
 have hlx:=x.ar.ts.length_le;have hly:=y.ar.ts.length_le;rw [TA.len_ts] at hlx hly;have hx':x.ar.ts.nodes≤24:=hx;have hy':y.ar.ts.nodes≤24:=hy
 have hal:QiQ x.tm y.tm=(decide (x.k=y.k)&&decide (x.n=y.n)&&decide (x.s=y.s)&&decide (x.ar.len=y.ar.len)):=by
  show (_&&_&&_&&decide (x.ar.ts.length=y.ar.ts.length))=_;rw [TA.len_ts,TA.len_ts];rfl
 refine Qz Tryz.func212 rfl Tryz.ntmps212 rfl ?_;by_cases h1:x.k=y.k
 case neg=>
  rw [hpm (by rw [hal,decide_eq_false h1];rfl)];refine Zf ?_;clear hS;intro b1 wx1 hS;refine Zaw ?_;clear hS;intro b2 wx2 hS;refine Zbr ?_;refine Zed ?_;refine Zt ?_;refine Zaj ?_;refine ZbQ ?_;refine Zaj ?_;refine ZbQ ?_;refine Zde ?_;refine ZaO ?_;refine Z1 ?_;refine ZdB ?_;exact ⟨rfl,G,es,clk,TR,O,rfl,hB,hS.drop.drop⟩
 by_cases h2:x.n=y.n
 case neg=>
  rw [hpm (by rw [hal,decide_eq_false h2];simp)];refine Zf ?_;clear hS;intro b1 wx1 hS;refine Zaw ?_;clear hS;intro b2 wx2 hS;refine Zbr ?_;refine Zed ?_;refine Zt ?_;refine Zfb ?_;refine ZbL ?_;refine Zt ?_;refine Zr ?_;refine Zaj ?_;refine ZbQ ?_;refine Zde ?_;refine ZaO ?_;refine Z1 ?_;refine ZdB ?_;exact ⟨rfl,G,es,clk,TR,O,rfl,hB,hS.drop.drop⟩
 by_cases h3:x.s=y.s
 case neg=>
  rw [hpm (by rw [hal,decide_eq_false h3];simp)];refine Zf ?_;clear hS;intro b1 wx1 hS;refine Zaw ?_;clear hS;intro b2 wx2 hS;refine Zbr ?_;refine Zed ?_;refine Zt ?_;refine Zfb ?_;refine ZbL ?_;refine Zt ?_;refine Zdn ?_;refine Zc5 ?_;refine Zbe ?_;refine Zr ?_;refine Zde ?_;refine ZaO ?_;refine Z1 ?_;refine ZdB ?_;exact ⟨rfl,G,es,clk,TR,O,rfl,hB,hS.drop.drop⟩
 by_cases h4:x.ar.len=y.ar.len
 case neg=>
  rw [hpm (by rw [hal,decide_eq_false h4];simp)];refine Zf ?_;clear hS;intro b1 wx1 hS;refine Zaw ?_;clear hS;intro b2 wx2 hS;refine Zbr ?_;refine Zed ?_;refine Zt ?_;refine Zfb ?_;refine ZbL ?_;refine Zt ?_;refine Zdn ?_;refine Zc5 ?_;refine Zbe ?_;refine Zcc ?_;refine ZbU ?_;refine ZbU ?_;refine Zt ?_;refine Z1 ?_;refine ZdB ?_;exact ⟨rfl,G,es,clk,TR,O,rfl,hB,hS.drop.drop⟩
 have hpm2:QjL f x.tm y.tm (bnd G) k=QiV (Qa8 f) x.ar.ts y.ar.ts (bnd G) k:=by
  unfold QjL;rw [if_pos (by rw [hal];simp [h1,h2,h3,h4])];rfl
 rw [hpm2];refine Zf ?_;clear hS;intro b1 wx1 hS;refine Zaw ?_;clear hS;intro b2 wx2 hS;refine Zbr ?_;refine Zed ?_;refine Zt ?_;refine Zfb ?_;refine ZbL ?_;refine Zt ?_;refine Zdn ?_;refine Zc5 ?_;refine Zbe ?_;refine Zcc ?_;refine ZbU ?_;refine ZbU ?_;refine Zch ?_;refine Za8 ?_;refine Za2 ?_;refine ZQ ?_;refine Qn 39 (40::41::7::42::43::44::45::46::47::48::49::50::51::52::53::54::6::55::[]) (fun (z:TA×TA) v w'=>∃(D E:TA) (r:Us) (G':List GB) (es':Array MapEntry) (clk':Nat) (TR':Value) (O':List (Nat×Obj)),x.ar=D.app z.1∧y.ar=E.app z.2∧D.len=E.len∧v= .int .i64 (D.len:Nat)∧UP (bnd G) k r∧r.w≤400∧QiV (Qa8 f) x.ar.ts y.ar.ts (bnd G) k=QiV (Qa8 f) z.1.ts z.2.ts r.B r.w∧bnd G'=r.B∧BM G' 3 es' TR' O' F∧St M w0 ((b2,tob y)::(b1,tob x)::(ub,Qpg b r.w)::(b,sob mb TR' rest)::(mb,.map es' clk')::(O'++H)) F w') (fun z=>z.1.len) ((x.ar,y.ar)) ?_ Yb ?_
 ·exact ⟨.nil,.nil,⟨true,bnd G,k⟩,G,es,clk,TR,O,rfl,rfl,rfl,rfl,⟨hB.ok,hSm,fun _=>hk,Nat.le_refl _,[],rfl⟩,hk,rfl,rfl,hB,hS⟩
 clear hS;rintro ⟨R,Q⟩ _ w5 jv ⟨D,E,r,G',es',clk',TR',O',hDR,hEQ,hDE,rfl,hup,hr4,hall,hbG,hB',hS⟩ ih;dsimp only at hDR hEQ hall;have hlenx:x.ar.len=D.len+R.len:=by rw [hDR,TA.len_app]
 have hleny:y.ar.len=E.len+Q.len:=by rw [hEQ,TA.len_app]
 cases R with
 |nil=>
  have:Q= .nil:=by cases Q with
   |nil=>rfl
   |cons _ _ _ _ _ _ _=>simp only [TA.len] at*;omega
  subst this;simp only [TA.len] at hlenx;refine Zcd ?_;refine ZdB ?_;rw [hall];exact ⟨rfl,G',es',clk',TR',O',hbG,hB',hS.drop.drop⟩
 |cons k1 n1 s1 A1 c1 a1 r1=>
  cases Q with
  |nil=>simp only [TA.len] at*;omega
  |cons k2 n2 s2 A2 c2 a2 r2=>
   simp only [TA.len] at hlenx hleny;obtain ⟨xk,xn,xs,xA,xc,xar⟩:=x;obtain ⟨yk,yn,ys,yA,yc,yar⟩:=y;dsimp only at*;subst hDR hEQ;obtain ⟨b6,o6,rfl⟩:=(hS.und hrx).some_ (by show 0<(D.app _).len;omega);obtain ⟨b7,o7,rfl⟩:=(hS.und hry).some_ (by show 0<(E.app _).len;omega);have hxl:(LT.mk xk xn xs (some ⟨b6,o6,none⟩) xc (D.app (TA.cons k1 n1 s1 A1 c1 a1 r1))).ar.len=D.len+(r1.len+1):=hlenx;have hyl:(LT.mk yk yn ys (some ⟨b7,o7,none⟩) yc (E.app (TA.cons k2 n2 s2 A2 c2 a2 r2))).ar.len=E.len+(r2.len+1):=hleny;have hcA:∀{H'} w',St M w0 H' F w'→_:=fun w' hS=>(hS.und hrx).cells;have hcB:∀{H'} w',St M w0 H' F w'→_:=fun w' hS=>(hS.und hry).cells;rw [←hDE] at hcB;have hsA:Und F (LRd ⟨k1,n1,s1,A1,c1,a1⟩):=fun w hw=>(hrx w hw).sub;have hsB:Und F (LRd ⟨k2,n2,s2,A2,c2,a2⟩):=fun w hw=>(hry w hw).sub
   have hnA:a1.ts.nodes<24:=by rw [TA.app_ts,Ts.nodes_app] at hx';simp only [TA.ts,Ts.nodes] at hx';omega
   have hnB:a2.ts.nodes<24:=by rw [TA.app_ts,Ts.nodes_app] at hy';simp only [TA.ts,Ts.nodes] at hy';omega
   have hkr:k≤r.w:=by
    obtain ⟨N,e⟩:=hup.ext;have:=hup.len;rw [e] at this;simp at this;omega
   have hG':G'.length≤1000000000000+r.w:=by
    have h1:=hup.len;rw [←hbG,QgC,QgC] at h1;omega
   have hup2:=QeW f ⟨k1,n1,s1,a1.ts⟩ ⟨k2,n2,s2,a2.ts⟩ r.B r.w (by show a1.ts.nodes≤24;omega) (by show a2.ts.nodes≤24;omega) hup.bok hup.sm hr4
   have hstep:QiV (Qa8 f) (TA.cons k1 n1 s1 A1 c1 a1 r1).ts (TA.cons k2 n2 s2 A2 c2 a2 r2).ts r.B r.w=if (Qa8 f ⟨k1,n1,s1,a1.ts⟩ ⟨k2,n2,s2,a2.ts⟩ r.B r.w).ok=true then QiV (Qa8 f) r1.ts r2.ts (Qa8 f ⟨k1,n1,s1,a1.ts⟩ ⟨k2,n2,s2,a2.ts⟩ r.B r.w).B (Qa8 f ⟨k1,n1,s1,a1.ts⟩ ⟨k2,n2,s2,a2.ts⟩ r.B r.w).w else Qa8 f ⟨k1,n1,s1,a1.ts⟩ ⟨k2,n2,s2,a2.ts⟩ r.B r.w:=rfl
   refine ZbK ?_;refine ZV ?_;refine Zgm ?_;replace hS:=hS.drew;refine Zs ?_;refine Zdx ?_;refine ZdC ?_;refine Zs ?_;refine ZbC ?_;refine ZcT ?_;refine Zdx ?_;refine ZdC ?_;refine Zs ?_;refine ZbC ?_;refine ZcT ?_;refine ZF ?_;refine Zz ?_;refine Calls.mono ((ihu M w0 _ F b mb clk' ub es' TR' rest O' G' ⟨k1,n1,s1,A1,c1,a1⟩ ⟨k2,n2,s2,A2,c2,a2⟩ r.w _ hB' (by rw [hbG];exact hup.sm) (by show a1.ts.nodes≤24;omega) (by show a2.ts.nodes≤24;omega) hsA hsB Ya hr4 Ya hG' (hS.perm ((List.perm_append_comm_assoc [_,_] [_,_,_] _).trans (.cons _ (.cons _ (.cons _ (List.perm_append_comm_assoc [_,_] _ _)))))))) ?_;rintro _ w6 ⟨rfl,hU⟩;refine Za ?_;obtain ⟨G2,es2,clk2,TR2,O2,hb2,hB2,hS'⟩:=hU;rw [hbG] at hb2 hS'⊢;rw [show (LT.mk k1 n1 s1 A1 c1 a1).tm=⟨k1,n1,s1,a1.ts⟩ from rfl,show (LT.mk k2 n2 s2 A2 c2 a2).tm=⟨k2,n2,s2,a2.ts⟩ from rfl] at hb2 hS'⊢;generalize Qa8 f ⟨k1,n1,s1,a1.ts⟩ ⟨k2,n2,s2,a2.ts⟩ r.B r.w=q at*;obtain ⟨qok,qB,qw⟩:=q;dsimp only at*;replace hS:=hS'.perm ((List.Perm.cons _ (.cons _ (.cons _ (List.perm_append_comm_assoc _ [_,_] _)))).trans (List.perm_append_comm_assoc [_,_,_] [_,_] _));clear hS'
   cases qok with
   |false=>
    rw [if_neg Yf] at hstep;refine Zee ?_;refine ZdB ?_;rw [hall,hstep];exact ⟨rfl,G2,es2,clk2,TR2,O2,hb2,hB2,hS.drop.drop⟩
   |true=>
    rw [if_pos rfl] at hstep;refine Zef ?_;refine ih ((r1,r2)) _ _ _ ?_ ?_ Yb Yc
    ·simp [TA.len]
    ·refine ⟨D.app (.cons k1 n1 s1 A1 c1 a1 .nil),E.app (.cons k2 n2 s2 A2 c2 a2 .nil),⟨true,qB,qw⟩,G2,es2,clk2,TR2,O2,by rw [TA.app_assoc];rfl,by rw [TA.app_assoc];rfl,by rw [TA.len_app,TA.len_app,hDE];rfl,by rw [TA.len_app];rfl,?_,hup2.ok rfl,by rw [hall,hstep],hb2,hB2,hS⟩;obtain ⟨N1,e1⟩:=hup.ext;obtain ⟨N2,e2⟩:=hup2.ext;refine ⟨hup2.bok,hup2.sm,fun _=>hup2.ok rfl,?_,N2++N1,by rw [e2,e1,List.append_assoc]⟩;have:=hup.len;have:=hup2.len;dsimp only at*;omega
theorem Qlx (f:Nat) (ihu:∀f',f=f'+1→Qht f'):Qht f:=by
 intro M w0 H F b mb clk ub es TR rest O G a t k w hB hSm ha ht hra hrt hkf hk hf hl hS;refine Qz Tryz.func180 rfl Tryz.ntmps180 rfl ?_;refine Zf ?_;clear hS;intro b1 wx1 hS;refine Zaw ?_;clear hS;intro b2 wx2 hS;refine Zd ?_;refine ZO ?_;refine Zgb ?_;refine ZB ?_;refine Zbt ?_;clear hS;intro wx3 hS;refine Zdh ?_;replace hS:St M w0 ((b2,tob t)::(b1,tob a)::(ub,Qpg b (k+1))::(b,sob mb TR rest)::(mb,.map es clk)::(O++H)) F _:=hS;refine Zj ?_;refine Calls.mono (Qd6 ub (k+1) _ hS.up3) ?_;rintro _ w3 ⟨rfl,hS'⟩;refine Za ?_;replace hS:=hS';clear hS';replace hS:=hS.down3;by_cases hk4:400<k+1
 ·have e:Qa8 f a.tm t.tm (bnd G) k=⟨false,bnd G,k+1⟩:=by
   cases f with
   |zero=>rfl
   |succ f=>simp only [Qa8];rw [if_pos hk4]
  rw [e,decide_eq_true hk4];refine Zad ?_;refine ZdD ?_;exact ⟨rfl,G,es,clk,TR,O,rfl,hB,hS.drop.drop⟩
 obtain ⟨f,rfl⟩:∃f',f=f'+1:=⟨f-1,by omega⟩
 have ihu:=ihu f rfl;rw [decide_eq_false hk4];simp only [Qa8];rw [if_neg hk4];refine Zn ?_;refine Zl ?_;refine Qq (St _ _ _ _) 12 ((0,true)::(1,true)::(2,true)::(3,true)::(4,true)::(6,true)::(7,true)::(8,true)::(9,true)::(10,true)::(5,false)::(11,false)::[]) Yc Yc (hS.drew) ?_;replace hS:=hS.drew;refine Zas ?_;refine ZdC ?_;refine ZcT ?_;refine Zas ?_;refine ZdC ?_;refine ZcT ?_;refine ZbT ?_;refine Calls.mono (Qgs a _ hB hra hS (List.perm_append_comm_assoc [_,_,_] [_,_] _)) ?_;rintro _ w4 ⟨x,rfl,hx,hrx,hS'⟩;refine Za ?_;replace hS:=hS';clear hS';refine ZaG ?_;refine ZbT ?_;refine Calls.mono (Qgs t _ hB hrt hS (List.perm_append_comm_assoc [_,_,_] [_,_] _)) ?_;rintro _ w5 ⟨y,rfl,hy,hry,hS'⟩;refine Za ?_;replace hS:=hS';clear hS'
 have hxn:x.tm.ar.nodes≤24:=by rw [hx];exact Qa4 hSm ha
 have hyn:y.tm.ar.nodes≤24:=by rw [hy];exact Qa4 hSm ht
 have hxe:=QbP hB.ok a.tm;have hye:=QbP hB.ok t.tm;rw [←hx] at hxe;rw [←hy] at hye;rw [←hx,←hy];by_cases hx0:x.k=0
 ·rw [if_pos (show x.tm.k=0 from hx0)];by_cases hy0:y.k=0
  ·rw [if_pos (show y.tm.k=0 from hy0)];by_cases hn:x.n=y.n
   ·rw [if_pos (show x.tm.n=y.tm.n from hn)];refine Zcf ?_;clear hS;intro wx4 hS;refine Zc ?_;clear hS;intro wx5 hS;refine Zdm ?_;refine ZbX ?_;refine Zgc ?_;refine Zq ?_;refine ZcG ?_;refine Zl ?_;refine Zdo ?_;refine Za5 ?_;refine Zk ?_;refine ZdD ?_;exact ⟨rfl,G,es,clk,TR,O,rfl,hB,hS.drop.drop⟩
   ·rw [if_neg (show¬x.tm.n=y.tm.n from hn)];refine Zcf ?_;clear hS;intro wx4 hS;refine Zc ?_;clear hS;intro wx5 hS;refine Zdm ?_;refine ZbX ?_;refine Zgc ?_;refine Zq ?_;refine ZcG ?_;refine Zl ?_;refine Zdo ?_;refine Za4 ?_;refine Zfw ?_;replace hS:=hS.drew;refine Zas ?_;refine ZdC ?_;refine Zcq ?_;refine ZdC ?_;refine ZcT ?_;refine ZF ?_;refine Zz ?_;refine Calls.mono (QoU x.n y _ hB (hxe hx0) (fun h=>⟨fun h2=>hn h2.symm,hye h⟩) hry Ya (hS.perm ((List.perm_append_comm_assoc [_,_,_] [_,_] _).trans (.cons _ (.cons _ (List.perm_append_comm_assoc [_,_,_] _ _)))))) ?_;rintro _ w6 ⟨es',clk',TR',O',rfl,hB',hS'⟩;refine Za ?_;replace hS:=hS';clear hS';replace hS:=hS.perm ((List.Perm.cons _ (.cons _ (List.perm_append_comm_assoc _ [_,_,_] _))).trans (List.perm_append_comm_assoc [_,_] [_,_,_] _));refine Zay ?_;refine ZdD ?_;exact ⟨rfl,_,es',clk',TR',O',rfl,hB',hS.drop.drop⟩
  ·rw [if_neg (show¬y.tm.k=0 from hy0)];refine Zcf ?_;clear hS;intro wx4 hS;refine Zc ?_;clear hS;intro wx5 hS;refine Zdm ?_;refine ZbX ?_;refine Zgc ?_;refine Zq ?_;refine Zr ?_;refine ZaH ?_;refine ZbX ?_;refine Zbp ?_;refine Zm ?_;refine Zgb ?_;refine ZcU ?_;refine Zz ?_;refine Calls.mono (QhV x.n y (k+1) _ hB hSm hyn hry (hxe hx0) hy0 Ya Ya (hS.perm ((List.perm_append_comm_assoc [_,_] [_,_,_] _).trans (.cons _ (.cons _ (.cons _ (List.perm_append_comm_assoc [_,_] _ _))))))) ?_;rintro _ w6 ⟨rfl,hU⟩;refine Za ?_;obtain ⟨G2,es2,clk2,TR2,O2,hb2,hB2,hS'⟩:=hU;replace hS:=hS'.perm ((List.Perm.cons _ (.cons _ (.cons _ (List.perm_append_comm_assoc _ [_,_] _)))).trans (List.perm_append_comm_assoc [_,_,_] [_,_] _));clear hS';refine Zd ?_;refine ZdD ?_;exact ⟨rfl,G2,es2,clk2,TR2,O2,hb2,hB2,hS.drop.drop⟩
 ·rw [if_neg (show¬x.tm.k=0 from hx0)];by_cases hy0:y.k=0
  ·rw [if_pos (show y.tm.k=0 from hy0)];refine Zcf ?_;clear hS;intro wx4 hS;refine Zc ?_;clear hS;intro wx5 hS;refine Zdm ?_;refine ZbX ?_;refine ZbP ?_;refine Zr ?_;refine ZaH ?_;refine ZbX ?_;refine ZaH ?_;refine ZbX ?_;refine Zbp ?_;refine Zm ?_;refine Zgb ?_;refine ZcU ?_;refine Zz ?_;refine Calls.mono (QhV y.n x (k+1) _ hB hSm hxn hrx (hye hy0) hx0 Ya Ya (hS.perm ((List.perm_append_comm_assoc [_,_] [_,_,_] _).trans (.cons _ (.cons _ (.cons _ (List.perm_append_comm_assoc [_,_] _ _))))))) ?_;rintro _ w6 ⟨rfl,hU⟩;refine Za ?_;obtain ⟨G2,es2,clk2,TR2,O2,hb2,hB2,hS'⟩:=hU;replace hS:=hS'.perm ((List.Perm.cons _ (.cons _ (.cons _ (List.perm_append_comm_assoc _ [_,_] _)))).trans (List.perm_append_comm_assoc [_,_,_] [_,_] _));clear hS';refine Zd ?_;refine ZdD ?_;exact ⟨rfl,G2,es2,clk2,TR2,O2,hb2,hB2,hS.drop.drop⟩
  ·rw [if_neg (show¬y.tm.k=0 from hy0)];refine Zcf ?_;clear hS;intro wx4 hS;refine Zc ?_;clear hS;intro wx5 hS;refine Zdm ?_;refine ZbX ?_;refine ZbP ?_;refine Zr ?_;refine ZaH ?_;refine ZbX ?_;refine ZaH ?_;refine ZbX ?_;refine ZaH ?_;refine Zbx ?_;refine Zm ?_;refine ZcU ?_;refine ZcU ?_;refine Zz ?_;refine Calls.mono (Qpj f ihu x y (k+1) _ hB hSm hxn hyn hrx hry Ya Ya Ya Ya (hS.perm ((List.perm_append_comm_assoc [_,_] [_,_,_] _).trans (.cons _ (.cons _ (.cons _ (List.perm_append_comm_assoc [_,_] _ _))))))) ?_;rintro _ w6 ⟨rfl,hU⟩;refine Za ?_;obtain ⟨G2,es2,clk2,TR2,O2,hb2,hB2,hS'⟩:=hU;replace hS:=hS'.perm ((List.Perm.cons _ (.cons _ (.cons _ (List.perm_append_comm_assoc _ [_,_] _)))).trans (List.perm_append_comm_assoc [_,_,_] [_,_] _));clear hS';refine Zd ?_;refine ZdD ?_;exact ⟨rfl,G2,es2,clk2,TR2,O2,hb2,hB2,hS.drop.drop⟩
theorem Qly:∀f,Qht f
 |0=>Qlx 0 fun f' h=>by omega
 |f+1=>Qlx (f+1) fun f' h=>by
  obtain rfl:f=f':=by omega
  exact Qly f
theorem Qjq (a t:LT) (w:World) (hB:BM G 3 es TR O F) (hSm:SmB (bnd G)) (ha:a.tm.ar.nodes≤24) (ht:t.tm.ar.nodes≤24) (hra:Und F (LRd a)) (hrt:Und F (LRd t)) (hl:G.length≤1000000000000)
  (hS:St M w0 ((b,sob mb TR rest)::(mb,.map es clk)::(O++H)) F w):
  Calls Tryz.prog 126 #[pt b,tv a,tv t] w fun e w'=>e= .returned (.tuple #[.bool (Qa8 401 a.tm t.tm (bnd G) 0).ok,.bool (decide (400<(Qa8 401 a.tm t.tm (bnd G) 0).w))])∧
   ∃(G':List GB) (es':Array MapEntry) (clk':Nat) (TR':Value) (O':List (Nat×Obj)),bnd G'=(Qa8 401 a.tm t.tm (bnd G) 0).B∧BM G' 3 es' TR' O' F∧St M w0 ((b,sob mb TR' rest)::(mb,.map es' clk')::(O'++H)) F w':=by
 refine Qz Tryz.func126 rfl Tryz.ntmps126 rfl ?_;refine Zf ?_;clear hS;intro b1 wx1 hS;refine Zaw ?_;clear hS;intro b2 wx2 hS;refine Zo ?_;refine Zac ?_;refine Zfx ?_;refine Zbb ?_;clear hS;intro b3 wx3 hS;refine Zc ?_;clear hS;intro wx4 hS;refine ZaV ?_;refine ZcU ?_;refine ZcU ?_;replace hS:St M w0 ((b3,Qpg b 0)::(b2,tob t)::(b1,tob a)::(b,sob mb TR rest)::(mb,.map es clk)::(O++H)) F _:=hS;refine Zz ?_;refine Calls.mono ((Qly 401 M w0 _ F b mb clk b3 es TR rest O G a t 0 _ hB hSm ha ht hra hrt Ya Ya Ya Ya (hS.perm (.cons _ ((List.perm_append_comm_assoc [_,_] [_,_] _).trans (.cons _ (.cons _ (List.perm_append_comm_assoc [_,_] _ _)))))))) ?_;rintro _ w6 ⟨rfl,hU⟩;refine Za ?_;obtain ⟨G2,es2,clk2,TR2,O2,hb2,hB2,hS'⟩:=hU;replace hS:=hS';clear hS';refine Zd ?_;refine ZC ?_;refine Calls.mono (Qd6 b3 _ _ hS) ?_;rintro _ w7 ⟨rfl,hS'⟩;refine Za ?_;replace hS:=hS';clear hS';refine Zo ?_;refine QaS Tryz.func126 rfl Yb Yb ?_;exact ⟨rfl,G2,es2,clk2,TR2,O2,hb2,hB2,(hS.drop.perm ((List.Perm.cons _ (.cons _ (List.perm_append_comm_assoc _ [_,_] _))).trans (List.perm_append_comm_assoc [_,_] [_,_] _))).drop.drop⟩
end
structure GN where
 t:LT
 o:Nat
 blk:Nat
def hdA:List GN→Option Addr
 |[]=>none
 |g::_=>some ⟨g.blk,0,none⟩
abbrev Qcu (gs:List GN):Value:= .pointer (hdA gs)
abbrev gcs (t:LT) (o:Nat) (p:Value):List Value:=[.int .i64 t.k,.int .i64 t.n,.string t.s,.slice t.A t.ar.len t.c,.int .i64 (o:Nat),p]
def PRd (ty:TypeId):List GN→World→Prop
 |[],_=>True
 |g::r,w=>w.heap[g.blk]?=some (.cells (gcs g.t g.o (Qcu r)).toArray ty)∧LRd g.t w∧PRd ty r w
def Qdq (gs:List GN):List Gl:=gs.map fun g=>(g.t.tm,g.o)
theorem PRd.cells {ty:TypeId} {g:GN} {r:List GN} {w:World} (h:PRd ty (g::r) w):w.cell? ⟨g.blk,0,none⟩=some (.int .i64 g.t.k)∧w.cell? ⟨g.blk,1,none⟩=some (.int .i64 g.t.n)∧w.cell? ⟨g.blk,2,none⟩=some (.string g.t.s)∧w.cell? ⟨g.blk,3,none⟩=some (.slice g.t.A g.t.ar.len g.t.c)∧w.cell? ⟨g.blk,4,none⟩=some (.int .i64 (g.o:Nat))∧w.cell? ⟨g.blk,5,none⟩=some (Qcu r):=by
 have hb:=h.1;refine ⟨?_,?_,?_,?_,?_,?_⟩<;>rw [Qp hb]<;>rfl
structure LC where
 hd:LT
 bA:Option Addr
 bc:Nat
 bd:TA
 vars:Int
def LC.cl (c:LC):Cl:=⟨c.hd.k,c.hd.n,c.hd.s,c.hd.ar.ts,c.bd.ts,c.vars⟩
abbrev lcs (c:LC):List Value:=[.int .i64 c.hd.k,.int .i64 c.hd.n,.string c.hd.s,.slice c.hd.A c.hd.ar.len c.hd.c,.slice c.bA c.bd.len c.bc,.int .i64 c.vars]
def QrK:List LC→List Value
 |[]=>[]
 |c::r=>lcs c++QrK r
theorem QtJ (L M:List LC):QrK (L++M)=QrK L++QrK M:=by
 induction L with
 |nil=>rfl
 |cons c r ih=>simp [QrK,ih]
def Qjg (w:World) (b:Nat):List LC→Nat→Prop
 |[],_=>True
 | c :: r, o => w.cell? ⟨b, o, none⟩ = some (.int .i64 c.hd.k) ∧ w.cell? ⟨b, o + 1, none⟩ = some (.int .i64 c.hd.n) ∧ w.cell? ⟨b, o + 2, none⟩ = some (.string c.hd.s) ∧ w.cell? ⟨b, o + 3, none⟩ = some (.slice c.hd.A c.hd.ar.len c.hd.c) ∧
     w.cell? ⟨b,o+4,none⟩=some (.slice c.bA c.bd.len c.bc)∧w.cell? ⟨b,o+5,none⟩=some (.int .i64 c.vars)∧Qjg w b r (o+6)
def Qv6 (c:LC) (w:World):Prop:=LRd c.hd w∧ArA c.bA c.bc c.bd w
def QgE (L:List LC) (A:Option Addr) (c:Nat) (w:World):Prop:=L.length≤c∧(0<L.length→∃b o,A=some ⟨b,o,none⟩∧Qjg w b L o)∧∀x∈L,Qv6 x w
theorem Qjg.skip {w:World} {b:Nat} {R:List LC}:∀{D:List LC} {o:Nat},Qjg w b (D++R) o→Qjg w b R (o+D.length*6)
 |[],o,h=>by simpa using h
 |c::D,o,⟨_,_,_,_,_,_,h⟩=>by
  have:=Qjg.skip (R:=R) (D:=D) h
  rwa [show o+6+D.length*6=o+(c::D).length*6 by simp;omega] at this
theorem QgE.some_ {L:List LC} {A:Option Addr} {c:Nat} {w:World} (h:QgE L A c w) (hl:0<L.length):∃b o,A=some ⟨b,o,none⟩:=by
 obtain ⟨b,o,e,_⟩:=h.2.1 hl;exact ⟨b,o,e⟩
theorem QgE.cells {D R:List LC} {x:LC} {b o c:Nat} {w:World} (h:QgE (D++x::R) (some ⟨b,o,none⟩) c w):w.cell? ⟨b,o+D.length*6,none⟩=some (.int .i64 x.hd.k)∧w.cell? ⟨b,o+D.length*6+1,none⟩=some (.int .i64 x.hd.n)∧w.cell? ⟨b,o+D.length*6+2,none⟩=some (.string x.hd.s)∧w.cell? ⟨b,o+D.length*6+3,none⟩=some (.slice x.hd.A x.hd.ar.len x.hd.c)∧
   w.cell? ⟨b,o+D.length*6+4,none⟩=some (.slice x.bA x.bd.len x.bc)∧w.cell? ⟨b,o+D.length*6+5,none⟩=some (.int .i64 x.vars):=by
 obtain ⟨b',o',e,hs⟩:=h.2.1 Yh;simp only [Option.some.injEq,Addr.mk.injEq,and_true] at e;obtain ⟨rfl,rfl⟩:=e;obtain ⟨h0,h1,h2,h3,h4,h5,_⟩:=hs.skip;exact ⟨h0,h1,h2,h3,h4,h5⟩
theorem QgE.rest {x:LC} {R:List LC} {b o c:Nat} {w:World} (h:QgE (x::R) (some ⟨b,o,none⟩) c w):QgE R (some ⟨b,o+6,none⟩) (c-1) w:=by
 have h1:=h.1;simp only [List.length_cons] at h1;refine ⟨by omega,fun _=>⟨b,o+6,rfl,?_⟩,fun y hy=>h.2.2 y (.tail _ hy)⟩;obtain ⟨b',o',e,hs⟩:=h.2.1 Yd;simp only [Option.some.injEq,Addr.mk.injEq,and_true] at e;obtain ⟨rfl,rfl⟩:=e;exact hs.2.2.2.2.2.2
theorem QoR {w:World} {b:Nat}:∀{L:List LC} {o:Nat},(∀j u,(QrK L)[j]?=some u→w.cell? ⟨b,o+j,none⟩=some u)→Qjg w b L o
 |[],_,_=>trivial
 | c :: r, o, h => ⟨h 0 _ rfl, h 1 _ rfl, h 2 _ rfl, h 3 _ rfl, h 4 _ rfl, h 5 _ rfl, QoR fun j u hu => by
     rw [show o+6+j=o+(j+6) by omega]
     exact h (j+6) u (by simpa [QrK] using hu)⟩
theorem St.freezeC {M:List Nat} {w0 w:World} {H O:List (Nat×Obj)} {F:List (World→Prop)} {el:Nat} {A:Option Addr} {c:Nat} {L:List LC} (hr:Row el 6 (.slice A L.length c) L.length (QrK L) O) (hR:∀x∈L,Und F (Qv6 x)) (hS:St M w0 (O++H) F w):
  ∃F',(∀φ∈F,φ∈F')∧Und F' (QgE L A c)∧St M w0 H F' w:=by
 obtain ⟨F',h1,h2,h3⟩:=St.freezeL hS;refine ⟨F',h1,fun w' hw'=>⟨hr.cap,fun hl=> ?_,fun x hx=>(hR x hx).mono h1 w' hw'⟩,h3⟩;obtain ⟨g,sp,rfl,rfl,_⟩:=hr.some_ hl;refine ⟨g,0,rfl,QoR fun j u hu=> ?_⟩
 have hjl:j<(QrK L).length:=by
  rcases Nat.lt_or_ge j (QrK L).length with hh|hh
  ·exact hh
  ·rw [List.getElem?_eq_none hh] at hu;cases hu
 rw [Qp (h2 _ (.head _) w' hw'),Nat.zero_add,List.getElem?_append_left hjl];exact hu
theorem QnO.locate {w:World} {p:Nat→Prop}:∀{L:List Cl} {b o:Nat},QnO w p L b o→∃X:List LC,X.map LC.cl=L∧∀w':World,(∀k,p k→k<w.heap.size→w'.heap[k]?=w.heap[k]?)→Qjg w' b X o∧∀x∈X,Qv6 x w'
 |[],b,o,_=>⟨[],rfl,fun _ _=>⟨trivial,fun x hx=>by cases hx⟩⟩
 |c::r,b,o,⟨h0,h1,h2,h3,⟨v,h4,h5⟩,⟨u,h6,h7⟩,h8,h9⟩=>by
  obtain ⟨X,hX,hX'⟩:=QnO.locate h9;obtain ⟨A1,c1,L1,rfl,e1,k1⟩:=h5.locate;obtain ⟨A2,c2,L2,rfl,e2,k2⟩:=h7.locate;refine ⟨⟨⟨c.k,c.n,c.s,A1,c1,L1⟩,A2,c2,L2,c.vars⟩::X,?_,fun w' hw=> ?_⟩
  ·simp only [List.map_cons,hX,LC.cl,e1,e2]
  ·have hc:∀j,w'.cell? ⟨b,j,none⟩=w.cell? ⟨b,j,none⟩:=fun j=>World.cell?_of_block (hw b h0 (Qbn h1));obtain ⟨g1,g2⟩:=hX' w' hw;refine ⟨⟨(hc _).trans h1,(hc _).trans h2,(hc _).trans h3,(hc _).trans h4,(hc _).trans h6,(hc _).trans h8,g1⟩,fun x hx=> ?_⟩;rcases List.mem_cons.1 hx with rfl|hx
   ·exact ⟨k1 w' hw,k2 w' hw⟩
   ·exact g2 x hx
theorem SlC.locate {w:World} {p:Nat→Prop} {L:List Cl} {v:Value} (h:SlC w p v L):∃(A:Option Addr) (c:Nat) (X:List LC),v= .slice A X.length c∧X.map LC.cl=L∧∀w':World,(∀k,p k→k<w.heap.size→w'.heap[k]?=w.heap[k]?)→QgE X A c w':=by
 obtain ⟨A,c,rfl,h6,h7⟩:=h;by_cases hl:0<L.length
 ·obtain ⟨b',o',e,h9⟩:=h7 hl;obtain ⟨X,hX,hX'⟩:=h9.locate
  have e1:X.length=L.length:=by rw [←hX];simp
  exact ⟨A,c,X,by rw [e1],hX,fun w' hw=>⟨by rw [e1];exact h6,fun _=>⟨b',o',e,(hX' w' hw).1⟩,(hX' w' hw).2⟩⟩
 ·have e0:L=[]:=List.eq_nil_of_length_eq_zero Ya;subst e0;exact ⟨A,c,[],rfl,rfl,fun w' hw=>⟨Nat.zero_le _,fun h=>by simp at h,fun x hx=>by cases hx⟩⟩
end Go.Proofs.YthliapbflkfdiacGreatDoor
