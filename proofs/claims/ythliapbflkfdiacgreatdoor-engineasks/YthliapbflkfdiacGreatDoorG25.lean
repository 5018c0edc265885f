/- RefS9, RefS10, RefS11: texts that follow one another, laid into one file. -/
import Derived.Test.YthliapbflkfdiacGreatDoorZ0
import Derived.Test.YthliapbflkfdiacGreatDoorG24
namespace Go.Proofs.YthliapbflkfdiacGreatDoor
open Go.RowKit
set_option linter.unusedVariables false
set_option linter.unusedSimpArgs false
set_option maxRecDepth 100000
set_option maxHeartbeats 1000000
section
variable {M:List Nat} {w0:World} {H:List (Nat×Obj)} {F:List (World→Prop)} {X:List LC} {pA:Option Addr} {pc q C D f:Nat}
def QzN (pr:List Tg→Bnd→Qa0→Int×Qa0) (r:List Tg) (e:Bnd) (p:Qa0) (x y z:Tm):Int×Qa0:=
 if (Qc e x).k≠2∨(Qc e y).k≠2∨1099511627776<(Qc e x).n+(Qc e y).n∨(Qc e x).n+(Qc e y).n< -1099511627776 then (-1,QfZ 5 p) else Qm5 pr r e p z ⟨2,(Qc e x).n+(Qc e y).n,⟨#[]⟩,.nil⟩
theorem Qyh {n:Int} (h0: -1099511627776≤n) (h1:n≤1099511627776):tgd ⟨2,n,⟨#[]⟩,.nil⟩:=by
 refine ⟨?_,by simp [Ts.nodes]⟩
 simp only [Ts.good,Bool.and_eq_true,and_true]
 unfold QaH
 rw [if_neg Yf,if_neg Yf,if_pos rfl]
 simp only [Bool.and_eq_true,decide_eq_true_eq]
 exact ⟨⟨⟨by omega,by omega⟩,Qap []⟩,rfl⟩
theorem Qsd (hpr:PrC X pA pc q C D f) (g:GN) (r:List GN) (E:List EN) (pb:Nat) (p:Qa0) (w:World) (hX:Und F (Qit X pA pc)) (hr:Und F (TdR (g::r))) (hg:∀x∈g::r,tgd x.t.tm) (hE:EOk F E) (hf:p.fuel≤f) (hB:BdI C D p) (h4:g.t.s.toList=[97,100,100]) (hlen:g.t.ar.len=3) (hP:PSt M w0 H F pb pA X.length pc q p w):
  Calls Tryz.prog 104 #[.pointer (some ⟨pb,0,none⟩),Qe6 (g::r),Qgk E] w fun e w'=>∃F':List (World→Prop),e= .returned (.int .i64 (QzN (Qn (X.map LC.cl) q f) (Qam r) (QK E) p (g.t.ar.ts.at_ 0) (g.t.ar.ts.at_ 1) (g.t.ar.ts.at_ 2)).1)∧(∀φ∈F,φ∈F')∧PSt M w0 H F' pb pA X.length pc q (QzN (Qn (X.map LC.cl) q f) (Qam r) (QK E) p (g.t.ar.ts.at_ 0) (g.t.ar.ts.at_ 1) (g.t.ar.ts.at_ 2)).2 w':=by
 have hpc:∀{F':List (World→Prop)} {H':List (Nat×Obj)} (hF:∀φ∈F,φ∈F') (w':World),St M w0 H' F' w'→_:=fun hF w' hS=>(hS.und (hr.mono hF)).cells
 have hF0:∀φ∈F,φ∈F:=fun _ h=>h
 have e4:=(Qaa [97,100,100]).1 h4
 have e1:g.t.s≠⟨#[33]⟩:=by rw [e4];decide
 have e2:g.t.s≠⟨#[116,114,117,101]⟩:=by rw [e4];decide
 have e5:g.t.s≠⟨#[101,113]⟩:=by rw [e4];decide
 have e7:g.t.s≠⟨#[108,101,115,115]⟩:=by rw [e4];decide
 have e3:g.t.s≠⟨#[102,97,105,108]⟩:=by rw [e4];decide
 have hrt:Und F (LRd g.t):=hr.imp fun w h=>h.2.1
 have hrr:Und F (TdR r):=hr.imp fun w h=>h.2.2
 have hgr:∀x∈r,tgd x.t.tm:=fun x hx=>hg x (.tail _ hx)
 have hdown:=Qax _ (hg g (.head _))
 obtain ⟨x,y,z,hT⟩:=Qwn (T:=g.t.ar) hlen
 obtain ⟨⟨gk,gn,gs_,gA,gc,gar⟩,go_,gb⟩:=g
 dsimp only at*
 subst hT
 have hra:=hrt
 unfold LRd at hra
 dsimp only at hra
 obtain ⟨K,oA,oc,O,hK,hKr,hrow,hS⟩:=hP
 obtain ⟨b6,o6,rfl⟩:=(hS.und hra).some_ (by simp [TA.len])
 have hcA:∀{H'} w',St M w0 H' F w'→_:=fun w' hS=>ArA.cells (D:= .nil) (hS.und hra)
 have hcB:∀{H'} w',St M w0 H' F w'→_:=fun w' hS=>ArA.cells (D:= .cons x.k x.n x.s x.A x.c x.ar .nil) (hS.und hra)
 have hrx:Und F (LRd x):=hra.imp fun w h=>ArA.sub (D:= .nil) h
 have hry:Und F (LRd y):=hra.imp fun w h=>ArA.sub (D:= .cons x.k x.n x.s x.A x.c x.ar .nil) h
 have tx:tgd x.tm:=hdown x.tm (.inl rfl)
 have ty_:tgd y.tm:=hdown y.tm (.inr (.inl rfl))
 have hcC:∀{H'} w',St M w0 H' F w'→_:=fun w' hS=>ArA.cells (D:= .cons x.k x.n x.s x.A x.c x.ar (.cons y.k y.n y.s y.A y.c y.ar .nil)) (hS.und hra)
 have hrz:Und F (LRd z):=hra.imp fun w h=>ArA.sub (D:= .cons x.k x.n x.s x.A x.c x.ar (.cons y.k y.n y.s y.A y.c y.ar .nil)) h
 have tz:tgd z.tm:=hdown z.tm (.inr (.inr (.inl rfl)))
 have hlen2:(TA.cons x.k x.n x.s x.A x.c x.ar (TA.cons y.k y.n y.s y.A y.c y.ar (TA.cons z.k z.n z.s z.A z.c z.ar TA.nil))).len=3:=rfl
 have hres:QzN (Qn (X.map LC.cl) q f) (Qam r) (QK E) p ((TA.cons x.k x.n x.s x.A x.c x.ar (TA.cons y.k y.n y.s y.A y.c y.ar (TA.cons z.k z.n z.s z.A z.c z.ar TA.nil))).ts.at_ 0) ((TA.cons x.k x.n x.s x.A x.c x.ar (TA.cons y.k y.n y.s y.A y.c y.ar (TA.cons z.k z.n z.s z.A z.c z.ar TA.nil))).ts.at_ 1) ((TA.cons x.k x.n x.s x.A x.c x.ar (TA.cons y.k y.n y.s y.A y.c y.ar (TA.cons z.k z.n z.s z.A z.c z.ar TA.nil))).ts.at_ 2)=if (Qc (QK E) x.tm).k≠2∨(Qc (QK E) y.tm).k≠2∨1099511627776<(Qc (QK E) x.tm).n+(Qc (QK E) y.tm).n∨(Qc (QK E) x.tm).n+(Qc (QK E) y.tm).n< -1099511627776 then (-1,QfZ 5 p) else Qm5 (Qn (X.map LC.cl) q f) (Qam r) (QK E) p z.tm ⟨2,(Qc (QK E) x.tm).n+(Qc (QK E) y.tm).n,⟨#[]⟩,.nil⟩:=rfl
 rw [hres]
 clear hres
 have ho:=hB.o
 refine Zf3 ?_
 refine Zc0 ?_
 refine Zf4 ?_
 refine Zb2 ?_
 refine ZaR ?_
 refine Zat ?_
 refine ZaA ?_
 refine Zd ?_
 refine ZbG ?_
 refine Zc0 ?_
 refine ZaZ ?_
 refine Zt ?_
 refine Zp ?_
 refine Qd9 9 10 (65::66::67::68::69::70::71::72::73::74::[]) (fun y_ z_ w'=>∃(b5 b6:Nat) (u v:LT),y_= .pointer (some ⟨b5,0,none⟩)∧z_= .pointer (some ⟨b6,0,none⟩)∧u.tm=Qc (QK E) x.tm∧v.tm=Qc (QK E) y.tm∧St M w0 ((b5,.cells (tcs u).toArray 63)::(b6,.cells (tcs v).toArray 63)::(pb,.cells (QfK pA X.length pc q p oA K.length oc).toArray 109)::(O++H)) F w') ?_ ?_
 ·intro hmeet
  refine ZjE ?_
  replace hS:=hS.drew
  refine Zf5 ?_
  refine Ze1 ?_
  refine Zf5 ?_
  refine Ze1 ?_
  refine QA rfl ?_ ?_
  ·refine Zf7 ?_
   rintro _ w5 ⟨u,rfl,hu1,hu2,hu3,hS'⟩
   refine Za ?_
   replace hS:=hS'
   clear hS'
   refine ZM ?_
   refine QA rfl ?_ ?_
   ·refine Zcw ?_
    rintro _ w6 ⟨v,rfl,hv1,hv2,hv3,hS'⟩
    refine Za ?_
    replace hS:=hS'
    clear hS'
    refine ZM ?_
    refine QA rfl ?_ ?_
    ·refine ZY ?_
     clear hS
     intro b1 wx1 hS
     refine ZaL ?_
     clear hS
     intro b2 wx2 hS
     refine ZA ?_
     clear hS
     intro wx3 hS
     refine Zc ?_
     clear hS
     intro wx4 hS
     refine Zb ?_
     first|exact hmeet _ _ _ _ ⟨_,_,u,v,rfl,rfl,hu1,hv1,hS⟩ Yb Yb Yc|exact hmeet _ _ _ _ ⟨_,_,u,v,rfl,rfl,hu1,hv1,hS.perm (List.Perm.swap _ _ _)⟩ Yb Yb Yc
    refine ZV ?_
    clear hS
    intro b3 wx5 hS
    refine ZaL ?_
    clear hS
    intro b4 wx6 hS
    refine ZA ?_
    clear hS
    intro wx7 hS
    refine Zc ?_
    clear hS
    intro wx8 hS
    refine Zb ?_
    first|exact hmeet _ _ _ _ ⟨_,_,u,v,rfl,rfl,hu1,hv1,hS⟩ Yb Yb Yc|exact hmeet _ _ _ _ ⟨_,_,u,v,rfl,rfl,hu1,hv1,hS.perm (List.Perm.swap _ _ _)⟩ Yb Yb Yc
   refine QA rfl ?_ ?_
   ·refine ZY ?_
    clear hS
    intro b5 wx9 hS
    refine ZM ?_
    refine QA rfl ?_ ?_
    ·refine Zcw ?_
     rintro _ w6 ⟨v,rfl,hv1,hv2,hv3,hS'⟩
     refine Za ?_
     replace hS:=hS'
     clear hS'
     refine ZaL ?_
     clear hS
     intro b6 wx10 hS
     refine ZA ?_
     clear hS
     intro wx11 hS
     refine Zc ?_
     clear hS
     intro wx12 hS
     refine Zb ?_
     first|exact hmeet _ _ _ _ ⟨_,_,u,v,rfl,rfl,hu1,hv1,hS⟩ Yb Yb Yc|exact hmeet _ _ _ _ ⟨_,_,u,v,rfl,rfl,hu1,hv1,hS.perm (List.Perm.swap _ _ _)⟩ Yb Yb Yc
    refine ZV ?_
    clear hS
    intro b7 wx13 hS
    refine ZbP ?_
    rintro _ w6 ⟨v,rfl,hv1,hv2,hv3,hS'⟩
    refine Za ?_
    replace hS:=hS'
    clear hS'
    refine ZA ?_
    clear hS
    intro wx14 hS
    refine Zc ?_
    clear hS
    intro wx15 hS
    refine Zb ?_
    first|exact hmeet _ _ _ _ ⟨_,_,u,v,rfl,rfl,hu1,hv1,hS⟩ Yb Yb Yc|exact hmeet _ _ _ _ ⟨_,_,u,v,rfl,rfl,hu1,hv1,hS.perm (List.Perm.swap _ _ _)⟩ Yb Yb Yc
   refine ZV ?_
   clear hS
   intro b8 wx16 hS
   refine ZM ?_
   refine QA rfl ?_ ?_
   ·refine Zcw ?_
    rintro _ w6 ⟨v,rfl,hv1,hv2,hv3,hS'⟩
    refine Za ?_
    replace hS:=hS'
    clear hS'
    refine ZaL ?_
    clear hS
    intro b9 wx17 hS
    refine ZA ?_
    clear hS
    intro wx18 hS
    refine Zc ?_
    clear hS
    intro wx19 hS
    refine Zb ?_
    first|exact hmeet _ _ _ _ ⟨_,_,u,v,rfl,rfl,hu1,hv1,hS⟩ Yb Yb Yc|exact hmeet _ _ _ _ ⟨_,_,u,v,rfl,rfl,hu1,hv1,hS.perm (List.Perm.swap _ _ _)⟩ Yb Yb Yc
   refine ZV ?_
   clear hS
   intro b10 wx20 hS
   refine ZbP ?_
   rintro _ w6 ⟨v,rfl,hv1,hv2,hv3,hS'⟩
   refine Za ?_
   replace hS:=hS'
   clear hS'
   refine ZA ?_
   clear hS
   intro wx21 hS
   refine Zc ?_
   clear hS
   intro wx22 hS
   refine Zb ?_
   first|exact hmeet _ _ _ _ ⟨_,_,u,v,rfl,rfl,hu1,hv1,hS⟩ Yb Yb Yc|exact hmeet _ _ _ _ ⟨_,_,u,v,rfl,rfl,hu1,hv1,hS.perm (List.Perm.swap _ _ _)⟩ Yb Yb Yc
  refine QA rfl ?_ ?_
  ·refine ZY ?_
   clear hS
   intro b11 wx23 hS
   refine ZM ?_
   refine QA rfl ?_ ?_
   ·refine Zf7 ?_
    rintro _ w5 ⟨u,rfl,hu1,hu2,hu3,hS'⟩
    refine Za ?_
    replace hS:=hS'
    clear hS'
    refine ZM ?_
    refine QA rfl ?_ ?_
    ·refine Zcw ?_
     rintro _ w6 ⟨v,rfl,hv1,hv2,hv3,hS'⟩
     refine Za ?_
     replace hS:=hS'
     clear hS'
     refine ZaL ?_
     clear hS
     intro b12 wx24 hS
     refine ZA ?_
     clear hS
     intro wx25 hS
     refine Zc ?_
     clear hS
     intro wx26 hS
     refine Zb ?_
     first|exact hmeet _ _ _ _ ⟨_,_,u,v,rfl,rfl,hu1,hv1,hS⟩ Yb Yb Yc|exact hmeet _ _ _ _ ⟨_,_,u,v,rfl,rfl,hu1,hv1,hS.perm (List.Perm.swap _ _ _)⟩ Yb Yb Yc
    refine ZV ?_
    clear hS
    intro b13 wx27 hS
    refine ZbP ?_
    rintro _ w6 ⟨v,rfl,hv1,hv2,hv3,hS'⟩
    refine Za ?_
    replace hS:=hS'
    clear hS'
    refine ZA ?_
    clear hS
    intro wx28 hS
    refine Zc ?_
    clear hS
    intro wx29 hS
    refine Zb ?_
    first|exact hmeet _ _ _ _ ⟨_,_,u,v,rfl,rfl,hu1,hv1,hS⟩ Yb Yb Yc|exact hmeet _ _ _ _ ⟨_,_,u,v,rfl,rfl,hu1,hv1,hS.perm (List.Perm.swap _ _ _)⟩ Yb Yb Yc
   refine ZV ?_
   clear hS
   intro b14 wx30 hS
   refine Zdg ?_
   refine Zgs ?_
   rintro _ w5 ⟨u,rfl,hu1,hu2,hu3,hS'⟩
   refine Za ?_
   replace hS:=hS'
   clear hS'
   refine ZbP ?_
   rintro _ w6 ⟨v,rfl,hv1,hv2,hv3,hS'⟩
   refine Za ?_
   replace hS:=hS'
   clear hS'
   refine ZA ?_
   clear hS
   intro wx31 hS
   refine Zc ?_
   clear hS
   intro wx32 hS
   refine Zb ?_
   first|exact hmeet _ _ _ _ ⟨_,_,u,v,rfl,rfl,hu1,hv1,hS⟩ Yb Yb Yc|exact hmeet _ _ _ _ ⟨_,_,u,v,rfl,rfl,hu1,hv1,hS.perm (List.Perm.swap _ _ _)⟩ Yb Yb Yc
  refine ZV ?_
  clear hS
  intro b15 wx33 hS
  refine ZM ?_
  refine QA rfl ?_ ?_
  ·refine Zf7 ?_
   rintro _ w5 ⟨u,rfl,hu1,hu2,hu3,hS'⟩
   refine Za ?_
   replace hS:=hS'
   clear hS'
   refine ZM ?_
   refine QA rfl ?_ ?_
   ·refine Zcw ?_
    rintro _ w6 ⟨v,rfl,hv1,hv2,hv3,hS'⟩
    refine Za ?_
    replace hS:=hS'
    clear hS'
    refine ZaL ?_
    clear hS
    intro b16 wx34 hS
    refine ZA ?_
    clear hS
    intro wx35 hS
    refine Zc ?_
    clear hS
    intro wx36 hS
    refine Zb ?_
    first|exact hmeet _ _ _ _ ⟨_,_,u,v,rfl,rfl,hu1,hv1,hS⟩ Yb Yb Yc|exact hmeet _ _ _ _ ⟨_,_,u,v,rfl,rfl,hu1,hv1,hS.perm (List.Perm.swap _ _ _)⟩ Yb Yb Yc
   refine ZV ?_
   clear hS
   intro b17 wx37 hS
   refine ZbP ?_
   rintro _ w6 ⟨v,rfl,hv1,hv2,hv3,hS'⟩
   refine Za ?_
   replace hS:=hS'
   clear hS'
   refine ZA ?_
   clear hS
   intro wx38 hS
   refine Zc ?_
   clear hS
   intro wx39 hS
   refine Zb ?_
   first|exact hmeet _ _ _ _ ⟨_,_,u,v,rfl,rfl,hu1,hv1,hS⟩ Yb Yb Yc|exact hmeet _ _ _ _ ⟨_,_,u,v,rfl,rfl,hu1,hv1,hS.perm (List.Perm.swap _ _ _)⟩ Yb Yb Yc
  refine ZV ?_
  clear hS
  intro b18 wx40 hS
  refine Zdg ?_
  refine Zgs ?_
  rintro _ w5 ⟨u,rfl,hu1,hu2,hu3,hS'⟩
  refine Za ?_
  replace hS:=hS'
  clear hS'
  refine ZbP ?_
  rintro _ w6 ⟨v,rfl,hv1,hv2,hv3,hS'⟩
  refine Za ?_
  replace hS:=hS'
  clear hS'
  refine ZA ?_
  clear hS
  intro wx41 hS
  refine Zc ?_
  clear hS
  intro wx42 hS
  refine Zb ?_
  first|exact hmeet _ _ _ _ ⟨_,_,u,v,rfl,rfl,hu1,hv1,hS⟩ Yb Yb Yc|exact hmeet _ _ _ _ ⟨_,_,u,v,rfl,rfl,hu1,hv1,hS.perm (List.Perm.swap _ _ _)⟩ Yb Yb Yc
 clear hS
 rintro jv2 _ _ w7 ⟨b5,b6,u,v,rfl,rfl,hu1,hv1,hS⟩
 have tu:tgd u.tm:=by rw [hu1];exact Qd3 hE.gd tx
 have tv':tgd v.tm:=by rw [hv1];exact Qd3 hE.gd ty_
 rw [←hu1,←hv1]
 have hPS:∀w',St M w0 ((b5,.cells (tcs u).toArray 63)::(b6,.cells (tcs v).toArray 63)::(pb,.cells (QfK pA X.length pc q p oA K.length oc).toArray 109)::(O++H)) F w'→PSt M w0 H F pb pA X.length pc q p w':=fun w' hS=>⟨K,oA,oc,O,hK,hKr,hrow,hS.drop.drop⟩
 by_cases ku:u.k=2
 case neg=>
  rw [if_pos (.inl (by exact ku))]
  refine ZaF ?_
  refine ZdW ?_
  refine Zz ?_
  refine Zal ?_
  refine ZeE ?_
  refine Zcm ?_
  refine Zcm ?_
  refine Zf8 ?_
  refine Zf9 ?_
  rintro _ w8 ⟨rfl,hP'⟩
  refine ZbO ?_
  exact ⟨F,rfl,hF0,hP'⟩
 by_cases kv:v.k=2
 case neg=>
  rw [if_pos (.inr (.inl (by exact kv)))]
  refine ZaF ?_
  refine ZdW ?_
  refine ZeI ?_
  refine Zdn ?_
  refine Zz ?_
  refine ZeE ?_
  refine Zcm ?_
  refine Zcm ?_
  refine Zf8 ?_
  refine Zf9 ?_
  rintro _ w8 ⟨rfl,hP'⟩
  refine ZbO ?_
  exact ⟨F,rfl,hF0,hP'⟩
 have nu: -1099511627776≤u.n∧u.n≤1099511627776:=QtJ tu ku
 have nv: -1099511627776≤v.n∧v.n≤1099511627776:=QtJ tv' kv
 by_cases h8:1099511627776<u.n+v.n
 ·rw [if_pos (.inr (.inr (.inl (by exact h8))))]
  refine ZaF ?_
  refine ZdW ?_
  refine ZeI ?_
  refine Zdn ?_
  refine Zz ?_
  refine Zaw ?_
  refine Zbu ?_
  refine Zbr ?_
  refine Zfv ?_
  refine Zdn ?_
  refine ZZ ?_
  refine ZH ?_
  refine Zcx ?_
  refine Zcx ?_
  refine Zfp ?_
  refine Zw ?_
  refine Zm ?_
  refine Zdh ?_
  refine ZaI ?_
  refine ZaI ?_
  refine Zf9 ?_
  rintro _ w8 ⟨rfl,hP'⟩
  refine ZbO ?_
  exact ⟨F,rfl,hF0,hP'⟩
 by_cases h9:u.n+v.n< -1099511627776
 ·rw [if_pos (.inr (.inr (.inr (by exact h9))))]
  refine ZaF ?_
  refine ZdW ?_
  refine ZeI ?_
  refine Zdn ?_
  refine Zz ?_
  refine Zaw ?_
  refine Zbu ?_
  refine Zbr ?_
  refine Zfv ?_
  refine Zdn ?_
  refine ZZ ?_
  refine ZH ?_
  refine Zcx ?_
  refine Zcx ?_
  refine Zfp ?_
  refine Zw ?_
  refine ZH ?_
  refine Zcx ?_
  refine Zcx ?_
  refine Zfp ?_
  refine Zs ?_
  refine ZaI ?_
  refine ZaI ?_
  refine Zf9 ?_
  rintro _ w8 ⟨rfl,hP'⟩
  refine ZbO ?_
  exact ⟨F,rfl,hF0,hP'⟩
 rw [if_neg (show¬(u.tm.k≠2∨v.tm.k≠2∨1099511627776<u.tm.n+v.tm.n∨u.tm.n+v.tm.n< -1099511627776) from (by omega:¬(u.k≠2∨v.k≠2∨1099511627776<u.n+v.n∨u.n+v.n< -1099511627776)))]
 have tn:tgd ⟨2,u.n+v.n,⟨#[]⟩,.nil⟩:=Qyh Ya Ya
 have hone:∀{H'} w',St M w0 H' F w'→_:=fun w' hS=>Qyy E z ⟨2,u.n+v.n,⟨#[]⟩,none,0,.nil⟩ w' hE hrz (fun w _=>⟨Nat.le_refl _,fun h=>by simp [TA.len] at h⟩) tz tn hS
 have hres:Qm5 (Qn (X.map LC.cl) q f) (Qam r) (QK E) p z.tm ⟨2,u.tm.n+v.tm.n,⟨#[]⟩,.nil⟩=if 400<(QbY z.tm (LT.tm ⟨2,u.n+v.n,⟨#[]⟩,none,0,.nil⟩) (QK E)).w then (-1,QfZ 4 p) else if (QbY z.tm (LT.tm ⟨2,u.n+v.n,⟨#[]⟩,none,0,.nil⟩) (QK E)).ok=true then Qn (X.map LC.cl) q f (Qam r) (QbY z.tm (LT.tm ⟨2,u.n+v.n,⟨#[]⟩,none,0,.nil⟩) (QK E)).s p else (-1,p):=rfl
 rw [hres]
 clear hres
 generalize QbY z.tm (LT.tm ⟨2,u.n+v.n,⟨#[]⟩,none,0,.nil⟩) (QK E)=uu at*
 refine ZaF ?_
 refine ZdW ?_
 refine ZeI ?_
 refine Zdn ?_
 refine Zz ?_
 refine Zaw ?_
 refine Zbu ?_
 refine Zbr ?_
 refine Zfv ?_
 refine Zdn ?_
 refine ZZ ?_
 refine ZH ?_
 refine Zcx ?_
 refine Zcx ?_
 refine Zfp ?_
 refine Zw ?_
 refine ZH ?_
 refine Zcx ?_
 refine Zcx ?_
 refine Zfp ?_
 refine Zs ?_
 refine ZaI ?_
 refine ZaI ?_
 refine ZC ?_
 refine ZbG ?_
 refine Zah ?_
 refine ZdW ?_
 refine ZZ ?_
 refine Zo ?_
 refine Zd1 ?_
 replace hS:=hS.drew
 refine ZK ?_
 refine Zgy ?_
 first
  |refine Qe rfl (fun _ hS=>Qb (k:=4) hS rfl rfl rfl (by first|exact .head|exact .tail .head|exact .tail (.tail .head)|exact .tail (.tail (.tail .head))|exact .tail (.tail (.tail (.tail .head)))|exact .tail (.tail (.tail (.tail (.tail .head))))) Yh) rfl ?_
  |refine Qe rfl (fun _ hS=>Qb (k:=4) hS rfl rfl rfl (by first|exact .head|exact .tail .head|exact .tail (.tail .head)|exact .tail (.tail (.tail .head))|exact .tail (.tail (.tail (.tail .head)))|exact .tail (.tail (.tail (.tail (.tail .head))))) Ye) rfl ?_
  |refine Qe rfl (fun _ hS=>Q7 rfl rfl rfl (by first|assumption|exact (hpc hF0 _ hS).1|exact (hpc hF0 _ hS).2.1|exact (hpc hF0 _ hS).2.2.1|exact (hpc hF0 _ hS).2.2.2.1|exact (hpc hF0 _ hS).2.2.2.2.1|exact (hpc hF0 _ hS).2.2.2.2.2|exact (hcC _ hS).1|exact (hcC _ hS).2.1|exact (hcC _ hS).2.2.1|exact (hcC _ hS).2.2.2|exact hS.cell0 Ye) (by first|assumption|exact (hpc hF0 _ hS).1|exact (hpc hF0 _ hS).2.1|exact (hpc hF0 _ hS).2.2.1|exact (hpc hF0 _ hS).2.2.2.1|exact (hpc hF0 _ hS).2.2.2.2.1|exact (hpc hF0 _ hS).2.2.2.2.2|exact (hcC _ hS).1|exact (hcC _ hS).2.1|exact (hcC _ hS).2.2.1|exact (hcC _ hS).2.2.2|exact hS.cell0 Ye) (by first|assumption|exact (hpc hF0 _ hS).1|exact (hpc hF0 _ hS).2.1|exact (hpc hF0 _ hS).2.2.1|exact (hpc hF0 _ hS).2.2.2.1|exact (hpc hF0 _ hS).2.2.2.2.1|exact (hpc hF0 _ hS).2.2.2.2.2|exact (hcC _ hS).1|exact (hcC _ hS).2.1|exact (hcC _ hS).2.2.1|exact (hcC _ hS).2.2.2|exact hS.cell0 Ye) (by first|assumption|exact (hpc hF0 _ hS).1|exact (hpc hF0 _ hS).2.1|exact (hpc hF0 _ hS).2.2.1|exact (hpc hF0 _ hS).2.2.2.1|exact (hpc hF0 _ hS).2.2.2.2.1|exact (hpc hF0 _ hS).2.2.2.2.2|exact (hcC _ hS).1|exact (hcC _ hS).2.1|exact (hcC _ hS).2.2.1|exact (hcC _ hS).2.2.2|exact hS.cell0 Ye)) rfl ?_
 refine ZcB ?_
 refine ZjF ?_
 refine ZcB ?_
 refine ZjF ?_
 refine ZhI ?_
 refine ZjG ?_
 refine Zae ?_
 refine QaF (cells:=[_,_,_,_,_,_,_,_]) hS (.cons Yb (.cons Yb .nil)) rfl rfl ?_
 clear hS
 intro b19 wx43 hS
 refine Zg6 ?_
 refine QhI 11 12 13 (138::139::140::141::142::143::144::145::137::146::147::148::[]) (fun v_ y_ z_ w'=>∃(E':List EN) (ok:Bool) (k:Int) (F':List (World→Prop)),v_=Qgk E'∧y_= .bool ok∧z_= .int .i64 k∧(∀φ∈F,φ∈F')∧(400<uu.w→k<0)∧(uu.w≤400→0≤k∧ok=uu.ok∧(uu.ok=true→QK E'=uu.s∧EOk F' E'))∧St M w0 ((b19,.cells [.int .i64 z.k,.int .i64 z.n,.string z.s,.slice z.A z.ar.len z.c,.int .i64 2,.int .i64 (u.n+v.n),.string ⟨#[]⟩,.slice none 0 0].toArray 63)::(b5,.cells (tcs u).toArray 63)::(b6,.cells (tcs v).toArray 63)::(pb,.cells (QfK pA X.length pc q p oA K.length oc).toArray 109)::(O++H)) F' w') ?_ ?_
 ·intro hmeet
  refine ZjC ?_
  replace hS:=hS.drew
  refine Zf5 ?_
  refine ZjH ?_
  refine ZbR ?_
  refine Zii ?_
  refine ZjH ?_
  refine ZeF ?_
  refine Calls.mono (hone _ hS) ?_
  rintro _ w9 ⟨E9,ok9,k9,F9,rfl,hF9,c19,c29,hS'⟩
  refine Za ?_
  replace hS:=hS'
  clear hS'
  refine ZjD ?_
  refine ZeG ?_
  refine ZdX ?_
  refine ZcC ?_
  refine ZcC ?_
  refine ZcY ?_
  exact hmeet _ _ _ _ _ ⟨E9,ok9,k9,F9,rfl,rfl,rfl,hF9,c19,c29,hS⟩ Yb Yb Yb Yc
 clear hS
 rintro jw _ _ _ w9 ⟨E',ok,k,F',rfl,rfl,rfl,hF,c1,c2,hS⟩
 by_cases hw:400<uu.w
 ·have hk:=c1 hw
  rw [if_pos hw]
  refine Zdp ?_
  refine Zt ?_
  refine ZP ?_
  refine Calls.mono (Qew pb pA X.length pc q p 4 _ (by have:=hB.o;omega) ⟨K,oA,oc,O,hK,fun x hx=>(hKr x hx).mono hF,hrow,hS.drop.drop.drop⟩) ?_
  rintro _ w6 ⟨rfl,hP'⟩
  refine ZbO ?_
  exact ⟨F',rfl,hF,hP'⟩
 obtain ⟨hk,rfl,hok⟩:=c2 Ya
 rw [if_neg hw]
 cases ho:uu.ok with
 |false=>
  rw [if_neg Yf]
  rw [ho] at*
  refine Zf6 ?_
  refine ZcV ?_
  refine Z6 ?_
  refine Zc4 ?_
  exact ⟨F',rfl,hF,K,oA,oc,O,hK,fun x hx=>(hKr x hx).mono hF,hrow,hS.drop.drop.drop⟩
 |true=>
  rw [if_pos rfl]
  obtain ⟨hE1,hE2⟩:=hok ho
  have hc:=fun w' hP=>hpr M w0 H F' r E' pb p w' (hX.mono hF) (hrr.mono hF) hgr hE2 hf hB hP
  rw [hE1] at hc
  rw [ho] at*
  refine Zf6 ?_
  refine ZeH ?_
  refine Zds ?_
  refine ZaN ?_
  refine Ze0 ?_
  refine Zef ?_
  refine Calls.mono (hc _ ⟨K,oA,oc,O,hK,fun x hx=>(hKr x hx).mono hF,hrow,hS.drop.drop.drop⟩) ?_
  rintro _ w6 ⟨F2,rfl,hF2,hP'⟩
  refine ZbO ?_
  exact ⟨F2,rfl,fun φ h=>hF2 φ (hF φ h),hP'⟩
end
section
variable {M:List Nat} {w0:World} {H:List (Nat×Obj)} {F:List (World→Prop)} {X:List LC} {pA:Option Addr} {pc q C D f:Nat}
theorem Qsc (hpr:PrC X pA pc q C D f) (g:GN) (r:List GN) (E:List EN) (pb:Nat) (p:Qa0) (w:World) (hX:Und F (Qit X pA pc)) (hr:Und F (TdR (g::r))) (hg:∀x∈g::r,tgd x.t.tm) (hE:EOk F E) (hf:p.fuel≤f) (hB:BdI C D p) (hbt:Q1 g.t.s.toList g.t.ar.len=true) (hP:PSt M w0 H F pb pA X.length pc q p w):
  Calls Tryz.prog 104 #[.pointer (some ⟨pb,0,none⟩),Qe6 (g::r),Qgk E] w fun e w'=>∃F':List (World→Prop),e= .returned (.int .i64 (Qcl (Qn (X.map LC.cl) q f) (g.t.tm,g.o) (Qam r) (QK E) p).1)∧(∀φ∈F,φ∈F')∧PSt M w0 H F' pb pA X.length pc q (Qcl (Qn (X.map LC.cl) q f) (g.t.tm,g.o) (Qam r) (QK E) p).2 w':=by
 have hs:g.t.tm.s=g.t.s:=rfl
 have hts:g.t.tm.ar=g.t.ar.ts:=rfl
 unfold Q1 at hbt
 unfold Qcl
 dsimp only
 rw [hs,hts]
 by_cases h1:g.t.s.toList=[33]
 ·rw [if_pos h1]
  refine Calls.mono (Qsb hpr g r E pb p w hX hr hg hE hf hB h1 hP) ?_
  rintro e w' ⟨F',rfl,hF,hP'⟩
  refine ⟨F',?_,hF,?_⟩
  ·split<;>rfl
  ·split
   ·exact hP'
   ·exact hP'
 rw [if_neg h1] at hbt⊢
 by_cases h2:g.t.s.toList=[116,114,117,101]
 ·rw [if_pos h2]
  exact Qpn hpr g r E pb p w hX hr hg hE hf hB h2 hP
 rw [if_neg h2] at hbt⊢
 by_cases h3:g.t.s.toList=[102,97,105,108]
 ·rw [if_pos h3]
  refine Calls.mono (Qpq g r E pb p w hr h3 hP) ?_
  rintro e w' ⟨rfl,hP'⟩
  exact ⟨F,rfl,fun _ h=>h,hP'⟩
 rw [if_neg h3] at hbt⊢
 by_cases h4:g.t.s.toList=[101,113]
 ·rw [if_pos h4] at hbt⊢
  exact QtQ hpr g r E pb p w hX hr hg hE hf hB h4 (by simpa using hbt) hP
 rw [if_neg h4] at hbt⊢
 by_cases h5:g.t.s.toList=[108,101,115,115]
 ·rw [if_pos h5] at hbt
  have h6:¬g.t.s.toList=[97,100,100]:=by rw [h5];decide
  have hres:=Qpo hpr g r E pb p w hX hr hg hE hf hB h5 (by simpa using hbt) hP
  unfold QwV at hres
  simp only [h6,false_and,or_false,if_pos h5]
  exact hres
 rw [if_neg h5] at hbt
 by_cases h6:g.t.s.toList=[97,100,100]
 ·rw [if_pos h6] at hbt
  have hres:=Qsd hpr g r E pb p w hX hr hg hE hf hB h6 (by simpa using hbt) hP
  unfold QzN at hres
  simp only [if_neg h5]
  simp only [h6,true_and]
  exact hres
 ·rw [if_neg h6] at hbt
  cases hbt
end
section
variable {M:List Nat} {w0:World} {H:List (Nat×Obj)} {F:List (World→Prop)} {X:List LC} {pA:Option Addr} {pc q C D f:Nat}
theorem QnR (E:List EN) (pb:Nat) (p:Qa0) (w:World) (hq:q≤8) (hE:EOk F E) (hB:BdI C D p) (hP:PSt M w0 H F pb pA X.length pc q p w):
  Calls Tryz.prog 62 #[.pointer (some ⟨pb,0,none⟩),Qe6 [],Qgk E] w fun e w'=>∃F':List (World→Prop),e= .returned (.int .i64 (Qf3 q (QK E) p).1)∧(∀φ∈F,φ∈F')∧PSt M w0 H F' pb pA X.length pc q (Qf3 q (QK E) p).2 w':=by
 have ho:=hB.o
 have hc:=fun w' hP=>Qwp (M:=M) (w0:=w0) (H:=H) (F:=F) E pb pA X.length pc q p w' hq Ya hE hP
 obtain ⟨K,oA,oc,O,hK,hKr,hrow,hS⟩:=hP
 refine ZgJ ?_
 refine Zac ?_
 refine ZcD ?_
 refine Zt ?_
 refine Zbc ?_
 refine ZeZ ?_
 rintro _ w5 ⟨F',rfl,hF,hP'⟩
 refine ZD ?_
 refine ZcJ ?_
 exact ⟨F',rfl,hF,hP'⟩
theorem QnQ (g:GN) (r:List GN) (E:List EN) (pb:Nat) (p:Qa0) (w:World) (hB:BdI C D p) (h0:p.fuel=0) (hP:PSt M w0 H F pb pA X.length pc q p w):
  Calls Tryz.prog 62 #[.pointer (some ⟨pb,0,none⟩),Qe6 (g::r),Qgk E] w fun e w'=>e= .returned (.int .i64 (-1))∧PSt M w0 H F pb pA X.length pc q (QfZ 3 p) w':=by
 have ho:=hB.o
 have h0':((p.fuel:Nat):Int)=0:=by omega
 have hc:=fun w' hP=>Qew (M:=M) (w0:=w0) (H:=H) (F:=F) pb pA X.length pc q p 3 w' Ya hP
 obtain ⟨K,oA,oc,O,hK,hKr,hrow,hS⟩:=hP
 refine ZgJ ?_
 refine Zac ?_
 refine ZcD ?_
 refine Zo ?_
 refine Za3 ?_
 refine ZfY ?_
 refine ZP ?_
 refine ZeZ ?_
 rintro _ w5 ⟨rfl,hP'⟩
 refine ZD ?_
 refine ZcJ ?_
 exact ⟨rfl,hP'⟩
theorem QpD (hpr:PrC X pA pc q C D f) (g:GN) (r:List GN) (E:List EN) (pb:Nat) (p:Qa0) (w:World) (hX:Und F (Qit X pA pc)) (hr:Und F (TdR (g::r))) (hg:∀x∈g::r,tgd x.t.tm) (hE:EOk F E) (h0:p.fuel≠0) (h1:p.fuel≤1000) (hf:p.fuel≤f+1) (hB:BdI C D p) (hbt:Q1 g.t.s.toList g.t.ar.len=true) (hP:PSt M w0 H F pb pA X.length pc q p w):
  Calls Tryz.prog 62 #[.pointer (some ⟨pb,0,none⟩),Qe6 (g::r),Qgk E] w fun e w'=>∃F':List (World→Prop),e= .returned (.int .i64 (Qcl (Qn (X.map LC.cl) q f) (g.t.tm,g.o) (Qam r) (QK E) ⟨p.fuel-1,p.vars,p.calls,p.out,p.ended⟩).1)∧(∀φ∈F,φ∈F')∧PSt M w0 H F' pb pA X.length pc q (Qcl (Qn (X.map LC.cl) q f) (g.t.tm,g.o) (Qam r) (QK E) ⟨p.fuel-1,p.vars,p.calls,p.out,p.ended⟩).2 w':=by
 have h0':((p.fuel:Nat):Int)≠0:=by omega
 have hB1:BdI C D ⟨p.fuel-1,p.vars,p.calls,p.out,p.ended⟩:=⟨by have:=hB.v;show p.vars+8*(p.fuel-1+12)≤C+8*p.out.length;omega,by have:=hB.c;show p.calls+(p.fuel-1)≤D;omega,hB.o,hB.e⟩
 have hc:=fun w' hP=>Qsc (M:=M) (w0:=w0) (H:=H) (F:=F) hpr g r E pb ⟨p.fuel-1,p.vars,p.calls,p.out,p.ended⟩ w' hX hr hg hE (by show p.fuel-1≤f;omega) hB1 hbt hP
 have hpc:∀{H'} w',St M w0 H' F w'→_:=fun w' hS=>(hS.und hr).cells
 have hfu:((p.fuel:Nat):Int)-1=((p.fuel-1:Nat):Int):=by omega
 obtain ⟨K,oA,oc,O,hK,hKr,hrow,hS⟩:=hP
 refine ZgJ ?_
 refine Zac ?_
 refine ZcD ?_
 refine Zo ?_
 refine Zaj ?_
 refine ZdO ?_
 refine Zan ?_
 refine Z0 ?_
 refine ZdO ?_
 refine Zbf ?_
 refine Zdj ?_
 clear hS
 intro wx1 hS
 refine Zb ?_
 refine ZbG ?_
 refine Zis ?_
 refine Zj ?_
 refine Calls.mono (Qdd _ _ _ _ _ _ _) ?_
 rintro _ w4 ⟨rfl,hb4⟩
 refine Za ?_
 replace hS:=hS.grow hb4
 refine Zb ?_
 rw [hbt]
 refine Z2 ?_
 refine Zu ?_
 refine Zf ?_
 rw [hfu] at hS
 refine ZaY ?_
 refine ZeZ ?_
 rintro _ w5 ⟨F',rfl,hF,hP'⟩
 refine ZD ?_
 refine ZcJ ?_
 exact ⟨F',rfl,hF,hP'⟩
end
end Go.Proofs.YthliapbflkfdiacGreatDoor
