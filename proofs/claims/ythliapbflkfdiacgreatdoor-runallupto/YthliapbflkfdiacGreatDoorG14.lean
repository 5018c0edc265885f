/- Steps of the proof. -/
import Derived.Test.YthliapbflkfdiacGreatDoorG13
namespace Go.Proofs.YthliapbflkfdiacGreatDoor
open Go.RowKit
set_option linter.unusedVariables false
set_option linter.unusedSimpArgs false
set_option maxRecDepth 100000
set_option maxHeartbeats 1000000
section
variable {M:List Nat} {w0:World} {H:List (Nat×Obj)} {F:List (World→Prop)} {X:List LC} {pA:Option Addr} {pc q C D f:Nat}
def QrA (pr:List Tg→Bnd→Qax→Int×Qax) (r:List Tg) (e:Bnd) (p:Qax) (x y:Tm):Int×Qax:=
 if (Qc e x).k≠2∨(Qc e y).k≠2 then (-1,Qea 5 p) else if (Qc e x).n<(Qc e y).n then pr r e p else (-1,p)
theorem Qlw (hpr:PrC X pA pc q C D f) (g:GN) (r:List GN) (E:List EN) (pb:Nat) (p:Qax) (w:World) (hX:Und F (Qes X pA pc)) (hr:Und F (TdR (g::r))) (hg:∀x∈g::r,tgd x.t.tm) (hE:EOk F E) (hf:p.fuel≤f) (hB:BdI C D p) (h4:g.t.s.toList=[108,101,115,115]) (hlen:g.t.ar.len=2) (hP:PSt M w0 H F pb pA X.length pc q p w):
  Calls Tryz.prog 104 #[.pointer (some ⟨pb,0,none⟩),Qdr (g::r),Qen E] w fun e w'=>∃F':List (World→Prop),e= .returned (.int .i64 (QrA (Qj (X.map LC.cl) q f) (Q3 r) (Qx E) p (g.t.ar.ts.at_ 0) (g.t.ar.ts.at_ 1)).1)∧(∀φ∈F,φ∈F')∧PSt M w0 H F' pb pA X.length pc q (QrA (Qj (X.map LC.cl) q f) (Q3 r) (Qx E) p (g.t.ar.ts.at_ 0) (g.t.ar.ts.at_ 1)).2 w':=by
 have hpc:∀{F':List (World→Prop)} {H':List (Nat×Obj)} (hF:∀φ∈F,φ∈F') (w':World),St M w0 H' F' w'→_:=fun hF w' hS=>(hS.und (hr.mono hF)).cells;have hF0:∀φ∈F,φ∈F:=fun _ h=>h;have e4:=(QR [108,101,115,115]).1 h4
 have e1:g.t.s≠⟨#[33]⟩:=by rw [e4];decide
 have e2:g.t.s≠⟨#[116,114,117,101]⟩:=by rw [e4];decide
 have e5:g.t.s≠⟨#[101,113]⟩:=by rw [e4];decide
 have e6:g.t.s≠⟨#[97,100,100]⟩:=by rw [e4];decide
 have e3:g.t.s≠⟨#[102,97,105,108]⟩:=by rw [e4];decide
 have hrt:Und F (LRd g.t):=hr.imp fun w h=>h.2.1;have hrr:Und F (TdR r):=hr.imp fun w h=>h.2.2;have hgr:∀x∈r,tgd x.t.tm:=fun x hx=>hg x (.tail _ hx);have hdown:=Qac _ (hg g (.head _));obtain ⟨x,y,hT⟩:=Qr1 (T:=g.t.ar) hlen;obtain ⟨⟨gk,gn,gs_,gA,gc,gar⟩,go_,gb⟩:=g;dsimp only at*;subst hT;have hra:=hrt;unfold LRd at hra;dsimp only at hra;obtain ⟨K,oA,oc,O,hK,hKr,hrow,hS⟩:=hP;obtain ⟨b6,o6,rfl⟩:=(hS.und hra).some_ Yag;have hcA:∀{H'} w',St M w0 H' F w'→_:=fun w' hS=>ArA.cells (D:= .nil) (hS.und hra);have hcB:∀{H'} w',St M w0 H' F w'→_:=fun w' hS=>ArA.cells (D:= .cons x.k x.n x.s x.A x.c x.ar .nil) (hS.und hra);have hrx:Und F (LRd x):=hra.imp fun w h=>ArA.sub (D:= .nil) h;have hry:Und F (LRd y):=hra.imp fun w h=>ArA.sub (D:= .cons x.k x.n x.s x.A x.c x.ar .nil) h;have tx:tgd x.tm:=hdown x.tm (.inl rfl);have ty_:tgd y.tm:=hdown y.tm (.inr (.inl rfl));have hlen2:(TA.cons x.k x.n x.s x.A x.c x.ar (TA.cons y.k y.n y.s y.A y.c y.ar TA.nil)).len=2:=rfl
 have hres:QrA (Qj (X.map LC.cl) q f) (Q3 r) (Qx E) p ((TA.cons x.k x.n x.s x.A x.c x.ar (TA.cons y.k y.n y.s y.A y.c y.ar TA.nil)).ts.at_ 0) ((TA.cons x.k x.n x.s x.A x.c x.ar (TA.cons y.k y.n y.s y.A y.c y.ar TA.nil)).ts.at_ 1)=if (Qc (Qx E) x.tm).k≠2∨(Qc (Qx E) y.tm).k≠2 then (-1,Qea 5 p) else if (Qc (Qx E) x.tm).n<(Qc (Qx E) y.tm).n then Qj (X.map LC.cl) q f (Q3 r) (Qx E) p else (-1,p):=rfl
 rw [hres];clear hres;have hc:=fun w' hP=>hpr M w0 H F r E pb p w' hX hrr hgr hE hf hB hP;have ho:=hB.o;refine ZdM ?_;refine ZbL ?_;refine Zcj ?_;refine Z4 ?_;refine Zck ?_;refine ZaG ?_;refine Zba ?_;refine Z2 ?_;refine Zw ?_;refine ZbL ?_;refine Zbb ?_;refine ZF ?_;refine Zp ?_;refine QcN 9 10 (65::66::67::68::69::70::71::72::73::74::[]) (fun y_ z_ w'=>∃(b5 b6:Nat) (u v:LT),y_= .pointer (some ⟨b5,0,none⟩)∧z_= .pointer (some ⟨b6,0,none⟩)∧u.tm=Qc (Qx E) x.tm∧v.tm=Qc (Qx E) y.tm∧St M w0 ((b5,.cells (tcs u).toArray 63)::(b6,.cells (tcs v).toArray 63)::(pb,.cells (Qd2 pA X.length pc q p oA K.length oc).toArray 109)::(O++H)) F w') ?_ ?_
 ·intro hmeet;refine ZgD ?_;replace hS:=hS.drew;refine ZdN ?_;refine Zde ?_;refine ZdN ?_;refine Zde ?_;refine Qs rfl ?_ ?_
  ·refine ZdQ ?_;rintro _ w5 ⟨u,rfl,hu1,hu2,hu3,hS'⟩;refine Za ?_;replace hS:=hS';clear hS';refine ZC ?_;refine Qs rfl ?_ ?_
   ·refine Zbl ?_;rintro _ w6 ⟨v,rfl,hv1,hv2,hv3,hS'⟩;refine Za ?_;replace hS:=hS';clear hS';refine ZC ?_;refine Qs rfl ?_ ?_
    ·refine ZG ?_;clear hS;intro b1 wx1 hS;refine Zaa ?_;clear hS;intro b2 wx2 hS;refine Zu ?_;clear hS;intro wx3 hS;refine Zb ?_;clear hS;intro wx4 hS;refine Zc ?_
     first|exact hmeet _ _ _ _ ⟨_,_,u,v,rfl,rfl,hu1,hv1,hS⟩ Yb Yb Yc|exact hmeet _ _ _ _ ⟨_,_,u,v,rfl,rfl,hu1,hv1,hS.perm (List.Perm.swap _ _ _)⟩ Yb Yb Yc
    refine ZJ ?_;clear hS;intro b3 wx5 hS;refine Zaa ?_;clear hS;intro b4 wx6 hS;refine Zu ?_;clear hS;intro wx7 hS;refine Zb ?_;clear hS;intro wx8 hS;refine Zc ?_
    first|exact hmeet _ _ _ _ ⟨_,_,u,v,rfl,rfl,hu1,hv1,hS⟩ Yb Yb Yc|exact hmeet _ _ _ _ ⟨_,_,u,v,rfl,rfl,hu1,hv1,hS.perm (List.Perm.swap _ _ _)⟩ Yb Yb Yc
   refine Qs rfl ?_ ?_
   ·refine ZG ?_;clear hS;intro b5 wx9 hS;refine ZC ?_;refine Qs rfl ?_ ?_
    ·refine Zbl ?_;rintro _ w6 ⟨v,rfl,hv1,hv2,hv3,hS'⟩;refine Za ?_;replace hS:=hS';clear hS';refine Zaa ?_;clear hS;intro b6 wx10 hS;refine Zu ?_;clear hS;intro wx11 hS;refine Zb ?_;clear hS;intro wx12 hS;refine Zc ?_
     first|exact hmeet _ _ _ _ ⟨_,_,u,v,rfl,rfl,hu1,hv1,hS⟩ Yb Yb Yc|exact hmeet _ _ _ _ ⟨_,_,u,v,rfl,rfl,hu1,hv1,hS.perm (List.Perm.swap _ _ _)⟩ Yb Yb Yc
    refine ZJ ?_;clear hS;intro b7 wx13 hS;refine ZaU ?_;rintro _ w6 ⟨v,rfl,hv1,hv2,hv3,hS'⟩;refine Za ?_;replace hS:=hS';clear hS';refine Zu ?_;clear hS;intro wx14 hS;refine Zb ?_;clear hS;intro wx15 hS;refine Zc ?_
    first|exact hmeet _ _ _ _ ⟨_,_,u,v,rfl,rfl,hu1,hv1,hS⟩ Yb Yb Yc|exact hmeet _ _ _ _ ⟨_,_,u,v,rfl,rfl,hu1,hv1,hS.perm (List.Perm.swap _ _ _)⟩ Yb Yb Yc
   refine ZJ ?_;clear hS;intro b8 wx16 hS;refine ZC ?_;refine Qs rfl ?_ ?_
   ·refine Zbl ?_;rintro _ w6 ⟨v,rfl,hv1,hv2,hv3,hS'⟩;refine Za ?_;replace hS:=hS';clear hS';refine Zaa ?_;clear hS;intro b9 wx17 hS;refine Zu ?_;clear hS;intro wx18 hS;refine Zb ?_;clear hS;intro wx19 hS;refine Zc ?_
    first|exact hmeet _ _ _ _ ⟨_,_,u,v,rfl,rfl,hu1,hv1,hS⟩ Yb Yb Yc|exact hmeet _ _ _ _ ⟨_,_,u,v,rfl,rfl,hu1,hv1,hS.perm (List.Perm.swap _ _ _)⟩ Yb Yb Yc
   refine ZJ ?_;clear hS;intro b10 wx20 hS;refine ZaU ?_;rintro _ w6 ⟨v,rfl,hv1,hv2,hv3,hS'⟩;refine Za ?_;replace hS:=hS';clear hS';refine Zu ?_;clear hS;intro wx21 hS;refine Zb ?_;clear hS;intro wx22 hS;refine Zc ?_
   first|exact hmeet _ _ _ _ ⟨_,_,u,v,rfl,rfl,hu1,hv1,hS⟩ Yb Yb Yc|exact hmeet _ _ _ _ ⟨_,_,u,v,rfl,rfl,hu1,hv1,hS.perm (List.Perm.swap _ _ _)⟩ Yb Yb Yc
  refine Qs rfl ?_ ?_
  ·refine ZG ?_;clear hS;intro b11 wx23 hS;refine ZC ?_;refine Qs rfl ?_ ?_
   ·refine ZdQ ?_;rintro _ w5 ⟨u,rfl,hu1,hu2,hu3,hS'⟩;refine Za ?_;replace hS:=hS';clear hS';refine ZC ?_;refine Qs rfl ?_ ?_
    ·refine Zbl ?_;rintro _ w6 ⟨v,rfl,hv1,hv2,hv3,hS'⟩;refine Za ?_;replace hS:=hS';clear hS';refine Zaa ?_;clear hS;intro b12 wx24 hS;refine Zu ?_;clear hS;intro wx25 hS;refine Zb ?_;clear hS;intro wx26 hS;refine Zc ?_
     first|exact hmeet _ _ _ _ ⟨_,_,u,v,rfl,rfl,hu1,hv1,hS⟩ Yb Yb Yc|exact hmeet _ _ _ _ ⟨_,_,u,v,rfl,rfl,hu1,hv1,hS.perm (List.Perm.swap _ _ _)⟩ Yb Yb Yc
    refine ZJ ?_;clear hS;intro b13 wx27 hS;refine ZaU ?_;rintro _ w6 ⟨v,rfl,hv1,hv2,hv3,hS'⟩;refine Za ?_;replace hS:=hS';clear hS';refine Zu ?_;clear hS;intro wx28 hS;refine Zb ?_;clear hS;intro wx29 hS;refine Zc ?_
    first|exact hmeet _ _ _ _ ⟨_,_,u,v,rfl,rfl,hu1,hv1,hS⟩ Yb Yb Yc|exact hmeet _ _ _ _ ⟨_,_,u,v,rfl,rfl,hu1,hv1,hS.perm (List.Perm.swap _ _ _)⟩ Yb Yb Yc
   refine ZJ ?_;clear hS;intro b14 wx30 hS;refine Zb0 ?_;refine Zei ?_;rintro _ w5 ⟨u,rfl,hu1,hu2,hu3,hS'⟩;refine Za ?_;replace hS:=hS';clear hS';refine ZaU ?_;rintro _ w6 ⟨v,rfl,hv1,hv2,hv3,hS'⟩;refine Za ?_;replace hS:=hS';clear hS';refine Zu ?_;clear hS;intro wx31 hS;refine Zb ?_;clear hS;intro wx32 hS;refine Zc ?_
   first|exact hmeet _ _ _ _ ⟨_,_,u,v,rfl,rfl,hu1,hv1,hS⟩ Yb Yb Yc|exact hmeet _ _ _ _ ⟨_,_,u,v,rfl,rfl,hu1,hv1,hS.perm (List.Perm.swap _ _ _)⟩ Yb Yb Yc
  refine ZJ ?_;clear hS;intro b15 wx33 hS;refine ZC ?_;refine Qs rfl ?_ ?_
  ·refine ZdQ ?_;rintro _ w5 ⟨u,rfl,hu1,hu2,hu3,hS'⟩;refine Za ?_;replace hS:=hS';clear hS';refine ZC ?_;refine Qs rfl ?_ ?_
   ·refine Zbl ?_;rintro _ w6 ⟨v,rfl,hv1,hv2,hv3,hS'⟩;refine Za ?_;replace hS:=hS';clear hS';refine Zaa ?_;clear hS;intro b16 wx34 hS;refine Zu ?_;clear hS;intro wx35 hS;refine Zb ?_;clear hS;intro wx36 hS;refine Zc ?_
    first|exact hmeet _ _ _ _ ⟨_,_,u,v,rfl,rfl,hu1,hv1,hS⟩ Yb Yb Yc|exact hmeet _ _ _ _ ⟨_,_,u,v,rfl,rfl,hu1,hv1,hS.perm (List.Perm.swap _ _ _)⟩ Yb Yb Yc
   refine ZJ ?_;clear hS;intro b17 wx37 hS;refine ZaU ?_;rintro _ w6 ⟨v,rfl,hv1,hv2,hv3,hS'⟩;refine Za ?_;replace hS:=hS';clear hS';refine Zu ?_;clear hS;intro wx38 hS;refine Zb ?_;clear hS;intro wx39 hS;refine Zc ?_
   first|exact hmeet _ _ _ _ ⟨_,_,u,v,rfl,rfl,hu1,hv1,hS⟩ Yb Yb Yc|exact hmeet _ _ _ _ ⟨_,_,u,v,rfl,rfl,hu1,hv1,hS.perm (List.Perm.swap _ _ _)⟩ Yb Yb Yc
  refine ZJ ?_;clear hS;intro b18 wx40 hS;refine Zb0 ?_;refine Zei ?_;rintro _ w5 ⟨u,rfl,hu1,hu2,hu3,hS'⟩;refine Za ?_;replace hS:=hS';clear hS';refine ZaU ?_;rintro _ w6 ⟨v,rfl,hv1,hv2,hv3,hS'⟩;refine Za ?_;replace hS:=hS';clear hS';refine Zu ?_;clear hS;intro wx41 hS;refine Zb ?_;clear hS;intro wx42 hS;refine Zc ?_
  first|exact hmeet _ _ _ _ ⟨_,_,u,v,rfl,rfl,hu1,hv1,hS⟩ Yb Yb Yc|exact hmeet _ _ _ _ ⟨_,_,u,v,rfl,rfl,hu1,hv1,hS.perm (List.Perm.swap _ _ _)⟩ Yb Yb Yc
 clear hS;rintro jv2 _ _ w7 ⟨b5,b6,u,v,rfl,rfl,hu1,hv1,hS⟩;rw [←hu1,←hv1]
 have hPS:∀w',St M w0 ((b5,.cells (tcs u).toArray 63)::(b6,.cells (tcs v).toArray 63)::(pb,.cells (Qd2 pA X.length pc q p oA K.length oc).toArray 109)::(O++H)) F w'→PSt M w0 H F pb pA X.length pc q p w':=fun w' hS=>⟨K,oA,oc,O,hK,hKr,hrow,hS.drop.drop⟩
 by_cases ku:u.k=2
 ·by_cases kv:v.k=2
  ·rw [if_neg (by show¬(u.k≠2∨v.k≠2);omega)];by_cases hlt:u.n<v.n
   ·rw [if_pos (by exact hlt)];refine Zat ?_;refine Z2 ?_;refine ZbM ?_;refine Z2 ?_;refine Zi ?_;refine Zo ?_;refine ZaJ ?_;refine ZcQ ?_;refine Za4 ?_;refine Z2 ?_;refine Zi ?_;refine Z4 ?_;refine Zi ?_;refine ZeL ?_;refine ZdR ?_;refine Za5 ?_;refine Zr ?_;refine ZZ ?_;refine ZbL ?_;refine Z4 ?_;refine ZF ?_;refine Zp ?_;refine Zad ?_;refine Z2 ?_;refine ZV ?_;refine Z2 ?_;refine Zca ?_;refine Zt ?_;refine ZaH ?_;refine Z2 ?_;refine Zdz ?_;refine Calls.mono (hc _ (hPS _ hS)) ?_;rintro _ w8 ⟨F2,rfl,hF2,hP'⟩;refine ZaT ?_;exact ⟨F2,rfl,hF2,hP'⟩
   ·rw [if_neg (by exact hlt)];refine Zat ?_;refine Z2 ?_;refine ZbM ?_;refine Z2 ?_;refine Zi ?_;refine Zo ?_;refine ZaJ ?_;refine ZcQ ?_;refine Za4 ?_;refine Z2 ?_;refine Zi ?_;refine Z4 ?_;refine Zi ?_;refine ZeL ?_;refine ZdR ?_;refine Za5 ?_;refine Zr ?_;refine ZZ ?_;refine ZbL ?_;refine Z4 ?_;refine ZF ?_;refine Zp ?_;refine Zad ?_;refine Z2 ?_;refine ZV ?_;refine Z2 ?_;refine ZH ?_;refine Zz ?_;refine Zl ?_;refine ZbU ?_;exact ⟨F,rfl,hF0,hPS _ hS⟩
  ·rw [if_pos (.inr (by exact kv))];refine Zat ?_;refine Z2 ?_;refine ZbM ?_;refine Z2 ?_;refine Zi ?_;refine Zo ?_;refine ZcJ ?_;refine ZbG ?_;refine ZbG ?_;refine ZdR ?_;refine ZdS ?_;rintro _ w8 ⟨rfl,hP'⟩;refine ZaT ?_;exact ⟨F,rfl,hF0,hP'⟩
 ·rw [if_pos (.inl (by exact ku))];refine Zat ?_;refine Z2 ?_;refine Zo ?_;refine Zb5 ?_;refine ZcJ ?_;refine ZbG ?_;refine ZbG ?_;refine ZdR ?_;refine ZdS ?_;rintro _ w8 ⟨rfl,hP'⟩;refine ZaT ?_;exact ⟨F,rfl,hF0,hP'⟩
end
end Go.Proofs.YthliapbflkfdiacGreatDoor
