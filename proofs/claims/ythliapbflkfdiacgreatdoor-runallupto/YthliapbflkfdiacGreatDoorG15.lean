/- Steps of the proof. -/
import Derived.Test.YthliapbflkfdiacGreatDoorG14
namespace Go.Proofs.YthliapbflkfdiacGreatDoor
open Go.RowKit
set_option linter.unusedVariables false
set_option linter.unusedSimpArgs false
set_option maxRecDepth 100000
set_option maxHeartbeats 1000000
section
variable {M:List Nat} {w0:World} {H:List (Nat×Obj)} {F:List (World→Prop)} {X:List LC} {pA:Option Addr} {pc q C D f:Nat}
def Qt1 (pr:List Tg→Bnd→Qax→Int×Qax) (r:List Tg) (e:Bnd) (p:Qax) (x y z:Tm):Int×Qax:=
 if (Qc e x).k≠2∨(Qc e y).k≠2∨1099511627776<(Qc e x).n+(Qc e y).n∨(Qc e x).n+(Qc e y).n< -1099511627776 then (-1,Qea 5 p) else QjF pr r e p z ⟨2,(Qc e x).n+(Qc e y).n,⟨#[]⟩,.nil⟩
theorem QsM {n:Int} (h0: -1099511627776≤n) (h1:n≤1099511627776):tgd ⟨2,n,⟨#[]⟩,.nil⟩:=by
 refine ⟨?_,by simp [Ts.nodes]⟩;simp only [Ts.good,Bool.and_eq_true,and_true];unfold Qai;rw [if_neg Yg,if_neg Yg,if_pos rfl];simp only [Bool.and_eq_true,decide_eq_true_eq];exact ⟨⟨⟨by omega,by omega⟩,Q7 []⟩,rfl⟩
theorem QnS (hpr:PrC X pA pc q C D f) (g:GN) (r:List GN) (E:List EN) (pb:Nat) (p:Qax) (w:World) (hX:Und F (Qes X pA pc)) (hr:Und F (TdR (g::r))) (hg:∀x∈g::r,tgd x.t.tm) (hE:EOk F E) (hf:p.fuel≤f) (hB:BdI C D p) (h4:g.t.s.toList=[97,100,100]) (hlen:g.t.ar.len=3) (hP:PSt M w0 H F pb pA X.length pc q p w):
  Calls Tryz.prog 104 #[.pointer (some ⟨pb,0,none⟩),Qdr (g::r),Qen E] w fun e w'=>∃F':List (World→Prop),e= .returned (.int .i64 (Qt1 (Qj (X.map LC.cl) q f) (Q3 r) (Qx E) p (g.t.ar.ts.at_ 0) (g.t.ar.ts.at_ 1) (g.t.ar.ts.at_ 2)).1)∧(∀φ∈F,φ∈F')∧PSt M w0 H F' pb pA X.length pc q (Qt1 (Qj (X.map LC.cl) q f) (Q3 r) (Qx E) p (g.t.ar.ts.at_ 0) (g.t.ar.ts.at_ 1) (g.t.ar.ts.at_ 2)).2 w':=by
 have hpc:∀{F':List (World→Prop)} {H':List (Nat×Obj)} (hF:∀φ∈F,φ∈F') (w':World),St M w0 H' F' w'→_:=fun hF w' hS=>(hS.und (hr.mono hF)).cells;have hF0:∀φ∈F,φ∈F:=fun _ h=>h;have e4:=(QR [97,100,100]).1 h4
 have e1:g.t.s≠⟨#[33]⟩:=by rw [e4];decide
 have e2:g.t.s≠⟨#[116,114,117,101]⟩:=by rw [e4];decide
 have e5:g.t.s≠⟨#[101,113]⟩:=by rw [e4];decide
 have e7:g.t.s≠⟨#[108,101,115,115]⟩:=by rw [e4];decide
 have e3:g.t.s≠⟨#[102,97,105,108]⟩:=by rw [e4];decide
 have hrt:Und F (LRd g.t):=hr.imp fun w h=>h.2.1;have hrr:Und F (TdR r):=hr.imp fun w h=>h.2.2;have hgr:∀x∈r,tgd x.t.tm:=fun x hx=>hg x (.tail _ hx);have hdown:=Qac _ (hg g (.head _));obtain ⟨x,y,z,hT⟩:=Qq7 (T:=g.t.ar) hlen;obtain ⟨⟨gk,gn,gs_,gA,gc,gar⟩,go_,gb⟩:=g;dsimp only at*;subst hT;have hra:=hrt;unfold LRd at hra;dsimp only at hra;obtain ⟨K,oA,oc,O,hK,hKr,hrow,hS⟩:=hP;obtain ⟨b6,o6,rfl⟩:=(hS.und hra).some_ Yag;have hcA:∀{H'} w',St M w0 H' F w'→_:=fun w' hS=>ArA.cells (D:= .nil) (hS.und hra);have hcB:∀{H'} w',St M w0 H' F w'→_:=fun w' hS=>ArA.cells (D:= .cons x.k x.n x.s x.A x.c x.ar .nil) (hS.und hra);have hrx:Und F (LRd x):=hra.imp fun w h=>ArA.sub (D:= .nil) h;have hry:Und F (LRd y):=hra.imp fun w h=>ArA.sub (D:= .cons x.k x.n x.s x.A x.c x.ar .nil) h;have tx:tgd x.tm:=hdown x.tm (.inl rfl);have ty_:tgd y.tm:=hdown y.tm (.inr (.inl rfl));have hcC:∀{H'} w',St M w0 H' F w'→_:=fun w' hS=>ArA.cells (D:= .cons x.k x.n x.s x.A x.c x.ar (.cons y.k y.n y.s y.A y.c y.ar .nil)) (hS.und hra);have hrz:Und F (LRd z):=hra.imp fun w h=>ArA.sub (D:= .cons x.k x.n x.s x.A x.c x.ar (.cons y.k y.n y.s y.A y.c y.ar .nil)) h;have tz:tgd z.tm:=hdown z.tm (.inr (.inr (.inl rfl)));have hlen2:(TA.cons x.k x.n x.s x.A x.c x.ar (TA.cons y.k y.n y.s y.A y.c y.ar (TA.cons z.k z.n z.s z.A z.c z.ar TA.nil))).len=3:=rfl
 have hres:Qt1 (Qj (X.map LC.cl) q f) (Q3 r) (Qx E) p ((TA.cons x.k x.n x.s x.A x.c x.ar (TA.cons y.k y.n y.s y.A y.c y.ar (TA.cons z.k z.n z.s z.A z.c z.ar TA.nil))).ts.at_ 0) ((TA.cons x.k x.n x.s x.A x.c x.ar (TA.cons y.k y.n y.s y.A y.c y.ar (TA.cons z.k z.n z.s z.A z.c z.ar TA.nil))).ts.at_ 1) ((TA.cons x.k x.n x.s x.A x.c x.ar (TA.cons y.k y.n y.s y.A y.c y.ar (TA.cons z.k z.n z.s z.A z.c z.ar TA.nil))).ts.at_ 2)=if (Qc (Qx E) x.tm).k≠2∨(Qc (Qx E) y.tm).k≠2∨1099511627776<(Qc (Qx E) x.tm).n+(Qc (Qx E) y.tm).n∨(Qc (Qx E) x.tm).n+(Qc (Qx E) y.tm).n< -1099511627776 then (-1,Qea 5 p) else QjF (Qj (X.map LC.cl) q f) (Q3 r) (Qx E) p z.tm ⟨2,(Qc (Qx E) x.tm).n+(Qc (Qx E) y.tm).n,⟨#[]⟩,.nil⟩:=rfl
 rw [hres];clear hres;have ho:=hB.o;refine ZdM ?_;refine ZbL ?_;refine Zcj ?_;refine Z4 ?_;refine Zck ?_;refine ZaG ?_;refine Zba ?_;refine Z2 ?_;refine Zw ?_;refine ZbL ?_;refine Zbb ?_;refine ZF ?_;refine Zp ?_;refine QcN 9 10 (65::66::67::68::69::70::71::72::73::74::[]) (fun y_ z_ w'=>∃(b5 b6:Nat) (u v:LT),y_= .pointer (some ⟨b5,0,none⟩)∧z_= .pointer (some ⟨b6,0,none⟩)∧u.tm=Qc (Qx E) x.tm∧v.tm=Qc (Qx E) y.tm∧St M w0 ((b5,.cells (tcs u).toArray 63)::(b6,.cells (tcs v).toArray 63)::(pb,.cells (Qd2 pA X.length pc q p oA K.length oc).toArray 109)::(O++H)) F w') ?_ ?_
 ·intro hmeet;refine ZgD ?_;replace hS:=hS.drew;refine ZdN ?_;refine Zde ?_;refine ZdN ?_;refine Zde ?_;refine Qs rfl ?_ ?_
  ·refine ZdQ ?_;rintro _ w5 ⟨u,rfl,hu1,hu2,hu3,hS'⟩;refine Za ?_;replace hS:=hS';clear hS';refine ZC ?_;refine Qs rfl ?_ ?_
   ·refine Zbl ?_;rintro _ w6 ⟨v,rfl,hv1,hv2,hv3,hS'⟩;refine Za ?_;replace hS:=hS';clear hS';refine ZC ?_;refine Qs rfl ?_ ?_
    ·refine ZG ?_;clear hS;intro b1 wx1 hS;refine Zaa ?_;clear hS;intro b2 wx2 hS;refine Zu ?_;clear hS;intro wx3 hS;refine Zb ?_;clear hS;intro wx4 hS;refine Zc ?_
     first|exact hmeet _ _ _ _ ⟨_,_,u,v,rfl,rfl,hu1,hv1,hS⟩ Yb Yb Yc|exact hmeet _ _ _ _ ⟨_,_,u,v,rfl,rfl,hu1,hv1,hS.perm (List.Perm.swap _ _ _)⟩ Yb Yb Yc
    refine ZJ ?_;clear hS;intro b3 wx5 hS;refine Zaa ?_;clear hS;intro b4 wx6 hS;refine Zu ?_;clear hS;intro wx7 hS;refine Zb ?_;clear hS;intro wx8 hS;refine Zc ?_
    first|exact hmeet _ _ _ _ ⟨_,_,u,v,rfl,rfl,hu1,hv1,hS⟩ Yb Yb Yc|exact hmeet _ _ _ _ ⟨_,_,u,v,rfl,rfl,hu1,hv1,hS.perm (List.Perm.swap _ _ _)⟩ Yb Yb Yc
   refine Qs rfl ?_ ?_
   ·refine ZG ?_;clear hS;intro b5 wx9 hS;refine ZC ?_;refine Qs rfl ?_ ?_
    ·refine Zbl ?_;rintro _ w6 ⟨v,rfl,hv1,hv2,hv3,hS'⟩;refine Za ?_;replace hS:=hS';clear hS';refine Zaa ?_;clear hS;intro b6 wx10 hS;refine Zu ?_;clear hS;intro wx11 hS;refine Zb ?_;clear hS;intro wx12 hS;refine Zc ?_
     first|exact hmeet _ _ _ _ ⟨_,_,u,v,rfl,rfl,hu1,hv1,hS⟩ Yb Yb Yc|exact hmeet _ _ _ _ ⟨_,_,u,v,rfl,rfl,hu1,hv1,hS.perm (List.Perm.swap _ _ _)⟩ Yb Yb Yc
    refine ZJ ?_;clear hS;intro b7 wx13 hS;refine ZaU ?_;rintro _ w6 ⟨v,rfl,hv1,hv2,hv3,hS'⟩;refine Za ?_;replace hS:=hS';clear hS';refine Zu ?_;clear hS;intro wx14 hS;refine Zb ?_;clear hS;intro wx15 hS;refine Zc ?_
    first|exact hmeet _ _ _ _ ⟨_,_,u,v,rfl,rfl,hu1,hv1,hS⟩ Yb Yb Yc|exact hmeet _ _ _ _ ⟨_,_,u,v,rfl,rfl,hu1,hv1,hS.perm (List.Perm.swap _ _ _)⟩ Yb Yb Yc
   refine ZJ ?_;clear hS;intro b8 wx16 hS;refine ZC ?_;refine Qs rfl ?_ ?_
   ·refine Zbl ?_;rintro _ w6 ⟨v,rfl,hv1,hv2,hv3,hS'⟩;refine Za ?_;replace hS:=hS';clear hS';refine Zaa ?_;clear hS;intro b9 wx17 hS;refine Zu ?_;clear hS;intro wx18 hS;refine Zb ?_;clear hS;intro wx19 hS;refine Zc ?_
    first|exact hmeet _ _ _ _ ⟨_,_,u,v,rfl,rfl,hu1,hv1,hS⟩ Yb Yb Yc|exact hmeet _ _ _ _ ⟨_,_,u,v,rfl,rfl,hu1,hv1,hS.perm (List.Perm.swap _ _ _)⟩ Yb Yb Yc
   refine ZJ ?_;clear hS;intro b10 wx20 hS;refine ZaU ?_;rintro _ w6 ⟨v,rfl,hv1,hv2,hv3,hS'⟩;refine Za ?_;replace hS:=hS';clear hS';refine Zu ?_;clear hS;intro wx21 hS;refine Zb ?_;clear hS;intro wx22 hS;refine Zc ?_
   first|exact hmeet _ _ _ _ ⟨_,_,u,v,rfl,rfl,hu1,hv1,hS⟩ Yb Yb Yc|exact hmeet _ _ _ _ ⟨_,_,u,v,rfl,rfl,hu1,hv1,hS.perm (List.Perm.swap _ _ _)⟩ Yb Yb Yc
  refine Qs rfl ?_ ?_
  ·refine ZG ?_;clear hS;intro b11 wx23 hS;refine ZC ?_;refine Qs rfl ?_ ?_
   ·refine ZdQ ?_;rintro _ w5 ⟨u,rfl,hu1,hu2,hu3,hS'⟩;refine Za ?_;replace hS:=hS';clear hS';refine ZC ?_;refine Qs rfl ?_ ?_
    ·refine Zbl ?_;rintro _ w6 ⟨v,rfl,hv1,hv2,hv3,hS'⟩;refine Za ?_;replace hS:=hS';clear hS';refine Zaa ?_;clear hS;intro b12 wx24 hS;refine Zu ?_;clear hS;intro wx25 hS;refine Zb ?_;clear hS;intro wx26 hS;refine Zc ?_
     first|exact hmeet _ _ _ _ ⟨_,_,u,v,rfl,rfl,hu1,hv1,hS⟩ Yb Yb Yc|exact hmeet _ _ _ _ ⟨_,_,u,v,rfl,rfl,hu1,hv1,hS.perm (List.Perm.swap _ _ _)⟩ Yb Yb Yc
    refine ZJ ?_;clear hS;intro b13 wx27 hS;refine ZaU ?_;rintro _ w6 ⟨v,rfl,hv1,hv2,hv3,hS'⟩;refine Za ?_;replace hS:=hS';clear hS';refine Zu ?_;clear hS;intro wx28 hS;refine Zb ?_;clear hS;intro wx29 hS;refine Zc ?_
    first|exact hmeet _ _ _ _ ⟨_,_,u,v,rfl,rfl,hu1,hv1,hS⟩ Yb Yb Yc|exact hmeet _ _ _ _ ⟨_,_,u,v,rfl,rfl,hu1,hv1,hS.perm (List.Perm.swap _ _ _)⟩ Yb Yb Yc
   refine ZJ ?_;clear hS;intro b14 wx30 hS;refine Zb0 ?_;refine Zei ?_;rintro _ w5 ⟨u,rfl,hu1,hu2,hu3,hS'⟩;refine Za ?_;replace hS:=hS';clear hS';refine ZaU ?_;rintro _ w6 ⟨v,rfl,hv1,hv2,hv3,hS'⟩;refine Za ?_;replace hS:=hS';clear hS';refine Zu ?_;clear hS;intro wx31 hS;refine Zb ?_;clear hS;intro wx32 hS;refine Zc ?_
   first|exact hmeet _ _ _ _ ⟨_,_,u,v,rfl,rfl,hu1,hv1,hS⟩ Yb Yb Yc|exact hmeet _ _ _ _ ⟨_,_,u,v,rfl,rfl,hu1,hv1,hS.perm (List.Perm.swap _ _ _)⟩ Yb Yb Yc
  refine ZJ ?_;clear hS;intro b15 wx33 hS;refine ZC ?_;refine Qs rfl ?_ ?_
  ·refine ZdQ ?_;rintro _ w5 ⟨u,rfl,hu1,hu2,hu3,hS'⟩;refine Za ?_;replace hS:=hS';clear hS';refine ZC ?_;refine Qs rfl ?_ ?_
   ·refine Zbl ?_;rintro _ w6 ⟨v,rfl,hv1,hv2,hv3,hS'⟩;refine Za ?_;replace hS:=hS';clear hS';refine Zaa ?_;clear hS;intro b16 wx34 hS;refine Zu ?_;clear hS;intro wx35 hS;refine Zb ?_;clear hS;intro wx36 hS;refine Zc ?_
    first|exact hmeet _ _ _ _ ⟨_,_,u,v,rfl,rfl,hu1,hv1,hS⟩ Yb Yb Yc|exact hmeet _ _ _ _ ⟨_,_,u,v,rfl,rfl,hu1,hv1,hS.perm (List.Perm.swap _ _ _)⟩ Yb Yb Yc
   refine ZJ ?_;clear hS;intro b17 wx37 hS;refine ZaU ?_;rintro _ w6 ⟨v,rfl,hv1,hv2,hv3,hS'⟩;refine Za ?_;replace hS:=hS';clear hS';refine Zu ?_;clear hS;intro wx38 hS;refine Zb ?_;clear hS;intro wx39 hS;refine Zc ?_
   first|exact hmeet _ _ _ _ ⟨_,_,u,v,rfl,rfl,hu1,hv1,hS⟩ Yb Yb Yc|exact hmeet _ _ _ _ ⟨_,_,u,v,rfl,rfl,hu1,hv1,hS.perm (List.Perm.swap _ _ _)⟩ Yb Yb Yc
  refine ZJ ?_;clear hS;intro b18 wx40 hS;refine Zb0 ?_;refine Zei ?_;rintro _ w5 ⟨u,rfl,hu1,hu2,hu3,hS'⟩;refine Za ?_;replace hS:=hS';clear hS';refine ZaU ?_;rintro _ w6 ⟨v,rfl,hv1,hv2,hv3,hS'⟩;refine Za ?_;replace hS:=hS';clear hS';refine Zu ?_;clear hS;intro wx41 hS;refine Zb ?_;clear hS;intro wx42 hS;refine Zc ?_
  first|exact hmeet _ _ _ _ ⟨_,_,u,v,rfl,rfl,hu1,hv1,hS⟩ Yb Yb Yc|exact hmeet _ _ _ _ ⟨_,_,u,v,rfl,rfl,hu1,hv1,hS.perm (List.Perm.swap _ _ _)⟩ Yb Yb Yc
 clear hS;rintro jv2 _ _ w7 ⟨b5,b6,u,v,rfl,rfl,hu1,hv1,hS⟩
 have tu:tgd u.tm:=by rw [hu1];exact Qc7 hE.gd tx
 have tv':tgd v.tm:=by rw [hv1];exact Qc7 hE.gd ty_
 rw [←hu1,←hv1]
 have hPS:∀w',St M w0 ((b5,.cells (tcs u).toArray 63)::(b6,.cells (tcs v).toArray 63)::(pb,.cells (Qd2 pA X.length pc q p oA K.length oc).toArray 109)::(O++H)) F w'→PSt M w0 H F pb pA X.length pc q p w':=fun w' hS=>⟨K,oA,oc,O,hK,hKr,hrow,hS.drop.drop⟩
 by_cases ku:u.k=2
 case neg=>
  rw [if_pos (.inl (by exact ku))];refine Zat ?_;refine Zcw ?_;refine Zo ?_;refine Zb5 ?_;refine ZcJ ?_;refine ZbG ?_;refine ZbG ?_;refine ZdR ?_;refine ZdS ?_;rintro _ w8 ⟨rfl,hP'⟩;refine ZaT ?_;exact ⟨F,rfl,hF0,hP'⟩
 by_cases kv:v.k=2
 case neg=>
  rw [if_pos (.inr (.inl (by exact kv)))];refine Zat ?_;refine Zcw ?_;refine ZbM ?_;refine Zae ?_;refine Zo ?_;refine ZcJ ?_;refine ZbG ?_;refine ZbG ?_;refine ZdR ?_;refine ZdS ?_;rintro _ w8 ⟨rfl,hP'⟩;refine ZaT ?_;exact ⟨F,rfl,hF0,hP'⟩
 have nu: -1099511627776≤u.n∧u.n≤1099511627776:=Qo7 tu ku;have nv: -1099511627776≤v.n∧v.n≤1099511627776:=Qo7 tv' kv;by_cases h8:1099511627776<u.n+v.n
 ·rw [if_pos (.inr (.inr (.inl (by exact h8))))];refine Zat ?_;refine Zcw ?_;refine ZbM ?_;refine Zae ?_;refine Zo ?_;refine ZaJ ?_;refine ZcQ ?_;refine Za4 ?_;refine Zae ?_;refine Z4 ?_;refine Zi ?_;refine ZbB ?_;refine Zae ?_;refine Zah ?_;refine Zae ?_;refine ZQ ?_;refine Zi ?_;refine Z5 ?_;refine Zi ?_;refine Zgd ?_;refine Za5 ?_;refine Za5 ?_;refine ZdS ?_;rintro _ w8 ⟨rfl,hP'⟩;refine ZaT ?_;exact ⟨F,rfl,hF0,hP'⟩
 by_cases h9:u.n+v.n< -1099511627776
 ·rw [if_pos (.inr (.inr (.inr (by exact h9))))];refine Zat ?_;refine Zcw ?_;refine ZbM ?_;refine Zae ?_;refine Zo ?_;refine ZaJ ?_;refine ZcQ ?_;refine Za4 ?_;refine Zae ?_;refine Z4 ?_;refine Zi ?_;refine ZbB ?_;refine Zae ?_;refine Zah ?_;refine Zae ?_;refine ZQ ?_;refine Zi ?_;refine Z5 ?_;refine Zi ?_;refine ZbB ?_;refine Zae ?_;refine Zah ?_;refine Zae ?_;refine ZQ ?_;refine Zi ?_;refine ZH ?_;refine Za5 ?_;refine Za5 ?_;refine ZdS ?_;rintro _ w8 ⟨rfl,hP'⟩;refine ZaT ?_;exact ⟨F,rfl,hF0,hP'⟩
 rw [if_neg (show¬(u.tm.k≠2∨v.tm.k≠2∨1099511627776<u.tm.n+v.tm.n∨u.tm.n+v.tm.n< -1099511627776) from (by omega:¬(u.k≠2∨v.k≠2∨1099511627776<u.n+v.n∨u.n+v.n< -1099511627776)))];have tn:tgd ⟨2,u.n+v.n,⟨#[]⟩,.nil⟩:=QsM Ya Ya;have hone:∀{H'} w',St M w0 H' F w'→_:=fun w' hS=>QsZ E z ⟨2,u.n+v.n,⟨#[]⟩,none,0,.nil⟩ w' hE hrz (fun w _=>⟨Nat.le_refl _,fun h=>by simp [TA.len] at h⟩) tz tn hS
 have hres:QjF (Qj (X.map LC.cl) q f) (Q3 r) (Qx E) p z.tm ⟨2,u.tm.n+v.tm.n,⟨#[]⟩,.nil⟩=if 400<(Qba z.tm (LT.tm ⟨2,u.n+v.n,⟨#[]⟩,none,0,.nil⟩) (Qx E)).w then (-1,Qea 4 p) else if (Qba z.tm (LT.tm ⟨2,u.n+v.n,⟨#[]⟩,none,0,.nil⟩) (Qx E)).ok=true then Qj (X.map LC.cl) q f (Q3 r) (Qba z.tm (LT.tm ⟨2,u.n+v.n,⟨#[]⟩,none,0,.nil⟩) (Qx E)).s p else (-1,p):=rfl
 rw [hres];clear hres;generalize Qba z.tm (LT.tm ⟨2,u.n+v.n,⟨#[]⟩,none,0,.nil⟩) (Qx E)=uu at*;refine Zat ?_;refine Zcw ?_;refine ZbM ?_;refine Zae ?_;refine Zo ?_;refine ZaJ ?_;refine ZcQ ?_;refine Za4 ?_;refine Zae ?_;refine Z4 ?_;refine Zi ?_;refine ZbB ?_;refine Zae ?_;refine Zah ?_;refine Zae ?_;refine ZQ ?_;refine Zi ?_;refine Z5 ?_;refine Zi ?_;refine ZbB ?_;refine Zae ?_;refine Zah ?_;refine Zae ?_;refine ZQ ?_;refine Zi ?_;refine ZH ?_;refine Za5 ?_;refine Za5 ?_;refine Zr ?_;refine ZZ ?_;refine Zfu ?_;refine Zcw ?_;refine Z4 ?_;refine Zz ?_;refine Zdf ?_;replace hS:=hS.drew;refine ZD ?_;refine ZfH ?_
 first
  |refine Qd rfl (fun _ hS=>Qb (k:=4) hS rfl rfl rfl Ym Yf) rfl ?_
  |refine Qd rfl (fun _ hS=>Qb (k:=4) hS rfl rfl rfl Ym Ye) rfl ?_
  |refine Qd rfl (fun _ hS=>QQ rfl rfl rfl Yy Yy Yy Yy) rfl ?_
 refine Zbu ?_;refine ZgE ?_;refine Zbu ?_;refine ZgE ?_;refine Ze5 ?_;refine ZgF ?_;refine ZY ?_;refine Q5 (cells:=[_,_,_,_,_,_,_,_]) hS (.cons Yb (.cons Yb .nil)) rfl rfl ?_;clear hS;intro b19 wx43 hS;refine Zav ?_;refine Qfv 11 12 13 (138::139::140::141::142::143::144::145::137::146::147::148::[]) (fun v_ y_ z_ w'=>∃(E':List EN) (ok:Bool) (k:Int) (F':List (World→Prop)),v_=Qen E'∧y_= .bool ok∧z_= .int .i64 k∧(∀φ∈F,φ∈F')∧(400<uu.w→k<0)∧(uu.w≤400→0≤k∧ok=uu.ok∧(uu.ok=true→Qx E'=uu.s∧EOk F' E'))∧St M w0 ((b19,.cells [.int .i64 z.k,.int .i64 z.n,.string z.s,.slice z.A z.ar.len z.c,.int .i64 2,.int .i64 (u.n+v.n),.string ⟨#[]⟩,.slice none 0 0].toArray 63)::(b5,.cells (tcs u).toArray 63)::(b6,.cells (tcs v).toArray 63)::(pb,.cells (Qd2 pA X.length pc q p oA K.length oc).toArray 109)::(O++H)) F' w') ?_ ?_
 ·intro hmeet;refine ZgB ?_;replace hS:=hS.drew;refine ZdN ?_;refine ZgG ?_;refine ZaY ?_;refine ZfC ?_;refine ZgG ?_;refine ZcN ?_;refine Calls.mono (hone _ hS) ?_;rintro _ w9 ⟨E9,ok9,k9,F9,rfl,hF9,c19,c29,hS'⟩;refine Za ?_;replace hS:=hS';clear hS';refine ZgC ?_;refine ZcP ?_;refine Zcx ?_;refine Zbt ?_;refine Zbt ?_;refine Zcl ?_;exact hmeet _ _ _ _ _ ⟨E9,ok9,k9,F9,rfl,rfl,rfl,hF9,c19,c29,hS⟩ Yb Yb Yb Yc
 clear hS;rintro jw _ _ _ w9 ⟨E',ok,k,F',rfl,rfl,rfl,hF,c1,c2,hS⟩;by_cases hw:400<uu.w
 ·have hk:=c1 hw;rw [if_pos hw];refine Zq ?_;refine Zca ?_;refine Zb9 ?_;refine Calls.mono (Qc0 pb pA X.length pc q p 4 _ (by have:=hB.o;omega) ⟨K,oA,oc,O,hK,fun x hx=>(hKr x hx).mono hF,hrow,hS.drop.drop.drop⟩) ?_;rintro _ w6 ⟨rfl,hP'⟩;refine ZaT ?_;exact ⟨F',rfl,hF,hP'⟩
 obtain ⟨hk,rfl,hok⟩:=c2 Ya;rw [if_neg hw]
 cases ho:uu.ok with
 |false=>
  rw [if_neg Yg];rw [ho] at*;refine ZdO ?_;refine ZdP ?_;refine ZbU ?_;exact ⟨F',rfl,hF,K,oA,oc,O,hK,fun x hx=>(hKr x hx).mono hF,hrow,hS.drop.drop.drop⟩
 |true=>
  rw [if_pos rfl];obtain ⟨hE1,hE2⟩:=hok ho;have hc:=fun w' hP=>hpr M w0 H F' r E' pb p w' (hX.mono hF) (hrr.mono hF) hgr hE2 hf hB hP;rw [hE1] at hc;rw [ho] at*;refine ZdO ?_;refine ZP ?_;refine Zt ?_;refine ZaH ?_;refine Zdd ?_;refine Zdz ?_;refine Calls.mono (hc _ ⟨K,oA,oc,O,hK,fun x hx=>(hKr x hx).mono hF,hrow,hS.drop.drop.drop⟩) ?_;rintro _ w6 ⟨F2,rfl,hF2,hP'⟩;refine ZaT ?_;exact ⟨F2,rfl,fun φ h=>hF2 φ (hF φ h),hP'⟩
end
section
variable {M:List Nat} {w0:World} {H:List (Nat×Obj)} {F:List (World→Prop)} {X:List LC} {pA:Option Addr} {pc q C D f:Nat}
theorem QnR (hpr:PrC X pA pc q C D f) (g:GN) (r:List GN) (E:List EN) (pb:Nat) (p:Qax) (w:World) (hX:Und F (Qes X pA pc)) (hr:Und F (TdR (g::r))) (hg:∀x∈g::r,tgd x.t.tm) (hE:EOk F E) (hf:p.fuel≤f) (hB:BdI C D p) (hbt:QM g.t.s.toList g.t.ar.len=true) (hP:PSt M w0 H F pb pA X.length pc q p w):
  Calls Tryz.prog 104 #[.pointer (some ⟨pb,0,none⟩),Qdr (g::r),Qen E] w fun e w'=>∃F':List (World→Prop),e= .returned (.int .i64 (Qbu (Qj (X.map LC.cl) q f) (g.t.tm,g.o) (Q3 r) (Qx E) p).1)∧(∀φ∈F,φ∈F')∧PSt M w0 H F' pb pA X.length pc q (Qbu (Qj (X.map LC.cl) q f) (g.t.tm,g.o) (Q3 r) (Qx E) p).2 w':=by
 have hs:g.t.tm.s=g.t.s:=rfl;have hts:g.t.tm.ar=g.t.ar.ts:=rfl;unfold QM at hbt;unfold Qbu;dsimp only;rw [hs,hts];by_cases h1:g.t.s.toList=[33]
 ·rw [if_pos h1];refine Calls.mono (QnQ hpr g r E pb p w hX hr hg hE hf hB h1 hP) ?_;rintro e w' ⟨F',rfl,hF,hP'⟩;refine ⟨F',?_,hF,?_⟩
  ·split<;>rfl
  ·split
   ·exact hP'
   ·exact hP'
 rw [if_neg h1] at hbt⊢;by_cases h2:g.t.s.toList=[116,114,117,101]
 ·rw [if_pos h2];exact Qlv hpr g r E pb p w hX hr hg hE hf hB h2 hP
 rw [if_neg h2] at hbt⊢;by_cases h3:g.t.s.toList=[102,97,105,108]
 ·rw [if_pos h3];refine Calls.mono (Qly g r E pb p w hr h3 hP) ?_;rintro e w' ⟨rfl,hP'⟩;exact ⟨F,rfl,fun _ h=>h,hP'⟩
 rw [if_neg h3] at hbt⊢;by_cases h4:g.t.s.toList=[101,113]
 ·rw [if_pos h4] at hbt⊢;exact Qpd hpr g r E pb p w hX hr hg hE hf hB h4 (by simpa using hbt) hP
 rw [if_neg h4] at hbt⊢;by_cases h5:g.t.s.toList=[108,101,115,115]
 ·rw [if_pos h5] at hbt
  have h6:¬g.t.s.toList=[97,100,100]:=by rw [h5];decide
  have hres:=Qlw hpr g r E pb p w hX hr hg hE hf hB h5 (by simpa using hbt) hP;unfold QrA at hres;simp only [h6,false_and,or_false,if_pos h5];exact hres
 rw [if_neg h5] at hbt;by_cases h6:g.t.s.toList=[97,100,100]
 ·rw [if_pos h6] at hbt;have hres:=QnS hpr g r E pb p w hX hr hg hE hf hB h6 (by simpa using hbt) hP;unfold Qt1 at hres;simp only [if_neg h5];simp only [h6,true_and];exact hres
 ·rw [if_neg h6] at hbt;cases hbt
end
section
variable {M:List Nat} {w0:World} {H:List (Nat×Obj)} {F:List (World→Prop)} {X:List LC} {pA:Option Addr} {pc q C D f:Nat}
theorem Qkh (E:List EN) (pb:Nat) (p:Qax) (w:World) (hq:q≤8) (hE:EOk F E) (hB:BdI C D p) (hP:PSt M w0 H F pb pA X.length pc q p w):
  Calls Tryz.prog 62 #[.pointer (some ⟨pb,0,none⟩),Qdr [],Qen E] w fun e w'=>∃F':List (World→Prop),e= .returned (.int .i64 (Qec q (Qx E) p).1)∧(∀φ∈F,φ∈F')∧PSt M w0 H F' pb pA X.length pc q (Qec q (Qx E) p).2 w':=by
 have ho:=hB.o;have hc:=fun w' hP=>Qq9 (M:=M) (w0:=w0) (H:=H) (F:=F) E pb pA X.length pc q p w' hq Ya hE hP;obtain ⟨K,oA,oc,O,hK,hKr,hrow,hS⟩:=hP;refine Zeo ?_;refine Zx ?_;refine Zep ?_;refine ZF ?_;refine Zbm ?_;refine Zdc ?_;rintro _ w5 ⟨F',rfl,hF,hP'⟩;refine ZM ?_;refine Zbw ?_;exact ⟨F',rfl,hF,hP'⟩
theorem Qkg (g:GN) (r:List GN) (E:List EN) (pb:Nat) (p:Qax) (w:World) (hB:BdI C D p) (h0:p.fuel=0) (hP:PSt M w0 H F pb pA X.length pc q p w):
  Calls Tryz.prog 62 #[.pointer (some ⟨pb,0,none⟩),Qdr (g::r),Qen E] w fun e w'=>e= .returned (.int .i64 (-1))∧PSt M w0 H F pb pA X.length pc q (Qea 3 p) w':=by
 have ho:=hB.o;have h0':((p.fuel:Nat):Int)=0:=by omega
 have hc:=fun w' hP=>Qc0 (M:=M) (w0:=w0) (H:=H) (F:=F) pb pA X.length pc q p 3 w' Ya hP;obtain ⟨K,oA,oc,O,hK,hKr,hrow,hS⟩:=hP;refine Zeo ?_;refine Zx ?_;refine Zep ?_;refine ZZ ?_;refine Zaq ?_;refine Zm ?_;refine Zk ?_;refine ZF ?_;refine Zb9 ?_;refine Zdc ?_;rintro _ w5 ⟨rfl,hP'⟩;refine ZM ?_;refine Zbw ?_;exact ⟨rfl,hP'⟩
theorem QlL (hpr:PrC X pA pc q C D f) (g:GN) (r:List GN) (E:List EN) (pb:Nat) (p:Qax) (w:World) (hX:Und F (Qes X pA pc)) (hr:Und F (TdR (g::r))) (hg:∀x∈g::r,tgd x.t.tm) (hE:EOk F E) (h0:p.fuel≠0) (h1:p.fuel≤1000) (hf:p.fuel≤f+1) (hB:BdI C D p) (hbt:QM g.t.s.toList g.t.ar.len=true) (hP:PSt M w0 H F pb pA X.length pc q p w):
  Calls Tryz.prog 62 #[.pointer (some ⟨pb,0,none⟩),Qdr (g::r),Qen E] w fun e w'=>∃F':List (World→Prop),e= .returned (.int .i64 (Qbu (Qj (X.map LC.cl) q f) (g.t.tm,g.o) (Q3 r) (Qx E) ⟨p.fuel-1,p.vars,p.calls,p.out,p.ended⟩).1)∧(∀φ∈F,φ∈F')∧PSt M w0 H F' pb pA X.length pc q (Qbu (Qj (X.map LC.cl) q f) (g.t.tm,g.o) (Q3 r) (Qx E) ⟨p.fuel-1,p.vars,p.calls,p.out,p.ended⟩).2 w':=by
 have h0':((p.fuel:Nat):Int)≠0:=by omega
 have hB1:BdI C D ⟨p.fuel-1,p.vars,p.calls,p.out,p.ended⟩:=⟨by have:=hB.v;show p.vars+8*(p.fuel-1+12)≤C+8*p.out.length;omega,by have:=hB.c;show p.calls+(p.fuel-1)≤D;omega,hB.o,hB.e⟩
 have hc:=fun w' hP=>QnR (M:=M) (w0:=w0) (H:=H) (F:=F) hpr g r E pb ⟨p.fuel-1,p.vars,p.calls,p.out,p.ended⟩ w' hX hr hg hE (by show p.fuel-1≤f;omega) hB1 hbt hP;have hpc:∀{H'} w',St M w0 H' F w'→_:=fun w' hS=>(hS.und hr).cells;have hfu:((p.fuel:Nat):Int)-1=((p.fuel-1:Nat):Int):=by omega
 obtain ⟨K,oA,oc,O,hK,hKr,hrow,hS⟩:=hP;refine Zeo ?_;refine Zx ?_;refine Zep ?_;refine ZZ ?_;refine Zaq ?_;refine ZaD ?_;refine Zak ?_;refine Za6 ?_;refine ZaD ?_;refine Zbr ?_;refine Zaq ?_;refine Zy ?_;clear hS;intro wx1 hS;refine Zao ?_;refine ZaF ?_;refine ZfI ?_;refine Zs ?_;refine Calls.mono (QbY _ _ _ _ _ _ _) ?_;rintro _ w4 ⟨rfl,hb4⟩;refine Za ?_;replace hS:=hS.grow hb4;refine Zc ?_;rw [hbt];refine Za9 ?_;refine Zt ?_;refine Ze ?_;rw [hfu] at hS;refine Zab ?_;refine Zdc ?_;rintro _ w5 ⟨F',rfl,hF,hP'⟩;refine ZM ?_;refine Zbw ?_;exact ⟨F',rfl,hF,hP'⟩
end
end Go.Proofs.YthliapbflkfdiacGreatDoor
