/-
  The built-in predicates eq, less and add, walked.
-/
import Derived.Test.YthliapbflkfdiacGreatDoorZ0
import Derived.Test.YthliapbflkfdiacGreatDoorG11
namespace Go.Proofs.YthliapbflkfdiacGreatDoor
open Go.RowKit
set_option linter.unusedVariables false
set_option linter.unusedSimpArgs false
set_option maxRecDepth 100000
set_option maxHeartbeats 1000000
theorem Qc9 {s:SS} {a t:Tm} (hI:QdA s) (hsl:s.B.length+10100*(mu s+1)≤1000000000) (ha:tgd a) (ht:tgd t):QdA (s.setB (Qa8 401 a t s.B 0).B):=by
 have hup:=QeW 401 a t s.B 0 ha.small ht.small hI.bok hI.sm Ya;have hw:=QuR 401 a t s.B 0 ha.small ht.small hI.bok hI.sm Ya;have hgb:=Qqv QbN 401 a t s.B 0 hI.gb ha ht;obtain ⟨N,hN⟩:=hup.ext;have hlen:=hup.len
 have hle:s.B.length≤(Qa8 401 a t s.B 0).B.length:=by rw [hN];simp
 exact ⟨hup.bok,hgb,hI.ch.mono hle,hI.fr,by show (Qa8 401 a t s.B 0).B.length+10100*mu s≤_;omega⟩
section
variable {M:List Nat} {w0:World} {H:List (Nat×Obj)} {F0 F:List (World→Prop)} {b:Nat} {P:List LC} {pA:Option Addr} {pc vars:Nat} {d:SD}
theorem Qmw (s:SS) (a t:LT) (w:World) (hI:QdA s) (hsl:s.B.length+10100*(mu s+1)≤1000000000) (ha:tgd a.tm) (ht:tgd t.tm) (hra:Und F (LRd a)) (hrt:Und F (LRd t)) (hFF:∀φ∈F0,φ∈F) (hok:SOk P pA pc s d F)
  (hS:St M w0 ((b,sob d.mb d.TR (QdB P pA pc vars s.fresh s.fuel (Qcu d.gs) d.CH d.EV))::(d.mb,.map d.es d.clk)::(d.O++(d.O2++(d.O3++H)))) F w):
  Calls Tryz.prog 122 #[pt b,tv a,tv t] w fun e w'=>e= .returned (.int .i64 (QaY a.tm t.tm s).1)∧SSt M w0 H F0 b P pA pc vars (QaY a.tm t.tm s).2 w':=by
 have hinv:=Qc9 hI hsl ha ht;have hsm:=hI.sm;rw [←hok.hB] at hsm
 have hbl:d.G.length≤1000000000000:=by have h1:=hI.bl;rw [←hok.hB,QgC] at h1;omega
 have heq:QaY a.tm t.tm s=if 400<(Qa8 401 a.tm t.tm s.B 0).w then (4,s.setB (Qa8 401 a.tm t.tm s.B 0).B) else if (Qa8 401 a.tm t.tm s.B 0).ok=true then (0,s.setB (Qa8 401 a.tm t.tm s.B 0).B) else Qar (s.setB (Qa8 401 a.tm t.tm s.B 0).B):=rfl
 refine Qz Tryz.func122 rfl Tryz.ntmps122 rfl ?_;refine Zf ?_;clear hS;intro b1 wx1 hS;refine Zaw ?_;clear hS;intro b2 wx2 hS;refine Z4 ?_;refine Zab ?_;refine Zab ?_;refine Zz ?_;refine Calls.mono (Qjq a t _ hok.bm hsm ha.small ht.small hra hrt hbl (hS.perm ((List.perm_append_comm_assoc [_,_] [_,_] _).trans (.cons _ (.cons _ (List.perm_append_comm_assoc [_,_] d.O _)))))) ?_;rintro _ w8 ⟨rfl,hU⟩;refine Za ?_;obtain ⟨G3,es3,clk3,TR3,O',hb3,hB3,hS'⟩:=hU;replace hS:=(hS'.perm ((List.Perm.cons _ (.cons _ (List.perm_append_comm_assoc O' [_,_] _))).trans (List.perm_append_comm_assoc [_,_] [_,_] _))).drop.drop;clear hS';rw [hok.hB] at hb3⊢;generalize Qa8 401 a.tm t.tm s.B 0=r at*;obtain ⟨rok,rB,rw_⟩:=r;dsimp only at hb3 heq hinv
 have hok2:SOk P pA pc (s.setB rB) ⟨G3,d.mb,es3,clk3,TR3,O',d.gs,d.cs,d.CH,d.O2,d.evs,d.EV,d.O3⟩ F:=⟨hB3,hb3,hok.hg,hok.rg,hok.hc,hok.rc,hok.row2,hok.he,hok.re,hok.row3,hok.rp⟩
 have hs2:SSt M w0 H F0 b P pA pc vars (s.setB rB) w8:=⟨_,F,hFF,hok2,hS⟩
 by_cases h4:400<rw_
 ·rw [if_pos h4] at heq;rw [decide_eq_true h4,heq];refine Zal ?_;refine Zad ?_;refine Zgp ?_;exact ⟨rfl,hs2⟩
 rw [if_neg h4] at heq;rw [decide_eq_false h4]
 cases rok with
 |true=>
  rw [if_pos rfl] at heq;rw [heq];refine Zal ?_;refine Zn ?_;refine Zu ?_;refine ZX ?_;refine Zk ?_;refine Zgp ?_;exact ⟨rfl,hs2⟩
 |false=>
  rw [if_neg Yf] at heq;rw [heq];refine Zal ?_;refine Zn ?_;refine Zu ?_;refine Zc3 ?_;refine ZC ?_;refine Calls.mono (QdU (s.setB rB) _ hinv hs2) ?_;rintro _ w9 ⟨rfl,hr⟩;refine Zv ?_;refine Zgp ?_;exact ⟨rfl,hr⟩
theorem QtH (s:SS) (A:Option Addr) (c:Nat) (x y:LT) (r:TA) (w:World) (hI:QdA s) (hx:tgd x.tm) (hy:tgd y.tm) (hT:Und F (ArA A c (.cons x.k x.n x.s x.A x.c x.ar (.cons y.k y.n y.s y.A y.c y.ar r)))) (hr5:r.len≤10) (hFF:∀φ∈F0,φ∈F) (hok:SOk P pA pc s d F)
  (hS:St M w0 ((b,sob d.mb d.TR (QdB P pA pc vars s.fresh s.fuel (Qcu d.gs) d.CH d.EV))::(d.mb,.map d.es d.clk)::(d.O++(d.O2++(d.O3++H)))) F w):
  Calls Tryz.prog 123 #[pt b,.slice A (r.len+1+1) c] w fun e w'=>e= .returned (.int .i64 (QfI (.cons x.k x.n x.s x.ar.ts (.cons y.k y.n y.s y.ar.ts r.ts)) s).1)∧SSt M w0 H F0 b P pA pc vars (QfI (.cons x.k x.n x.s x.ar.ts (.cons y.k y.n y.s y.ar.ts r.ts)) s).2 w':=by
 have hle:QfI (.cons x.k x.n x.s x.ar.ts (.cons y.k y.n y.s y.ar.ts r.ts)) s=if (Qg s.B x.tm).k≠2∨(Qg s.B y.tm).k≠2 then (5,s) else if (Qg s.B y.tm).n≤(Qg s.B x.tm).n then Qar s else (0,s):=rfl
 have hrx:Und F (LRd x):=hT.imp fun w h=>ArA.sub (D:= .nil) h;have hry:Und F (LRd y):=hT.imp fun w h=>ArA.sub (D:= .cons x.k x.n x.s x.A x.c x.ar .nil) h;obtain ⟨b6,o6,rfl⟩:=(hS.und hT).some_ (by simp [TA.len]);have hcA:∀{H'} w',St M w0 H' F w'→_:=fun w' hS=>ArA.cells (D:= .nil) (hS.und hT);have hcB:∀{H'} w',St M w0 H' F w'→_:=fun w' hS=>ArA.cells (D:= .cons x.k x.n x.s x.A x.c x.ar .nil) (hS.und hT)
 have hs0:∀w',St M w0 ((b,sob d.mb d.TR (QdB P pA pc vars s.fresh s.fuel (Qcu d.gs) d.CH d.EV))::(d.mb,.map d.es d.clk)::(d.O++(d.O2++(d.O3++H)))) F w'→SSt M w0 H F0 b P pA pc vars s w':=fun w' h=>⟨d,F,hFF,hok,h⟩
 refine Qf Tryz.func123 rfl Tryz.ntmps123 rfl ?_;refine ZcE ?_;refine Qev 5 6 (7::8::9::10::11::12::13::14::15::16::17::18::19::20::[]) (fun v u w'=>∃(p q:Nat) (x' y':LT),v=pt p∧u=pt q∧x'.tm=Qg (bnd d.G) x.tm∧y'.tm=Qg (bnd d.G) y.tm∧Und F (LRd x')∧Und F (LRd y')∧St M w0 ((p,tob x')::(q,tob y')::(b,sob d.mb d.TR (QdB P pA pc vars s.fresh s.fuel (Qcu d.gs) d.CH d.EV))::(d.mb,.map d.es d.clk)::(d.O++(d.O2++(d.O3++H)))) F w') ?_ ?_
 ·intro hmeet;refine Zhl ?_;replace hS:=hS.drew;refine Zek ?_;refine ZaP ?_;refine ZfF ?_;refine ZfG ?_;refine Zek ?_;refine ZaP ?_;refine ZfF ?_;refine ZfG ?_;refine QK rfl ?_ ?_
  ·refine ZbY ?_;rintro _ w4 ⟨x',rfl,hx',hrx',hS'⟩;refine Za ?_;replace hS:=hS';clear hS';refine Z5 ?_;refine QK rfl ?_ ?_
   ·refine Zbs ?_;rintro _ w5 ⟨y',rfl,hy',hry',hS'⟩;refine Za ?_;replace hS:=hS';clear hS';refine Z5 ?_;refine QK rfl ?_ ?_
    ·refine Zw ?_;clear hS;intro b1 wx1 hS;refine Zbi ?_;clear hS;intro b2 wx2 hS;refine ZT ?_;clear hS;intro wx3 hS;refine Zc ?_;clear hS;intro wx4 hS;refine Zb ?_;exact hmeet _ _ _ _ ⟨_,_,x',y',rfl,rfl,hx',hy',hrx',hry',by first|exact hS|exact hS.swap⟩ Yb Yb Yc
    refine Zai ?_;clear hS;intro b3 wx5 hS;refine Zbi ?_;clear hS;intro b4 wx6 hS;refine ZT ?_;clear hS;intro wx7 hS;refine Zc ?_;clear hS;intro wx8 hS;refine Zb ?_;exact hmeet _ _ _ _ ⟨_,_,x',y',rfl,rfl,hx',hy',hrx',hry',by first|exact hS|exact hS.swap⟩ Yb Yb Yc
   refine QK rfl ?_ ?_
   ·refine Zw ?_;clear hS;intro b5 wx9 hS;refine Z5 ?_;refine QK rfl ?_ ?_
    ·refine Zbs ?_;rintro _ w5 ⟨y',rfl,hy',hry',hS'⟩;refine Za ?_;replace hS:=hS';clear hS';refine Zbi ?_;clear hS;intro b6 wx10 hS;refine ZT ?_;clear hS;intro wx11 hS;refine Zc ?_;clear hS;intro wx12 hS;refine Zb ?_;exact hmeet _ _ _ _ ⟨_,_,x',y',rfl,rfl,hx',hy',hrx',hry',by first|exact hS|exact hS.swap⟩ Yb Yb Yc
    refine Zai ?_;clear hS;intro b7 wx13 hS;refine Zbj ?_;rintro _ w5 ⟨y',rfl,hy',hry',hS'⟩;refine Za ?_;replace hS:=hS';clear hS';refine ZT ?_;clear hS;intro wx14 hS;refine Zc ?_;clear hS;intro wx15 hS;refine Zb ?_;exact hmeet _ _ _ _ ⟨_,_,x',y',rfl,rfl,hx',hy',hrx',hry',by first|exact hS|exact hS.swap⟩ Yb Yb Yc
   refine Zai ?_;clear hS;intro b8 wx16 hS;refine Z5 ?_;refine QK rfl ?_ ?_
   ·refine Zbs ?_;rintro _ w5 ⟨y',rfl,hy',hry',hS'⟩;refine Za ?_;replace hS:=hS';clear hS';refine Zbi ?_;clear hS;intro b9 wx17 hS;refine ZT ?_;clear hS;intro wx18 hS;refine Zc ?_;clear hS;intro wx19 hS;refine Zb ?_;exact hmeet _ _ _ _ ⟨_,_,x',y',rfl,rfl,hx',hy',hrx',hry',by first|exact hS|exact hS.swap⟩ Yb Yb Yc
   refine Zai ?_;clear hS;intro b10 wx20 hS;refine Zbj ?_;rintro _ w5 ⟨y',rfl,hy',hry',hS'⟩;refine Za ?_;replace hS:=hS';clear hS';refine ZT ?_;clear hS;intro wx21 hS;refine Zc ?_;clear hS;intro wx22 hS;refine Zb ?_;exact hmeet _ _ _ _ ⟨_,_,x',y',rfl,rfl,hx',hy',hrx',hry',by first|exact hS|exact hS.swap⟩ Yb Yb Yc
  refine QK rfl ?_ ?_
  ·refine Zw ?_;clear hS;intro b11 wx23 hS;refine Z5 ?_;refine QK rfl ?_ ?_
   ·refine ZbY ?_;rintro _ w4 ⟨x',rfl,hx',hrx',hS'⟩;refine Za ?_;replace hS:=hS';clear hS';refine Z5 ?_;refine QK rfl ?_ ?_
    ·refine Zbs ?_;rintro _ w5 ⟨y',rfl,hy',hry',hS'⟩;refine Za ?_;replace hS:=hS';clear hS';refine Zbi ?_;clear hS;intro b12 wx24 hS;refine ZT ?_;clear hS;intro wx25 hS;refine Zc ?_;clear hS;intro wx26 hS;refine Zb ?_;exact hmeet _ _ _ _ ⟨_,_,x',y',rfl,rfl,hx',hy',hrx',hry',by first|exact hS|exact hS.swap⟩ Yb Yb Yc
    refine Zai ?_;clear hS;intro b13 wx27 hS;refine Zbj ?_;rintro _ w5 ⟨y',rfl,hy',hry',hS'⟩;refine Za ?_;replace hS:=hS';clear hS';refine ZT ?_;clear hS;intro wx28 hS;refine Zc ?_;clear hS;intro wx29 hS;refine Zb ?_;exact hmeet _ _ _ _ ⟨_,_,x',y',rfl,rfl,hx',hy',hrx',hry',by first|exact hS|exact hS.swap⟩ Yb Yb Yc
   refine Zai ?_;clear hS;intro b14 wx30 hS;refine ZdU ?_;refine ZbY ?_;rintro _ w4 ⟨x',rfl,hx',hrx',hS'⟩;refine Za ?_;replace hS:=hS';clear hS';refine Zbj ?_;rintro _ w5 ⟨y',rfl,hy',hry',hS'⟩;refine Za ?_;replace hS:=hS';clear hS';refine ZT ?_;clear hS;intro wx31 hS;refine Zc ?_;clear hS;intro wx32 hS;refine Zb ?_;exact hmeet _ _ _ _ ⟨_,_,x',y',rfl,rfl,hx',hy',hrx',hry',by first|exact hS|exact hS.swap⟩ Yb Yb Yc
  refine Zai ?_;clear hS;intro b15 wx33 hS;refine Z5 ?_;refine QK rfl ?_ ?_
  ·refine ZbY ?_;rintro _ w4 ⟨x',rfl,hx',hrx',hS'⟩;refine Za ?_;replace hS:=hS';clear hS';refine Z5 ?_;refine QK rfl ?_ ?_
   ·refine Zbs ?_;rintro _ w5 ⟨y',rfl,hy',hry',hS'⟩;refine Za ?_;replace hS:=hS';clear hS';refine Zbi ?_;clear hS;intro b16 wx34 hS;refine ZT ?_;clear hS;intro wx35 hS;refine Zc ?_;clear hS;intro wx36 hS;refine Zb ?_;exact hmeet _ _ _ _ ⟨_,_,x',y',rfl,rfl,hx',hy',hrx',hry',by first|exact hS|exact hS.swap⟩ Yb Yb Yc
   refine Zai ?_;clear hS;intro b17 wx37 hS;refine Zbj ?_;rintro _ w5 ⟨y',rfl,hy',hry',hS'⟩;refine Za ?_;replace hS:=hS';clear hS';refine ZT ?_;clear hS;intro wx38 hS;refine Zc ?_;clear hS;intro wx39 hS;refine Zb ?_;exact hmeet _ _ _ _ ⟨_,_,x',y',rfl,rfl,hx',hy',hrx',hry',by first|exact hS|exact hS.swap⟩ Yb Yb Yc
  refine Zai ?_;clear hS;intro b18 wx40 hS;refine ZdU ?_;refine ZbY ?_;rintro _ w4 ⟨x',rfl,hx',hrx',hS'⟩;refine Za ?_;replace hS:=hS';clear hS';refine Zbj ?_;rintro _ w5 ⟨y',rfl,hy',hry',hS'⟩;refine Za ?_;replace hS:=hS';clear hS';refine ZT ?_;clear hS;intro wx41 hS;refine Zc ?_;clear hS;intro wx42 hS;refine Zb ?_;exact hmeet _ _ _ _ ⟨_,_,x',y',rfl,rfl,hx',hy',hrx',hry',by first|exact hS|exact hS.swap⟩ Yb Yb Yc
 clear hS;rintro jv _ _ w5 ⟨p,q,x',y',rfl,rfl,hx',hy',hrx',hry',hS⟩;rw [hok.hB] at hx' hy';rw [←hx',←hy'] at hle;by_cases h1:x'.k=2
 case neg=>
  rw [if_pos (.inl h1)] at hle;rw [hle];refine ZgP ?_;refine ZbP ?_;refine Z1 ?_;refine ZfH ?_;exact ⟨rfl,hs0 _ hS.drop.drop⟩
 by_cases h2:y'.k=2
 case neg=>
  rw [if_pos (.inr h2)] at hle;rw [hle];refine Zdp ?_;refine Zt ?_;refine Z1 ?_;refine ZfH ?_;exact ⟨rfl,hs0 _ hS.drop.drop⟩
 rw [if_neg (by rintro (h|h);exact h h1;exact h h2)] at hle;by_cases h3:y'.n≤x'.n
 ·rw [if_pos (show y'.tm.n≤x'.tm.n from h3)] at hle;rw [hle];refine Zdp ?_;refine Zch ?_;refine Zl ?_;refine Zdo ?_;refine Z6 ?_;refine ZR ?_;refine ZC ?_;refine Calls.mono (QdU s _ hI (hs0 _ hS.drop.drop)) ?_;rintro _ w9 ⟨rfl,hr⟩;refine Zv ?_;refine ZfH ?_;exact ⟨rfl,hr⟩
 ·rw [if_neg (show¬y'.tm.n≤x'.tm.n from h3)] at hle;rw [hle];refine Zdp ?_;refine Zch ?_;refine Zl ?_;refine Zdo ?_;refine Z6 ?_;refine Zn ?_;refine Zk ?_;refine ZfH ?_;exact ⟨rfl,hs0 _ hS.drop.drop⟩
theorem QqH {t:Tm} (h:tgd t) (hk:t.k=2): -1099511627776≤t.n∧t.n≤1099511627776:=by
 have h1:=h.1;simp only [Ts.good,Bool.and_eq_true] at h1;have h2:=h1.1.1;unfold Qa1 at h2;rw [hk] at h2;simp at h2;omega
theorem Qvx (s:SS) (A:Option Addr) (c:Nat) (x y z:LT) (r:TA) (w:World) (hI:QdA s) (hsl:s.B.length+10100*(mu s+1)≤1000000000) (hx:tgd x.tm) (hy:tgd y.tm) (hz:tgd z.tm) (hT:Und F (ArA A c (.cons x.k x.n x.s x.A x.c x.ar (.cons y.k y.n y.s y.A y.c y.ar (.cons z.k z.n z.s z.A z.c z.ar r))))) (hr5:r.len≤10) (hFF:∀φ∈F0,φ∈F) (hok:SOk P pA pc s d F)
  (hS:St M w0 ((b,sob d.mb d.TR (QdB P pA pc vars s.fresh s.fuel (Qcu d.gs) d.CH d.EV))::(d.mb,.map d.es d.clk)::(d.O++(d.O2++(d.O3++H)))) F w):
  Calls Tryz.prog 124 #[pt b,.slice A (r.len+1+1+1) c] w fun e w'=>e= .returned (.int .i64 (Qo4 (.cons x.k x.n x.s x.ar.ts (.cons y.k y.n y.s y.ar.ts (.cons z.k z.n z.s z.ar.ts r.ts))) s).1)∧SSt M w0 H F0 b P pA pc vars (Qo4 (.cons x.k x.n x.s x.ar.ts (.cons y.k y.n y.s y.ar.ts (.cons z.k z.n z.s z.ar.ts r.ts))) s).2 w':=by
 have hle:Qo4 (.cons x.k x.n x.s x.ar.ts (.cons y.k y.n y.s y.ar.ts (.cons z.k z.n z.s z.ar.ts r.ts))) s=if (Qg s.B x.tm).k≠2∨(Qg s.B y.tm).k≠2 then (5,s) else if (Qg s.B x.tm).n+(Qg s.B y.tm).n< -1099511627776∨1099511627776<(Qg s.B x.tm).n+(Qg s.B y.tm).n then (5,s) else QaY z.tm ⟨2,(Qg s.B x.tm).n+(Qg s.B y.tm).n,⟨#[]⟩,.nil⟩ s:=rfl
 have hrx:Und F (LRd x):=hT.imp fun w h=>ArA.sub (D:= .nil) h;have hry:Und F (LRd y):=hT.imp fun w h=>ArA.sub (D:= .cons x.k x.n x.s x.A x.c x.ar .nil) h;have hrz:Und F (LRd z):=hT.imp fun w h=>ArA.sub (D:= .cons x.k x.n x.s x.A x.c x.ar (.cons y.k y.n y.s y.A y.c y.ar .nil)) h;obtain ⟨b6,o6,rfl⟩:=(hS.und hT).some_ (by simp [TA.len]);have hcA:∀{H'} w',St M w0 H' F w'→_:=fun w' hS=>ArA.cells (D:= .nil) (hS.und hT);have hcB:∀{H'} w',St M w0 H' F w'→_:=fun w' hS=>ArA.cells (D:= .cons x.k x.n x.s x.A x.c x.ar .nil) (hS.und hT);have hcC:∀{H'} w',St M w0 H' F w'→_:=fun w' hS=>ArA.cells (D:= .cons x.k x.n x.s x.A x.c x.ar (.cons y.k y.n y.s y.A y.c y.ar .nil)) (hS.und hT)
 have hs0:∀w',St M w0 ((b,sob d.mb d.TR (QdB P pA pc vars s.fresh s.fuel (Qcu d.gs) d.CH d.EV))::(d.mb,.map d.es d.clk)::(d.O++(d.O2++(d.O3++H)))) F w'→SSt M w0 H F0 b P pA pc vars s w':=fun w' h=>⟨d,F,hFF,hok,h⟩
 refine Qf Tryz.func124 rfl Tryz.ntmps124 rfl ?_;refine ZcE ?_;refine Qev 5 6 (8::9::10::11::12::13::14::15::16::17::18::19::20::21::[]) (fun v u w'=>∃(p q:Nat) (x' y':LT),v=pt p∧u=pt q∧x'.tm=Qg (bnd d.G) x.tm∧y'.tm=Qg (bnd d.G) y.tm∧Und F (LRd x')∧Und F (LRd y')∧St M w0 ((p,tob x')::(q,tob y')::(b,sob d.mb d.TR (QdB P pA pc vars s.fresh s.fuel (Qcu d.gs) d.CH d.EV))::(d.mb,.map d.es d.clk)::(d.O++(d.O2++(d.O3++H)))) F w') ?_ ?_
 ·intro hmeet;refine Zhl ?_;replace hS:=hS.drew;refine Zek ?_;refine ZaP ?_;refine ZfF ?_;refine ZfG ?_;refine Zek ?_;refine ZaP ?_;refine ZfF ?_;refine ZfG ?_;refine QK rfl ?_ ?_
  ·refine ZbY ?_;rintro _ w4 ⟨x',rfl,hx',hrx',hS'⟩;refine Za ?_;replace hS:=hS';clear hS';refine Z5 ?_;refine QK rfl ?_ ?_
   ·refine Zbs ?_;rintro _ w5 ⟨y',rfl,hy',hry',hS'⟩;refine Za ?_;replace hS:=hS';clear hS';refine Z5 ?_;refine QK rfl ?_ ?_
    ·refine Zw ?_;clear hS;intro b1 wx1 hS;refine Zbi ?_;clear hS;intro b2 wx2 hS;refine ZT ?_;clear hS;intro wx3 hS;refine Zc ?_;clear hS;intro wx4 hS;refine Zb ?_;exact hmeet _ _ _ _ ⟨_,_,x',y',rfl,rfl,hx',hy',hrx',hry',by first|exact hS|exact hS.swap⟩ Yb Yb Yc
    refine Zai ?_;clear hS;intro b3 wx5 hS;refine Zbi ?_;clear hS;intro b4 wx6 hS;refine ZT ?_;clear hS;intro wx7 hS;refine Zc ?_;clear hS;intro wx8 hS;refine Zb ?_;exact hmeet _ _ _ _ ⟨_,_,x',y',rfl,rfl,hx',hy',hrx',hry',by first|exact hS|exact hS.swap⟩ Yb Yb Yc
   refine QK rfl ?_ ?_
   ·refine Zw ?_;clear hS;intro b5 wx9 hS;refine Z5 ?_;refine QK rfl ?_ ?_
    ·refine Zbs ?_;rintro _ w5 ⟨y',rfl,hy',hry',hS'⟩;refine Za ?_;replace hS:=hS';clear hS';refine Zbi ?_;clear hS;intro b6 wx10 hS;refine ZT ?_;clear hS;intro wx11 hS;refine Zc ?_;clear hS;intro wx12 hS;refine Zb ?_;exact hmeet _ _ _ _ ⟨_,_,x',y',rfl,rfl,hx',hy',hrx',hry',by first|exact hS|exact hS.swap⟩ Yb Yb Yc
    refine Zai ?_;clear hS;intro b7 wx13 hS;refine Zbj ?_;rintro _ w5 ⟨y',rfl,hy',hry',hS'⟩;refine Za ?_;replace hS:=hS';clear hS';refine ZT ?_;clear hS;intro wx14 hS;refine Zc ?_;clear hS;intro wx15 hS;refine Zb ?_;exact hmeet _ _ _ _ ⟨_,_,x',y',rfl,rfl,hx',hy',hrx',hry',by first|exact hS|exact hS.swap⟩ Yb Yb Yc
   refine Zai ?_;clear hS;intro b8 wx16 hS;refine Z5 ?_;refine QK rfl ?_ ?_
   ·refine Zbs ?_;rintro _ w5 ⟨y',rfl,hy',hry',hS'⟩;refine Za ?_;replace hS:=hS';clear hS';refine Zbi ?_;clear hS;intro b9 wx17 hS;refine ZT ?_;clear hS;intro wx18 hS;refine Zc ?_;clear hS;intro wx19 hS;refine Zb ?_;exact hmeet _ _ _ _ ⟨_,_,x',y',rfl,rfl,hx',hy',hrx',hry',by first|exact hS|exact hS.swap⟩ Yb Yb Yc
   refine Zai ?_;clear hS;intro b10 wx20 hS;refine Zbj ?_;rintro _ w5 ⟨y',rfl,hy',hry',hS'⟩;refine Za ?_;replace hS:=hS';clear hS';refine ZT ?_;clear hS;intro wx21 hS;refine Zc ?_;clear hS;intro wx22 hS;refine Zb ?_;exact hmeet _ _ _ _ ⟨_,_,x',y',rfl,rfl,hx',hy',hrx',hry',by first|exact hS|exact hS.swap⟩ Yb Yb Yc
  refine QK rfl ?_ ?_
  ·refine Zw ?_;clear hS;intro b11 wx23 hS;refine Z5 ?_;refine QK rfl ?_ ?_
   ·refine ZbY ?_;rintro _ w4 ⟨x',rfl,hx',hrx',hS'⟩;refine Za ?_;replace hS:=hS';clear hS';refine Z5 ?_;refine QK rfl ?_ ?_
    ·refine Zbs ?_;rintro _ w5 ⟨y',rfl,hy',hry',hS'⟩;refine Za ?_;replace hS:=hS';clear hS';refine Zbi ?_;clear hS;intro b12 wx24 hS;refine ZT ?_;clear hS;intro wx25 hS;refine Zc ?_;clear hS;intro wx26 hS;refine Zb ?_;exact hmeet _ _ _ _ ⟨_,_,x',y',rfl,rfl,hx',hy',hrx',hry',by first|exact hS|exact hS.swap⟩ Yb Yb Yc
    refine Zai ?_;clear hS;intro b13 wx27 hS;refine Zbj ?_;rintro _ w5 ⟨y',rfl,hy',hry',hS'⟩;refine Za ?_;replace hS:=hS';clear hS';refine ZT ?_;clear hS;intro wx28 hS;refine Zc ?_;clear hS;intro wx29 hS;refine Zb ?_;exact hmeet _ _ _ _ ⟨_,_,x',y',rfl,rfl,hx',hy',hrx',hry',by first|exact hS|exact hS.swap⟩ Yb Yb Yc
   refine Zai ?_;clear hS;intro b14 wx30 hS;refine ZdU ?_;refine ZbY ?_;rintro _ w4 ⟨x',rfl,hx',hrx',hS'⟩;refine Za ?_;replace hS:=hS';clear hS';refine Zbj ?_;rintro _ w5 ⟨y',rfl,hy',hry',hS'⟩;refine Za ?_;replace hS:=hS';clear hS';refine ZT ?_;clear hS;intro wx31 hS;refine Zc ?_;clear hS;intro wx32 hS;refine Zb ?_;exact hmeet _ _ _ _ ⟨_,_,x',y',rfl,rfl,hx',hy',hrx',hry',by first|exact hS|exact hS.swap⟩ Yb Yb Yc
  refine Zai ?_;clear hS;intro b15 wx33 hS;refine Z5 ?_;refine QK rfl ?_ ?_
  ·refine ZbY ?_;rintro _ w4 ⟨x',rfl,hx',hrx',hS'⟩;refine Za ?_;replace hS:=hS';clear hS';refine Z5 ?_;refine QK rfl ?_ ?_
   ·refine Zbs ?_;rintro _ w5 ⟨y',rfl,hy',hry',hS'⟩;refine Za ?_;replace hS:=hS';clear hS';refine Zbi ?_;clear hS;intro b16 wx34 hS;refine ZT ?_;clear hS;intro wx35 hS;refine Zc ?_;clear hS;intro wx36 hS;refine Zb ?_;exact hmeet _ _ _ _ ⟨_,_,x',y',rfl,rfl,hx',hy',hrx',hry',by first|exact hS|exact hS.swap⟩ Yb Yb Yc
   refine Zai ?_;clear hS;intro b17 wx37 hS;refine Zbj ?_;rintro _ w5 ⟨y',rfl,hy',hry',hS'⟩;refine Za ?_;replace hS:=hS';clear hS';refine ZT ?_;clear hS;intro wx38 hS;refine Zc ?_;clear hS;intro wx39 hS;refine Zb ?_;exact hmeet _ _ _ _ ⟨_,_,x',y',rfl,rfl,hx',hy',hrx',hry',by first|exact hS|exact hS.swap⟩ Yb Yb Yc
  refine Zai ?_;clear hS;intro b18 wx40 hS;refine ZdU ?_;refine ZbY ?_;rintro _ w4 ⟨x',rfl,hx',hrx',hS'⟩;refine Za ?_;replace hS:=hS';clear hS';refine Zbj ?_;rintro _ w5 ⟨y',rfl,hy',hry',hS'⟩;refine Za ?_;replace hS:=hS';clear hS';refine ZT ?_;clear hS;intro wx41 hS;refine Zc ?_;clear hS;intro wx42 hS;refine Zb ?_;exact hmeet _ _ _ _ ⟨_,_,x',y',rfl,rfl,hx',hy',hrx',hry',by first|exact hS|exact hS.swap⟩ Yb Yb Yc
 clear hS;rintro jv _ _ w5 ⟨p,q,x',y',rfl,rfl,hx',hy',hrx',hry',hS⟩;rw [hok.hB] at hx' hy';rw [←hx',←hy'] at hle
 have tx:tgd x'.tm:=by rw [hx'];exact QgU hI.gb hx
 have ty_:tgd y'.tm:=by rw [hy'];exact QgU hI.gb hy
 by_cases h1:x'.k=2
 case neg=>
  rw [if_pos (.inl h1)] at hle;rw [hle];refine ZgP ?_;refine ZbP ?_;refine Z1 ?_;refine ZeR ?_;exact ⟨rfl,hs0 _ hS.drop.drop⟩
 by_cases h2:y'.k=2
 case neg=>
  rw [if_pos (.inr h2)] at hle;rw [hle];refine Zdp ?_;refine Zt ?_;refine Z1 ?_;refine ZeR ?_;exact ⟨rfl,hs0 _ hS.drop.drop⟩
 rw [if_neg (by rintro (h|h);exact h h1;exact h h2)] at hle;have nx: -1099511627776≤x'.n∧x'.n≤1099511627776:=QqH tx h1;have ny: -1099511627776≤y'.n∧y'.n≤1099511627776:=QqH ty_ h2;by_cases h3:x'.n+y'.n< -1099511627776
 ·rw [if_pos (show x'.tm.n+y'.tm.n< -1099511627776∨1099511627776<x'.tm.n+y'.tm.n from .inl h3)] at hle;rw [hle];refine Zdp ?_;refine Zch ?_;refine Zdo ?_;refine ZB ?_;refine ZbN ?_;refine Za0 ?_;refine Z1 ?_;refine ZeR ?_;exact ⟨rfl,hs0 _ hS.drop.drop⟩
 by_cases h4:1099511627776<x'.n+y'.n
 ·rw [if_pos (show x'.tm.n+y'.tm.n< -1099511627776∨1099511627776<x'.tm.n+y'.tm.n from .inr h4)] at hle;rw [hle];refine Zdp ?_;refine Zch ?_;refine Zdo ?_;refine ZB ?_;refine ZbN ?_;refine Za7 ?_;refine Z1 ?_;refine ZeR ?_;exact ⟨rfl,hs0 _ hS.drop.drop⟩
 ·rw [if_neg (show¬(x'.tm.n+y'.tm.n< -1099511627776∨1099511627776<x'.tm.n+y'.tm.n) from fun h=>h.elim h3 h4)] at hle;rw [hle];have q3:=hcC _ hS;obtain ⟨q0,q1,q2,q3⟩:=q3
  have tn:tgd ⟨2,x'.n+y'.n,⟨#[]⟩,.nil⟩:=by
   refine ⟨?_,by simp [Ts.nodes]⟩;simp only [Ts.good,Bool.and_eq_true,and_true];unfold Qa1;rw [if_neg Yf,if_neg Yf,if_pos rfl];simp only [Bool.and_eq_true,decide_eq_true_eq];exact ⟨⟨⟨by omega,by omega⟩,Qal []⟩,rfl⟩
  refine Zdp ?_;refine Zch ?_;refine Zdo ?_;refine ZB ?_;refine ZbN ?_;refine Za7 ?_;refine Z2 ?_;refine ZH ?_;refine Zb4 ?_;refine ZcU ?_;refine Ze ?_;refine Zfn ?_;refine Zz ?_;refine Calls.mono (Qmw s z ⟨2,x'.n+y'.n,⟨#[]⟩,none,0,.nil⟩ _ hI hsl hz tn hrz (fun w _=>⟨Nat.le_refl _,fun h=>by simp [TA.len] at h⟩) hFF hok hS.drop.drop) ?_;rintro _ w9 ⟨rfl,hr⟩;refine Zv ?_;refine ZeR ?_;exact ⟨rfl,hr⟩
end
end Go.Proofs.YthliapbflkfdiacGreatDoor
