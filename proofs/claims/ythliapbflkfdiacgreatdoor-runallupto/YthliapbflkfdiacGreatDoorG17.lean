/- Steps of the proof. -/
import Derived.Test.YthliapbflkfdiacGreatDoorG16
namespace Go.Proofs.YthliapbflkfdiacGreatDoor
open Go.RowKit
set_option linter.unusedVariables false
set_option linter.unusedSimpArgs false
set_option maxRecDepth 100000
set_option maxHeartbeats 1000000
theorem QiQ {pr:List Tg→Bnd→Qax→Int×Qax} (hpr:∀g e p,(pr g e p).2.fuel≤p.fuel) {g:Tg} {r:List Tg} {e:Bnd} {call:Nat}:∀(cls:List Cl) (p:Qax),(QeB pr g r e call cls p).2.fuel≤p.fuel
 |[],p=>Nat.le_refl _
 |c::cs,p=>by
  have h1:=hpr (Qau c.bd p.vars call r) (Qba (c.head.shift p.vars) g.1 e).s ⟨p.fuel,p.vars+c.vars.toNat,p.calls,p.out,p.ended⟩;rw [QeB];split
  ·exact Nat.le_refl _
  split
  ·split
   ·exact h1
   ·split
    ·exact h1
    split
    ·exact h1
    ·exact Nat.le_trans (QiQ hpr cs _) h1
  ·exact QiQ hpr cs _
theorem QmU {pr:List Tg→Bnd→Qax→Int×Qax} (hpr:∀g e p,(pr g e p).2.fuel≤p.fuel) {r:List Tg} {e:Bnd} {p:Qax} {x y:Tm}:(QjF pr r e p x y).2.fuel≤p.fuel:=by
 unfold QjF;split
 ·exact Nat.le_refl _
 split
 ·exact hpr _ _ _
 ·exact Nat.le_refl _
theorem Qlx {pr:List Tg→Bnd→Qax→Int×Qax} (hpr:∀g e p,(pr g e p).2.fuel≤p.fuel) {g:Tg} {r:List Tg} {e:Bnd} {p:Qax}:(Qbu pr g r e p).2.fuel≤p.fuel:=by
 unfold Qbu;split
 ·split
  ·exact hpr _ _ _
  ·exact hpr _ _ _
 split
 ·exact hpr _ _ _
 split
 ·exact Nat.le_refl _
 split
 ·exact QmU hpr
 split
 ·exact Nat.le_refl _
 split
 ·split
  ·exact hpr _ _ _
  ·exact Nat.le_refl _
 ·exact QmU hpr
theorem Qj2 {q:Nat} {e:Bnd} {p:Qax}:(Qec q e p).2.fuel≤p.fuel:=by
 unfold Qec
 cases Qfb Qd3 e q 0 200 with
 |none=>exact Nat.le_refl _
 |some x=>
  dsimp only;split<;>exact Nat.le_refl _
theorem Qii {P:List Cl} {q:Nat}:∀(f:Nat) (g:List Tg) (e:Bnd) (p:Qax),(Qj P q f g e p).2.fuel≤p.fuel
 |0,[],e,p=>Qj2
 |f+1,[],e,p=>Qj2
 |0,_::_,e,p=>Nat.le_refl _
 |f+1,g::r,e,p=>by
  have ih:=Qii (P:=P) (q:=q) f;rw [Qj];split
  ·exact Nat.le_refl _
  split
  ·exact Nat.le_trans (Qlx fun g e p=>ih g e p) (Nat.sub_le _ _)
  ·cases P.filter (QbX g.1) with
   |nil=>exact Nat.sub_le _ _
   |cons c cs=>exact Nat.le_trans (QiQ (fun g e p=>ih g e p) _ _) (Nat.sub_le _ _)
section
variable {M:List Nat} {w0:World} {H:List (Nat×Obj)} {F:List (World→Prop)} {X:List LC} {pA:Option Addr} {pc q C D f:Nat}
theorem Qn9 (hpr:PrC X pA pc q C D f) (g:GN) (r:List GN) (E:List EN) (pb:Nat) (p:Qax) (w:World) (hX:Und F (Qes X pA pc)) (hXl:X.length≤24) (hXc:∀x∈X,cB x.cl=true) (hC:C≤30000) (hD:D≤30000) (hr:Und F (TdR (g::r))) (hg:∀x∈g::r,tgd x.t.tm) (hE:EOk F E) (h0:p.fuel≠0) (h1:p.fuel≤1000) (hf:p.fuel≤f+1) (hB:BdI C D p) (hbt:QM g.t.s.toList g.t.ar.len=false) (hn:0<(X.filter (QfY g.t)).length) (hP:PSt M w0 H F pb pA X.length pc q p w):
  Calls Tryz.prog 62 #[.pointer (some ⟨pb,0,none⟩),Qdr (g::r),Qen E] w fun e w'=>∃F':List (World→Prop),e= .returned (.int .i64 (QeB (Qj (X.map LC.cl) q f) (g.t.tm,g.o) (Q3 r) (Qx E) (p.calls+1) ((X.filter (QfY g.t)).map LC.cl) ⟨p.fuel-1,p.vars,p.calls+1,p.out,p.ended⟩).1)∧(∀φ∈F,φ∈F')∧PSt M w0 H F' pb pA X.length pc q (QeB (Qj (X.map LC.cl) q f) (g.t.tm,g.o) (Q3 r) (Qx E) (p.calls+1) ((X.filter (QfY g.t)).map LC.cl) ⟨p.fuel-1,p.vars,p.calls+1,p.out,p.ended⟩).2 w':=by
 have h0':((p.fuel:Nat):Int)≠0:=by omega
 have ho:=hB.o;have hBc:=hB.c;have hBv:=hB.v;have hpc:∀{H'} w',St M w0 H' F w'→_:=fun w' hS=>(hS.und hr).cells;have hfu:((p.fuel:Nat):Int)-1=((p.fuel-1:Nat):Int):=by omega
 have hrg:Und F (LRd g.t):=hr.imp fun w h=>h.2.1;have hrr:Und F (TdR r):=hr.imp fun w h=>h.2.2;have hgg:tgd g.t.tm:=hg g (.head _);obtain ⟨K,oA,oc,O,hK,hKr,hrow,hS⟩:=hP;refine Zeo ?_;refine Zx ?_;refine Zep ?_;refine ZZ ?_;refine Zaq ?_;refine ZaD ?_;refine Zak ?_;refine Za6 ?_;refine ZaD ?_;refine Zbr ?_;refine Zaq ?_;refine Zy ?_;clear hS;intro wx1 hS;refine Zao ?_;refine ZaF ?_;refine ZfI ?_;refine Zs ?_;refine Calls.mono (QbY _ _ _ _ _ _ _) ?_;rintro _ w4 ⟨rfl,hb4⟩;refine Za ?_;replace hS:=hS.grow hb4;refine Zc ?_;rw [hbt];refine ZdT ?_;refine Zx ?_;refine ZaF ?_;refine ZaD ?_;refine ZN ?_;rw [hfu] at hS;refine Qy 53 7 (54::55::56::9::57::58::59::60::61::62::63::64::65::66::67::68::69::70::71::72::73::74::75::76::77::78::79::80::81::82::83::[]) (fun (R:List LC) v u w'=>∃(Dd:List LC) (O2:List (Nat×Obj)),X=Dd++R∧v= .int .i64 (Dd.length:Nat)∧Row 65 6 u (Dd.filter (QfY g.t)).length (Qp7 (Dd.filter (QfY g.t))) O2∧St M w0 ((pb,.cells (Qd2 pA X.length pc q ⟨p.fuel-1,p.vars,p.calls,p.out,p.ended⟩ oA K.length oc).toArray 109)::(O2++(O++H))) F w') (fun R=>R.length) (X) ?_ Yb Yb ?_
 ·exact ⟨[],[],rfl,rfl,Row.nil_,hS⟩
 clear hS;rintro R _ V w5 jv ⟨Dd,O2,hDR,rfl,hrow2,hS⟩ ih
 have hlen:X.length=Dd.length+R.length:=by rw [hDR];simp
 obtain ⟨Av,cv,rfl⟩:=hrow2.form
 cases R with
 |cons x R=>
  simp only [List.length_cons] at hlen;have hX':=hX;rw [hDR] at hX';obtain ⟨b6,o6,rfl⟩:=(hS.und hX').some_ Yh;obtain ⟨q0,q1,q2,q3,q4,q5⟩:=(hS.und hX').cells;have hflen:=List.length_filter_le (QfY g.t) Dd;by_cases hs:x.hd.s=g.t.s
  ·by_cases hal:x.hd.ar.len=g.t.ar.len
   ·have hfit:(Dd++[x]).filter (QfY g.t)=Dd.filter (QfY g.t)++[x]:=by rw [List.filter_append];simp [QfY,hs,hal]
    refine ZcR ?_;refine Zdg ?_;refine Zcy ?_;clear hS;intro b1 wx2 hS;refine Zb ?_;clear hS;intro wx3 hS;refine Z8 ?_;refine Zeq ?_;replace hS:=hS.drew;refine Z1 ?_;refine Zbn ?_;refine Zan ?_;refine Zbn ?_;refine Zer ?_;refine ZD ?_;refine ZdU ?_;refine ZcS ?_;refine ZdU ?_;refine Zes ?_;refine ZbN ?_;refine Zaw ?_;refine Zdg ?_;refine Q5 (cells:=[_,_,_,_,_,_]) hS (.cons Yb .nil) rfl rfl ?_;clear hS;intro b2 wx4 hS;refine Qb9 (sz:=6) (bts:=88) hS Yb rfl rfl rfl rfl (hrow2) rfl rfl (.cons _ (List.perm_append_comm_assoc [_,_] _ _)) Ya Ya rfl ?_;clear hS;intro v' O' w6 hrow' hS;replace hS:=hS.perm (List.perm_append_comm_assoc O' [_,_] _);refine Zap ?_;refine ih (R) _ _ _ _ ?_ ?_ Yb Yb Yc
    ·simp
    ·exact ⟨Dd++[x],O',by rw [hDR];simp,by simp,by rw [hfit,QrC,List.length_append];exact hrow',hS.drop⟩
   ·have hal':((x.hd.ar.len:Nat):Int)≠((g.t.ar.len:Nat):Int):=by omega
    have hfit:(Dd++[x]).filter (QfY g.t)=Dd.filter (QfY g.t):=by rw [List.filter_append];simp [QfY,hal]
    refine ZcR ?_;refine Zdg ?_;refine Zcy ?_;clear hS;intro b1 wx2 hS;refine Zb ?_;clear hS;intro wx3 hS;refine Z8 ?_;refine Zeq ?_;replace hS:=hS.drew;refine Z1 ?_;refine Zbn ?_;refine Zan ?_;refine Zbn ?_;refine Zer ?_;refine ZD ?_;refine ZdU ?_;refine ZcS ?_;refine ZdU ?_;refine Zes ?_;refine ZbN ?_;refine ZaK ?_;refine ih (R) _ _ _ _ ?_ ?_ Yb Yb Yc
    ·simp
    ·exact ⟨Dd++[x],O2,by rw [hDR];simp,by simp,by rw [hfit];exact hrow2,hS.drop⟩
  ·have hfit:(Dd++[x]).filter (QfY g.t)=Dd.filter (QfY g.t):=by rw [List.filter_append];simp [QfY,hs]
   refine ZcR ?_;refine Zdg ?_;refine Zcy ?_;clear hS;intro b1 wx2 hS;refine Zb ?_;clear hS;intro wx3 hS;refine Z8 ?_;refine Zeq ?_;replace hS:=hS.drew;refine Z1 ?_;refine Zbn ?_;refine Zan ?_;refine Zbn ?_;refine Zer ?_;refine ZD ?_;refine ZdV ?_;refine ZdV ?_;refine ZeJ ?_;refine ZeU ?_;refine ZbN ?_;refine ZaK ?_;refine ih (R) _ _ _ _ ?_ ?_ Yb Yb Yc
   ·simp
   ·exact ⟨Dd++[x],O2,by rw [hDR];simp,by simp,by rw [hfit];exact hrow2,hS.drop⟩
 | nil =>
  have e:X=Dd:=by rw [hDR];simp
  rw [←e] at hrow2;clear ih;simp only [List.length_nil] at hlen;have hcap2:=hrow2.cap;have hml:=List.length_filter_le (QfY g.t) X;have hmem:∀x∈X.filter (QfY g.t),x∈X:=fun x hx=>(List.mem_filter.1 hx).1;rw [←e];generalize X.filter (QfY g.t)=mine at*;obtain ⟨F1,hF1,hmr,hS⟩:=St.freezeC (H:=(pb,.cells (Qd2 pA X.length pc q ⟨p.fuel-1,p.vars,p.calls,p.out,p.ended⟩ oA K.length oc).toArray 109)::(O++H)) hrow2 (fun x hx=>hX.imp fun w h=>h.2.2 x (hmem x hx)) (hS.perm (List.perm_append_comm_assoc [_] _ _));have hpc1:∀{F':List (World→Prop)} {H':List (Nat×Obj)} (hF:∀φ∈F,φ∈F') (w':World),St M w0 H' F' w'→_:=fun hF w' hS=>(hS.und (hr.mono hF)).cells;have hca:((p.calls:Nat):Int)+1=((p.calls+1:Nat):Int):=by omega
  simp only [Qd2] at hS;refine ZL ?_;refine Zq ?_;refine ZO ?_;refine Zak ?_;refine Zag ?_;refine Qa (Qf (off:=6) rfl rfl) rfl ?_;refine ZaD ?_;refine ZQ ?_;refine ZB ?_;refine Qa (Qf (off:=6) rfl rfl) rfl ?_;refine Zy ?_;clear hS;intro wx2 hS;refine Zch ?_;refine Qa (Qf (off:=6) rfl rfl) rfl ?_;refine ZaD ?_;refine ZbO ?_;rw [hca] at hS⊢
  have hp1:PSt M w0 H F1 pb pA X.length pc q ⟨p.fuel-1,p.vars,p.calls+1,p.out,p.ended⟩ wx2:=⟨K,oA,oc,O,hK,fun x hx=>(hKr x hx).mono hF1,hrow,hS⟩
  clear hS hrow2 hrow hK hKr hDR hlen e
  have hbd1:BdO C D ⟨p.fuel-1,p.vars,p.calls+1,p.out,p.ended⟩:=⟨by show p.vars≤_;omega,by show p.calls+1+(p.fuel-1)≤D;omega,by show p.out.length≤13;omega,fun _=>⟨by show p.vars+8*(p.fuel-1+13)≤C+8*p.out.length;omega,by show p.out.length<12;omega⟩⟩
  have hP24:∀c∈X.map LC.cl,c.vars.toNat≤8:=fun c hc=>by
   obtain ⟨x,hx,rfl⟩:=List.mem_map.1 hc;have:=(Qc1 (hXc x hx)).2.1;omega
  have hef:(⟨p.fuel-1,p.vars,p.calls+1,p.out,p.ended⟩:Qax).ended=false:=hB.e
  have hff:(⟨p.fuel-1,p.vars,p.calls+1,p.out,p.ended⟩:Qax).fuel≤f:=by show p.fuel-1≤f;omega
  generalize (⟨p.fuel-1,p.vars,p.calls+1,p.out,p.ended⟩:Qax)=p1 at*;generalize hcl:p.calls+1=call at*;refine Qr 102 (103::104::105::12::106::107::108::109::13::111::112::113::114::115::116::117::118::119::120::110::121::122::123::14::15::16::124::125::126::127::6::128::129::130::131::132::133::134::135::136::137::138::139::140::141::142::17::143::144::145::146::18::147::148::151::152::153::154::155::156::157::158::159::160::161::149::150::162::163::164::165::19::166::167::168::169::170::171::172::173::174::175::176::[]) (fun (R:List LC) v w'=>∃(Dd:List LC) (p':Qax) (F':List (World→Prop)),mine=Dd++R∧v= .int .i64 (Dd.length:Nat)∧p'.ended=false∧p'.fuel≤f∧BdO C D p'∧QeB (Qj (X.map LC.cl) q f) (g.t.tm,g.o) (Q3 r) (Qx E) call (mine.map LC.cl) p1=QeB (Qj (X.map LC.cl) q f) (g.t.tm,g.o) (Q3 r) (Qx E) call (R.map LC.cl) p'∧(∀φ∈F1,φ∈F')∧PSt M w0 H F' pb pA X.length pc q p' w') (fun R=>R.length) (mine) ?_ Yb ?_
  ·exact ⟨[],p1,F1,rfl,rfl,hef,hff,hbd1,rfl,fun _ h=>h,hp1⟩
  clear hp1;rintro R _ w6 jw ⟨Dd,p',F',hDR,rfl,hen,hfl,hbd,htry,hF',K',oA',oc',O',hK',hKr',hrow',hS⟩ ih;rw [htry]
  have hlen:mine.length=Dd.length+R.length:=by rw [hDR];simp
  have hFF:∀φ∈F,φ∈F':=fun φ h=>hF' φ (hF1 φ h);simp only [Qd2] at hS
  cases R with
  |nil=>
   simp only [List.length_nil] at hlen;refine ZcT ?_;refine Zbw ?_;exact ⟨F',rfl,hFF,K',oA',oc',O',hK',hKr',hrow',hS⟩
  |cons x R=>
   simp only [List.length_cons] at hlen;have hmr':=hmr.mono hF';rw [hDR] at hmr';have hxX:x∈X:=hmem x Y9;have hxB:=hXc x hxX;obtain ⟨v0,v1,v2,v3,v4⟩:=Qc1 hxB;have hv0:0≤x.vars:=v0;have hv1:x.vars≤8:=v1
   have hcn24:x.hd.ar.ts.nodes+1≤24:=by simp only [gB,Bool.and_eq_true,decide_eq_true_eq] at v4;exact v4.2
   have hbd24:x.bd.ts.nodes≤120:=by have h1:=goals_nodes _ v3;have h2:x.bd.ts.length≤5:=v2;have h3:x.bd.ts.nodes≤24*x.bd.ts.length:=h1;omega
   have hbv:=hbd.v;have hbo:=hbd.o;have hbn:=hbd.n hen;have tcl:tgd (x.cl.head.shift p'.vars):=Qns hxB Ya;have hxh:Und F' (LRd x.hd):=hmr'.imp fun w h=>(h.2.2 x Yd).1;have hxb:Und F' (ArA x.bA x.bc x.bd):=hmr'.imp fun w h=>(h.2.2 x Yd).2;obtain ⟨b6,o6,rfl⟩:=(hS.und hmr').some_ Yh;obtain ⟨q0,q1,q2,q3,q4,q5⟩:=(hS.und hmr').cells
   have htm:QeB (Qj (X.map LC.cl) q f) (g.t.tm,g.o) (Q3 r) (Qx E) call ((x::R).map LC.cl) p'=if 400<(Qba (x.cl.head.shift p'.vars) g.t.tm (Qx E)).w then (-1,Qea 4 p')
    else if (Qba (x.cl.head.shift p'.vars) g.t.tm (Qx E)).ok=true then
     if (Qj (X.map LC.cl) q f (Qau x.bd.ts p'.vars call (Q3 r)) (Qba (x.cl.head.shift p'.vars) g.t.tm (Qx E)).s ⟨p'.fuel,p'.vars+x.vars.toNat,p'.calls,p'.out,p'.ended⟩).2.ended=true then (-1,(Qj (X.map LC.cl) q f (Qau x.bd.ts p'.vars call (Q3 r)) (Qba (x.cl.head.shift p'.vars) g.t.tm (Qx E)).s ⟨p'.fuel,p'.vars+x.vars.toNat,p'.calls,p'.out,p'.ended⟩).2)
     else if (Qj (X.map LC.cl) q f (Qau x.bd.ts p'.vars call (Q3 r)) (Qba (x.cl.head.shift p'.vars) g.t.tm (Qx E)).s ⟨p'.fuel,p'.vars+x.vars.toNat,p'.calls,p'.out,p'.ended⟩).1=(call:Nat) then (-1,(Qj (X.map LC.cl) q f (Qau x.bd.ts p'.vars call (Q3 r)) (Qba (x.cl.head.shift p'.vars) g.t.tm (Qx E)).s ⟨p'.fuel,p'.vars+x.vars.toNat,p'.calls,p'.out,p'.ended⟩).2)
     else if 0≤(Qj (X.map LC.cl) q f (Qau x.bd.ts p'.vars call (Q3 r)) (Qba (x.cl.head.shift p'.vars) g.t.tm (Qx E)).s ⟨p'.fuel,p'.vars+x.vars.toNat,p'.calls,p'.out,p'.ended⟩).1 then Qj (X.map LC.cl) q f (Qau x.bd.ts p'.vars call (Q3 r)) (Qba (x.cl.head.shift p'.vars) g.t.tm (Qx E)).s ⟨p'.fuel,p'.vars+x.vars.toNat,p'.calls,p'.out,p'.ended⟩
     else QeB (Qj (X.map LC.cl) q f) (g.t.tm,g.o) (Q3 r) (Qx E) call (R.map LC.cl) (Qj (X.map LC.cl) q f (Qau x.bd.ts p'.vars call (Q3 r)) (Qba (x.cl.head.shift p'.vars) g.t.tm (Qx E)).s ⟨p'.fuel,p'.vars+x.vars.toNat,p'.calls,p'.out,p'.ended⟩).2
    else QeB (Qj (X.map LC.cl) q f) (g.t.tm,g.o) (Q3 r) (Qx E) call (R.map LC.cl) p':=rfl
   rw [htm] at htry⊢
   have hone:∀{H'} (w':World) (u:LT) (F2:List (World→Prop)),(∀φ∈F',φ∈F2)→Und F2 (LRd u)→u.tm=x.cl.head.shift p'.vars→St M w0 H' F2 w'→Calls Tryz.prog 105 #[Qen E,tv u,tv g.t] w' fun e w2=>∃(E':List EN) (ok:Bool) (k:Int) (F3:List (World→Prop)),e= .returned (.tuple #[Qen E',.bool ok,.int .i64 k])∧(∀φ∈F2,φ∈F3)∧(400<(Qba (x.cl.head.shift p'.vars) g.t.tm (Qx E)).w→k<0)∧((Qba (x.cl.head.shift p'.vars) g.t.tm (Qx E)).w≤400→0≤k∧ok=(Qba (x.cl.head.shift p'.vars) g.t.tm (Qx E)).ok∧((Qba (x.cl.head.shift p'.vars) g.t.tm (Qx E)).ok=true→Qx E'=(Qba (x.cl.head.shift p'.vars) g.t.tm (Qx E)).s∧EOk F3 E'))∧St M w0 H' F3 w2:=fun w' u F2 hF2 hu e hS=>by
    have:=QsZ E u g.t w' ⟨hE.rd.mono fun φ h=>hF2 φ (hFF φ h),hE.ok,hE.gd⟩ hu (hrg.mono fun φ h=>hF2 φ (hFF φ h)) (by rw [e];exact tcl) hgg hS;rw [e] at this;exact this
   generalize Qba (x.cl.head.shift p'.vars) g.t.tm (Qx E)=U at*;refine ZcR ?_
   first
    |refine Qa (Qb (k:=6) hS rfl rfl rfl Ym Yf) rfl ?_
    |refine Qa (Qb (k:=6) hS rfl rfl rfl Ym Ye) rfl ?_
    |refine Qa (QeI rfl rfl rfl Yn Yn Yn Yn Yn Yn) rfl ?_
   refine Zcy ?_;clear hS;intro b1 wx3 hS;refine Zb ?_;clear hS;intro wx4 hS;refine Zch ?_;refine Zba ?_
   first
    |refine Qa (Qe hS rfl rfl Ym Yf) rfl ?_
    |refine Qa (Qi rfl rfl (by first|assumption|exact (hpc1 hFF _ hS).1|exact (hpc1 hFF _ hS).2.1|exact (hpc1 hFF _ hS).2.2.1|exact (hpc1 hFF _ hS).2.2.2.1|exact (hpc1 hFF _ hS).2.2.2.2.1|exact (hpc1 hFF _ hS).2.2.2.2.2|exact (hpc1 hFF _ hS.unlearn).1|exact (hpc1 hFF _ hS.unlearn).2.1|exact (hpc1 hFF _ hS.unlearn).2.2.1|exact (hpc1 hFF _ hS.unlearn).2.2.2.1|exact (hpc1 hFF _ hS.unlearn).2.2.2.2.1|exact (hpc1 hFF _ hS.unlearn).2.2.2.2.2|exact hS.cell0 Ye|exact lv_next hS|exact lv_list hS)) rfl ?_
   refine Zav ?_;refine Qfv 14 15 16 (111::112::113::114::115::116::117::118::119::120::110::121::122::123::[]) (fun v y z w'=>∃(E':List EN) (ok:Bool) (k:Int) (F2:List (World→Prop)),v=Qen E'∧y= .bool ok∧z= .int .i64 k∧(∀φ∈F',φ∈F2)∧(400<U.w→k<0)∧(U.w≤400→0≤k∧ok=U.ok∧(U.ok=true→Qx E'=U.s∧EOk F2 E'))∧St M w0 ((b1,.cells (lcs x).toArray 65)::(pb,.cells (Qd2 pA X.length pc q p' oA' K'.length oc').toArray 109)::(O'++H)) F2 w') ?_ ?_
   ·intro hmeet;refine QaA (St _ _ _ _) 17 (.read 0 (.read 1 (.read 2 (.read 3 (.read 5 (.read 6 (.read 7 (.read 8 (.pick 4 (.pick 9 (.read 10 (.read 11 (.read 12 (.read 13 (.read 14 (.read 15 (.read 16 .tail))))))) .none) .none))))))))) Yc Yc hS.drew ?_;replace hS:=hS.drew;refine ZaY ?_;refine Zbv ?_;refine ZgH ?_;refine Zfz ?_;refine Qh rfl (fun _ hS=>QaO rfl) rfl ?_;refine Zbv ?_;refine ZgH ?_;refine Zfr ?_;refine Calls.mono (QfM x.hd p'.vars _ hxh (by show x.hd.ar.ts.nodes<_;omega) hS) ?_;rintro _ w8 ⟨u8,rfl,hu8,hS'⟩;refine Za ?_;replace hS:=hS';clear hS';refine ZgI ?_;refine ZcN ?_;refine Calls.mono (hone _ u8 _ (fun φ h=> .tail _ h) Und.head hu8 hS) ?_;rintro _ w9 ⟨E9,ok9,k9,F9,rfl,hF9,c19,c29,hS'⟩;refine Za ?_;replace hS:=hS';clear hS';refine ZgI ?_;refine ZcP ?_;refine Zcx ?_;refine Zbt ?_;refine Zbt ?_;refine Zcl ?_;exact hmeet _ _ _ _ _ ⟨E9,ok9,k9,F9,rfl,rfl,rfl,fun φ h=>hF9 φ (.tail _ h),c19,c29,hS⟩ Yb Yb Yb Yc
   clear hS;rintro jx _ _ _ w9 ⟨E',ok,k,F2,rfl,rfl,rfl,hF2,c1,c2,hS⟩;by_cases hw:400<U.w
   ·have hk:=c1 hw;rw [if_pos hw];refine Zq ?_;refine Zca ?_;refine Zb9 ?_;refine Calls.mono (Qc0 pb pA X.length pc q p' 4 _ Ya ⟨K',oA',oc',O',hK',fun x hx=>(hKr' x hx).mono hF2,hrow',hS.drop⟩) ?_;rintro _ w10 ⟨rfl,hP'⟩;refine ZM ?_;refine Zbw ?_;exact ⟨F2,rfl,fun φ h=>hF2 φ (hFF φ h),hP'⟩
   rw [if_neg hw] at htry⊢;obtain ⟨hk,rfl,hok⟩:=c2 Ya
   cases hoo:U.ok with
   |false=>
    rw [hoo] at htry hok;rw [if_neg Yg] at htry⊢;refine ZdO ?_;refine ZE ?_;refine ZF ?_;refine ZaW ?_;refine Zaz ?_;refine ZeF ?_;refine (ih R _ _ _ ?_ ?_ Yb Yc).mono ?_
    ·simp
    ·exact ⟨Dd++[x],p',F2,by rw [hDR];simp,by simp,hen,hfl,hbd,htry,fun φ h=>hF2 φ (hF' φ h),K',oA',oc',O',hK',fun x hx=>(hKr' x hx).mono hF2,hrow',hS.drop⟩
    ·rw [htry];exact fun e w h=>h
   |true=>
    rw [hoo] at htry hok;rw [if_pos rfl] at htry⊢;obtain ⟨hE1,hE2⟩:=hok rfl;have hFF2:∀φ∈F,φ∈F2:=fun φ h=>hF2 φ (hFF φ h);have hrr2:=hrr.mono hFF2;have hxb2:=hxb.mono hF2;have hnodes:x.bd.ts.length≤5:=v2
    have hbdlen:x.bd.len≤5:=by have:=TA.len_ts x.bd;omega
    simp only [Qd2] at hS;refine ZdO ?_;refine ZP ?_;refine Zp ?_;refine Zdf ?_;replace hS:=hS.drew;refine ZR ?_;refine Zdh ?_;refine ZgJ ?_;refine ZfJ ?_;refine ZgJ ?_;refine Ze5 ?_;refine ZbT ?_;refine Zdh ?_;refine ZcU ?_;clear hS;intro wx5 hS;refine Zch ?_;refine Zc8 ?_;refine Zcz ?_;refine Zav ?_;refine Zf ?_;refine ZaC ?_;refine Zcz ?_;refine Zcd ?_;have hvv:((p'.vars:Nat):Int)+x.vars=((p'.vars+x.vars.toNat:Nat):Int):=by omega
    rw [hvv] at hS;refine Qy 18 17 (147::148::151::152::153::154::155::156::157::158::159::160::161::149::150::[]) (fun (j:Nat) v u w'=>∃(D2 R2:TA) (gs:List GN) (F3:List (World→Prop)),x.bd=D2.app R2∧D2.len=j∧v= .int .i64 ((j:Nat)-1)∧u=Qdr gs∧Q3 gs=Qau R2.ts p'.vars call (Q3 r)∧(∀φ∈F2,φ∈F3)∧Und F3 (TdR gs)∧St M w0 ((b1,.cells (lcs x).toArray 65)::(pb,.cells (Qd2 pA X.length pc q ⟨p'.fuel,p'.vars+x.vars.toNat,p'.calls,p'.out,p'.ended⟩ oA' K'.length oc').toArray 109)::(O'++H)) F3 w') (fun j=>j) (x.bd.len) ?_ Yb Yb ?_
    ·exact ⟨x.bd,.nil,r,F2,by rw [TA.app_nil],rfl,rfl,rfl,rfl,fun _ h=>h,hrr2,hS⟩
    clear hS;rintro j _ _ w10 jy ⟨D2,R2,gs,F3,hDR2,hDj,rfl,rfl,hgs,hF3,hpr3,hS⟩ ih2;have hlen2:x.bd.len=D2.len+R2.len:=by rw [hDR2,TA.len_app]
    cases j with
    |succ j=>
     obtain ⟨D',k1,n1,s1,A1,c1',a1,rfl,hD'⟩:=TA.snoc D2 j hDj
     have hDR':x.bd=D'.app (.cons k1 n1 s1 A1 c1' a1 R2):=by rw [hDR2,TA.app_assoc];rfl
     have hT':=hxb2.mono hF3;rw [hDR'] at hT'
     have hnod:a1.ts.nodes<x.bd.ts.nodes:=by rw [hDR',TA.app_ts,Ts.nodes_app];simp only [TA.ts,Ts.nodes];omega
     have hsub:Und F3 (LRd ⟨k1,n1,s1,A1,c1',a1⟩):=hT'.imp fun w h=>h.sub;obtain ⟨b7,o7,hba⟩:=(hS.und hT').some_ YH;rw [hba] at hT';obtain ⟨z0,z1,z2,z3⟩:=(hS.und hT').cells;rw [show o7+D'.len*4=o7+(((j+1:Nat):Int)-1).toNat*4 by omega] at z0 z1 z2 z3;simp only [lcs,hba] at hS;refine Zcf ?_;refine Zaz ?_;refine ZaC ?_;refine Zcz ?_;refine Ze ?_;refine Zar ?_
     first
      |refine Qa (Qb (k:=4) hS rfl rfl rfl Ym Yf) rfl ?_
      |refine Qa (Qb (k:=4) hS rfl rfl rfl Ym Ye) rfl ?_
      |refine Qa (QQ rfl rfl rfl YA YA YA YA) rfl ?_
     refine Zal ?_;refine Calls.mono (QfM ⟨k1,n1,s1,A1,c1',a1⟩ p'.vars _ hsub (by show a1.ts.nodes<_;omega) hS) ?_;rintro _ w11 ⟨u,rfl,hu,hS'⟩;refine Za ?_;replace hS:=hS';clear hS';refine ZK ?_;refine Zek ?_;refine ZaX ?_;clear hS;intro b2 wx6 hS;refine ZdG ?_;replace hS:=hS.freeze;refine ih2 j _ _ _ _ ?_ ?_ Yb Yb Yc
     ·omega
     ·rw [←hba] at hS;refine ⟨D',.cons k1 n1 s1 A1 c1' a1 R2,⟨u,call,_⟩::gs,_,hDR',hD',?_,rfl,?_,fun φ h=> .tail _ (.tail _ (hF3 φ h)),?_,hS⟩
      ·congr 1;omega
      ·show (u.tm,call)::Q3 gs=_;rw [hu,hgs];rfl
      ·exact fun w hw=>⟨hw _ (.head _),hw _ (.tail _ (.head _)),hpr3 w fun φ hφ=>hw φ (.tail _ (.tail _ hφ))⟩
    |zero=>
     have hD2:D2= .nil:=by cases D2 with
      |nil=>rfl
      |cons _ _ _ _ _ _ _=>simp [TA.len] at hDj
     subst hD2
     have hRx:R2=x.bd:=by rw [hDR2];rfl
     subst hRx;clear ih2;have hcall:=hpr M w0 H F3 gs E' pb ⟨p'.fuel,p'.vars+x.vars.toNat,p'.calls,p'.out,p'.ended⟩;have hXc':=hX.mono (fun φ h=>hF3 φ (hFF2 φ h))
     have hgd2:∀y∈gs,tgd y.t.tm:=by
      have:=Qhu (v:=x.cl.vars) (m:=p'.vars) (o:=call) (rest:=Q3 r) v1 Ya Ya (fun y hy=>by
       obtain ⟨z,hz,rfl⟩:=List.mem_map.1 hy
       exact hg z (.tail _ hz)) x.bd.ts v3
      rw [←Qqt,←hgs] at this;intro y hy;exact this (y.t.tm,y.o) (List.mem_map.2 ⟨y,hy,rfl⟩)
     have hBI:BdI C D ⟨p'.fuel,p'.vars+x.vars.toNat,p'.calls,p'.out,p'.ended⟩:=⟨by show p'.vars+x.vars.toNat+8*(p'.fuel+12)≤C+8*p'.out.length;omega,hbd.c,hbn.2,hen⟩
     have hEO:EOk F3 E':=⟨hE2.rd.mono hF3,hE2.ok,hE2.gd⟩
     have hbdo:=Qi0 (q:=q) (C:=C) (D:=D) hP24 f (Q3 gs) (Qx E') _ hBI;have hfu2:=Qii (P:=X.map LC.cl) (q:=q) f (Q3 gs) (Qx E') ⟨p'.fuel,p'.vars+x.vars.toNat,p'.calls,p'.out,p'.ended⟩;rw [hgs,hE1] at hcall hbdo hfu2;generalize Qj (X.map LC.cl) q f (Qau x.bd.ts p'.vars call (Q3 r)) U.s ⟨p'.fuel,p'.vars+x.vars.toNat,p'.calls,p'.out,p'.ended⟩=Q at*;obtain ⟨kq,pq⟩:=Q;dsimp only at hcall hbdo hfu2 htry⊢;refine Zce ?_;refine ZcV ?_;refine Calls.mono (hcall _ hXc' hpr3 hgd2 hEO hfl hBI ⟨K',oA',oc',O',hK',fun x hx=>(hKr' x hx).mono (fun φ h=>hF3 φ (hF2 φ h)),hrow',hS.drop⟩) ?_;rintro _ w12 ⟨F4,rfl,hF4,hP4⟩;refine Za ?_;clear hS;have hFF4:∀φ∈F,φ∈F4:=fun φ h=>hF4 φ (hF3 φ (hFF2 φ h));obtain ⟨K4,oA4,oc4,O4,hK4,hKr4,hrow4,hS⟩:=hP4
     cases he4:pq.ended with
     |true=>
      rw [if_pos he4] at htry;rw [if_pos rfl];simp only [Qd2,he4] at hS;refine Zw ?_;refine ZaH ?_;refine Zcz ?_;refine Z0 ?_;refine Zbw ?_;exact ⟨F4,rfl,hFF4,K4,oA4,oc4,O4,hK4,hKr4,hrow4,by simp only [Qd2,he4];exact hS⟩
     |false=>
      have hne4:¬pq.ended=true:=by rw [he4];decide
      rw [if_neg hne4] at htry;rw [if_neg Yg];by_cases hkc:kq=(call:Nat)
      ·rw [if_pos hkc] at htry⊢;simp only [Qd2,he4] at hS;refine Zw ?_;refine ZaH ?_;refine Zcz ?_;refine ZcW ?_;refine Zk ?_;refine Z0 ?_;refine Zbw ?_;exact ⟨F4,rfl,hFF4,K4,oA4,oc4,O4,hK4,hKr4,hrow4,by simp only [Qd2,he4];exact hS⟩
      rw [if_neg hkc] at htry⊢;by_cases hk0:0≤kq
      ·rw [if_pos hk0] at htry⊢;simp only [Qd2,he4] at hS;refine Zw ?_;refine ZaH ?_;refine Zcz ?_;refine ZcW ?_;refine Zak ?_;refine Zv ?_;refine ZaM ?_;refine ZF ?_;refine Zai ?_;refine Zbw ?_;exact ⟨F4,rfl,hFF4,K4,oA4,oc4,O4,hK4,hKr4,hrow4,by simp only [Qd2,he4];exact hS⟩
      ·rw [if_neg hk0] at htry⊢;simp only [Qd2,he4] at hS;refine Zw ?_;refine ZaH ?_;refine Zcz ?_;refine ZcW ?_;refine Zak ?_;refine Zv ?_;refine ZaM ?_;refine ZaK ?_;refine (ih R _ _ _ ?_ ?_ Yb Yc).mono ?_
       ·simp
       ·exact ⟨Dd++[x],pq,F4,by rw [hDR];simp,by simp,he4,Nat.le_trans hfu2 hfl,hbdo,htry,fun φ h=>hF4 φ (hF3 φ (hF2 φ (hF' φ h))),K4,oA4,oc4,O4,hK4,hKr4,hrow4,by simp only [Qd2,he4];exact hS⟩
       ·rw [htry];exact fun e w h=>h
theorem Qih (hXl:X.length≤24) (hXc:∀x∈X,cB x.cl=true) (hC:C≤30000) (hD:D≤30000) (hq:q≤8):∀f,f≤1000→PrC X pA pc q C D f
 |0,_=>by
  intro M w0 H F gs E pb p w hX hr hg hE hf hB hP
  cases gs with
  |nil=>exact (Qkh E pb p w hq hE hB hP)
  |cons g r=>
   refine (Qkg g r E pb p w hB Ya hP).mono ?_;rintro e w' ⟨rfl,hP'⟩;exact ⟨F,rfl,fun _ h=>h,hP'⟩
 | f + 1, hf1 => by
  have hpr:=Qih hXl hXc hC hD hq f Ya;intro M w0 H F gs E pb p w hX hr hg hE hf hB hP
  cases gs with
  |nil=>exact (Qkh E pb p w hq hE hB hP)
  |cons g r=>
   have hpm:Qj (X.map LC.cl) q (f+1) (Q3 (g::r)) (Qx E) p=if p.fuel=0 then (-1,Qea 3 p)
     else if QM g.t.s.toList g.t.ar.len=true then Qbu (Qj (X.map LC.cl) q f) (g.t.tm,g.o) (Q3 r) (Qx E) ⟨p.fuel-1,p.vars,p.calls,p.out,p.ended⟩
     else match (X.filter (QfY g.t)).map LC.cl with
      |[]=>(-1,Qea 5 ⟨p.fuel-1,p.vars,p.calls,p.out,p.ended⟩)
      |c::cs=>QeB (Qj (X.map LC.cl) q f) (g.t.tm,g.o) (Q3 r) (Qx E) (p.calls+1) (c::cs) ⟨p.fuel-1,p.vars,p.calls+1,p.out,p.ended⟩:=by
    rw [Qtd,←TA.len_ts];show Qj (X.map LC.cl) q (f+1) ((g.t.tm,g.o)::Q3 r) (Qx E) p=_;rw [Qj];congr 1
   rw [hpm];by_cases h0:p.fuel=0
   ·rw [if_pos h0];refine (Qkg g r E pb p w hB h0 hP).mono ?_;rintro e w' ⟨rfl,hP'⟩;exact ⟨F,rfl,fun _ h=>h,hP'⟩
   rw [if_neg h0]
   cases hbt:QM g.t.s.toList g.t.ar.len with
   |true=>
    rw [if_pos rfl];exact QlL hpr g r E pb p w hX hr hg hE h0 Ya hf hB hbt hP
   |false=>
    rw [if_neg Yg]
    cases hfi:X.filter (QfY g.t) with
    |nil=>
     refine (Qoa g r E pb p w hX hXl hr h0 Ya hB hbt hfi hP).mono ?_;rintro e w' ⟨rfl,hP'⟩;exact ⟨F,rfl,fun _ h=>h,hP'⟩
    |cons y z=>
     have:=Qn9 hpr g r E pb p w hX hXl hXc hC hD hr hg hE h0 Ya hf hB hbt (by rw [hfi];simp) hP;rw [hfi] at this;exact this
end
section
variable {P:Program} {n:Nat} {e:Env} {w:World} {Q:Exit→Act→World→Prop} {ops:Array Oper} {rest:List Oper} {ty:TypeId} {pos:String} {after:Array Edge} {d:Nat}
variable {M:List Nat} {w0:World} {H:List (Nat×Obj)} {F:List (World→Prop)} {x y:Operand} {t:TypeId}
theorem Qgc {el sz bts k:Nat} (hS:St M w0 H F w) (hx:ev n e x= .int .i64 (k:Nat)) (hy:ev n e y= .int .i64 (k:Nat)) (hT:Qw P t=some el) (hi:Qpu P el=some (sz,bts)) (hb:bts*k≤281474976710656) (hk:k≤4611686018427387904) (hd:Nat.blt d n=true)
  (h:∀(b:Nat) (w':World) (cs:List Value),cs.length=k*sz→St M w0 ((b,.cells cs.toArray el)::H) F w'→Lst P Q ops rest n ((d,.slice (some ⟨b,0,none⟩) k k)::e) w'):
  Lst P Q ops (⟨some d,.makeSlice t x y,ty,pos,after,none⟩::rest) n e w:=by
 obtain ⟨i,z,h2,h3,h4,rfl,rfl⟩:=QaG hi
 have hb2:(i.bytes:Int)*(k:Int)≤281474976710656:=by rw [←Int.natCast_mul];omega
 have hr:=run_make (P:=P) w t el i z (QaD hT) h2 h3 .i64 .i64 (k:Int) (k:Int) Ya Ya hb2 Ya;refine Qa (v:= .slice (some ⟨w.heap.size,0,none⟩) k k) (w':=w.alloc (.cells (madeCells z.cells (k*i.size)) el)) ?_ hd ?_
 ·simp only [execOp,hx,hy,bind,pure];rw [Sem.run_bind',hr];rfl
 ·have e1:madeCells z.cells (k*i.size)=(madeCells z.cells (k*i.size)).toList.toArray:=by simp
  rw [e1];exact h _ _ _ (by rw [Array.length_toList,size_madeCells]) (hS.alloc _)
theorem Qrs (v:Value) (k:Nat):madeCells #[v] (k*1)=(List.replicate k v).toArray:=by
 apply Array.ext';simp only [madeCells,Array.toList_map,Array.toList_range,Nat.mul_one];refine List.ext_getElem? fun i=> ?_;rw [List.getElem?_map,List.getElem?_replicate];by_cases hi:i<k
 ·rw [List.getElem?_range hi,if_pos hi];simp [Nat.mod_one]
 ·rw [List.getElem?_eq_none (by simpa using hi),if_neg hi];rfl
theorem QcG {el bts k:Nat} {z:Value} (hS:St M w0 H F w) (hx:ev n e x= .int .i64 (k:Nat)) (hy:ev n e y= .int .i64 (k:Nat)) (hT:Qw P t=some el) (hi:Qpu P el=some (1,bts)) (hz:QiJ P el=some z) (hz1:z.cells= #[z]) (hb:bts*k≤281474976710656) (hk:k≤4611686018427387904) (hd:Nat.blt d n=true)
  (h:∀(b:Nat) (w':World),St M w0 ((b,.cells (List.replicate k z).toArray el)::H) F w'→Lst P Q ops rest n ((d,.slice (some ⟨b,0,none⟩) k k)::e) w'):
  Lst P Q ops (⟨some d,.makeSlice t x y,ty,pos,after,none⟩::rest) n e w:=by
 obtain ⟨i,z',h2,h3,h4,h5,rfl⟩:=QaG hi
 obtain rfl:z'=z:=by unfold QiJ at hz;rw [h2] at hz;simp only [Option.bind_some] at hz;rw [h3] at hz;exact Option.some.inj hz
 have hb2:(i.bytes:Int)*(k:Int)≤281474976710656:=by rw [←Int.natCast_mul];omega
 have hr:=run_make (P:=P) w t el i z' (QaD hT) h2 h3 .i64 .i64 (k:Int) (k:Int) Ya Ya hb2 Ya;refine Qa (v:= .slice (some ⟨w.heap.size,0,none⟩) k k) (w':=w.alloc (.cells (madeCells z'.cells (k*i.size)) el)) ?_ hd ?_
 ·simp only [execOp,hx,hy,bind,pure];rw [Sem.run_bind',hr];rfl
 ·rw [h5,hz1,Qrs];exact h _ _ (hS.alloc _)
end
end Go.Proofs.YthliapbflkfdiacGreatDoor
