/- RefS14, Wide: texts that follow one another, laid into one file. -/
import Derived.Test.YthliapbflkfdiacGreatDoorZ0
import Derived.Test.YthliapbflkfdiacGreatDoorG26
import Derived.Test.YthliapbflkfdiacGreatDoorG6
import Derived.Test.YthliapbflkfdiacGreatDoorG4
namespace Go.Proofs.YthliapbflkfdiacGreatDoor
open Go.RowKit
set_option linter.unusedVariables false
set_option linter.unusedSimpArgs false
set_option maxRecDepth 100000
set_option maxHeartbeats 1000000
theorem Ql9 {pr:List Tg→Bnd→Qa0→Int×Qa0} (hpr:∀g e p,(pr g e p).2.fuel≤p.fuel) {g:Tg} {r:List Tg} {e:Bnd} {call:Nat}:∀(cls:List Cl) (p:Qa0),(Qgx pr g r e call cls p).2.fuel≤p.fuel
 |[],p=>Nat.le_refl _
 |c::cs,p=>by
  have h1:=hpr (QaX c.bd p.vars call r) (QbY (c.head.shift p.vars) g.1 e).s ⟨p.fuel,p.vars+c.vars.toNat,p.calls,p.out,p.ended⟩
  rw [Qgx]
  split
  ·exact Nat.le_refl _
  split
  ·split
   ·exact h1
   ·split
    ·exact h1
    split
    ·exact h1
    ·exact Nat.le_trans (Ql9 hpr cs _) h1
  ·exact Ql9 hpr cs _
theorem Qq3 {pr:List Tg→Bnd→Qa0→Int×Qa0} (hpr:∀g e p,(pr g e p).2.fuel≤p.fuel) {r:List Tg} {e:Bnd} {p:Qa0} {x y:Tm}:(Qm5 pr r e p x y).2.fuel≤p.fuel:=by
 unfold Qm5
 split
 ·exact Nat.le_refl _
 split
 ·exact hpr _ _ _
 ·exact Nat.le_refl _
theorem Qpp {pr:List Tg→Bnd→Qa0→Int×Qa0} (hpr:∀g e p,(pr g e p).2.fuel≤p.fuel) {g:Tg} {r:List Tg} {e:Bnd} {p:Qa0}:(Qcl pr g r e p).2.fuel≤p.fuel:=by
 unfold Qcl
 split
 ·split
  ·exact hpr _ _ _
  ·exact hpr _ _ _
 split
 ·exact hpr _ _ _
 split
 ·exact Nat.le_refl _
 split
 ·exact Qq3 hpr
 split
 ·exact Nat.le_refl _
 split
 ·split
  ·exact hpr _ _ _
  ·exact Nat.le_refl _
 ·exact Qq3 hpr
theorem Qnu {q:Nat} {e:Bnd} {p:Qa0}:(Qf3 q e p).2.fuel≤p.fuel:=by
 unfold Qf3
 cases Qhm QfL e q 0 200 with
 |none=>exact Nat.le_refl _
 |some x=>
  dsimp only
  split<;>exact Nat.le_refl _
theorem Qlp {P:List Cl} {q:Nat}:∀(f:Nat) (g:List Tg) (e:Bnd) (p:Qa0),(Qn P q f g e p).2.fuel≤p.fuel
 |0,[],e,p=>Qnu
 |f+1,[],e,p=>Qnu
 |0,_::_,e,p=>Nat.le_refl _
 |f+1,g::r,e,p=>by
  have ih:=Qlp (P:=P) (q:=q) f
  rw [Qn]
  split
  ·exact Nat.le_refl _
  split
  ·exact Nat.le_trans (Qpp fun g e p=>ih g e p) (Nat.sub_le _ _)
  ·cases P.filter (QcV g.1) with
   |nil=>exact Nat.sub_le _ _
   |cons c cs=>exact Nat.le_trans (Ql9 (fun g e p=>ih g e p) _ _) (Nat.sub_le _ _)
section
variable {M:List Nat} {w0:World} {H:List (Nat×Obj)} {F:List (World→Prop)} {X:List LC} {pA:Option Addr} {pc q C D f:Nat}
theorem Qsw (hpr:PrC X pA pc q C D f) (g:GN) (r:List GN) (E:List EN) (pb:Nat) (p:Qa0) (w:World) (hX:Und F (Qit X pA pc)) (hXl:X.length≤24) (hXc:∀x∈X,cB x.cl=true) (hC:C≤30000) (hD:D≤30000) (hr:Und F (TdR (g::r))) (hg:∀x∈g::r,tgd x.t.tm) (hE:EOk F E) (h0:p.fuel≠0) (h1:p.fuel≤1000) (hf:p.fuel≤f+1) (hB:BdI C D p) (hbt:Q1 g.t.s.toList g.t.ar.len=false) (hn:0<(X.filter (Qin g.t)).length) (hP:PSt M w0 H F pb pA X.length pc q p w):
  Calls Tryz.prog 62 #[.pointer (some ⟨pb,0,none⟩),Qe6 (g::r),Qgk E] w fun e w'=>∃F':List (World→Prop),e= .returned (.int .i64 (Qgx (Qn (X.map LC.cl) q f) (g.t.tm,g.o) (Qam r) (QK E) (p.calls+1) ((X.filter (Qin g.t)).map LC.cl) ⟨p.fuel-1,p.vars,p.calls+1,p.out,p.ended⟩).1)∧(∀φ∈F,φ∈F')∧PSt M w0 H F' pb pA X.length pc q (Qgx (Qn (X.map LC.cl) q f) (g.t.tm,g.o) (Qam r) (QK E) (p.calls+1) ((X.filter (Qin g.t)).map LC.cl) ⟨p.fuel-1,p.vars,p.calls+1,p.out,p.ended⟩).2 w':=by
 have h0':((p.fuel:Nat):Int)≠0:=by omega
 have ho:=hB.o
 have hBc:=hB.c
 have hBv:=hB.v
 have hpc:∀{H'} w',St M w0 H' F w'→_:=fun w' hS=>(hS.und hr).cells
 have hfu:((p.fuel:Nat):Int)-1=((p.fuel-1:Nat):Int):=by omega
 have hrg:Und F (LRd g.t):=hr.imp fun w h=>h.2.1
 have hrr:Und F (TdR r):=hr.imp fun w h=>h.2.2
 have hgg:tgd g.t.tm:=hg g (.head _)
 obtain ⟨K,oA,oc,O,hK,hKr,hrow,hS⟩:=hP
 refine ZgJ ?_
 refine Zac ?_
 refine ZcD ?_
 refine Zo ?_
 refine Zaj ?_
 refine ZdO ?_
 refine Zan ?_
 refine Z0 ?_
 refine ZdO ?_
 refine Zbf ?_
 refine Zdj ?_
 clear hS
 intro wx1 hS
 refine Zb ?_
 refine ZbG ?_
 refine Zis ?_
 refine Zj ?_
 refine Calls.mono (Qdd _ _ _ _ _ _ _) ?_
 rintro _ w4 ⟨rfl,hb4⟩
 refine Za ?_
 replace hS:=hS.grow hb4
 refine Zb ?_
 rw [hbt]
 refine ZbM ?_
 refine Zdr ?_
 refine ZeT ?_
 refine ZX ?_
 rw [hfu] at hS
 refine Qx 53 7 (54::55::56::9::57::58::59::60::61::62::63::64::65::66::67::68::69::70::71::72::73::74::75::76::77::78::79::80::81::82::83::[]) (fun (R:List LC) v u w'=>∃(Dd:List LC) (O2:List (Nat×Obj)),X=Dd++R∧v= .int .i64 (Dd.length:Nat)∧Row 65 6 u (Dd.filter (Qin g.t)).length (QuY (Dd.filter (Qin g.t))) O2∧St M w0 ((pb,.cells (QfK pA X.length pc q ⟨p.fuel-1,p.vars,p.calls,p.out,p.ended⟩ oA K.length oc).toArray 109)::(O2++(O++H))) F w') (fun R=>R.length) (X) ?_ Yb Yb ?_
 ·exact ⟨[],[],rfl,rfl,Row.nil_,hS⟩
 clear hS
 rintro R _ V w5 jv ⟨Dd,O2,hDR,rfl,hrow2,hS⟩ ih
 have hlen:X.length=Dd.length+R.length:=by rw [hDR];simp
 obtain ⟨Av,cv,rfl⟩:=hrow2.form
 cases R with
 |cons x R=>
  simp only [List.length_cons] at hlen
  have hX':=hX
  rw [hDR] at hX'
  obtain ⟨b6,o6,rfl⟩:=(hS.und hX').some_ Yg
  obtain ⟨q0,q1,q2,q3,q4,q5⟩:=(hS.und hX').cells
  have hflen:=List.length_filter_le (Qin g.t) Dd
  by_cases hs:x.hd.s=g.t.s
  ·by_cases hal:x.hd.ar.len=g.t.ar.len
   ·have hfit:(Dd++[x]).filter (Qin g.t)=Dd.filter (Qin g.t)++[x]:=by rw [List.filter_append];simp [Qin,hs,hal]
    refine ZeJ ?_
    refine Ze2 ?_
    refine Zcf ?_
    clear hS
    intro b1 wx2 hS
    refine Zc ?_
    clear hS
    intro wx3 hS
    refine Z8 ?_
    refine ZgK ?_
    replace hS:=hS.drew
    refine Zaz ?_
    refine Zcy ?_
    refine Zaq ?_
    refine Zcy ?_
    refine ZgL ?_
    refine ZK ?_
    refine Zga ?_
    refine ZeK ?_
    refine Zga ?_
    refine ZgM ?_
    refine Zij ?_
    refine Zae ?_
    refine Za5 ?_
    refine Ze2 ?_
    refine Zhx ?_
    clear hS
    intro b2 wx4 hS
    refine Qar (sz:=6) (bts:=88) hS Yb rfl rfl rfl rfl (hrow2) rfl rfl (.cons _ (List.perm_append_comm_assoc [_,_] _ _)) Ya Ya rfl ?_
    clear hS
    intro v' O' w6 hrow' hS
    replace hS:=hS.perm (List.perm_append_comm_assoc O' [_,_] _)
    refine Zax ?_
    refine ih (R) _ _ _ _ ?_ ?_ Yb Yb Yc
    ·simp
    ·exact ⟨Dd++[x],O',by rw [hDR];simp,by simp,by rw [hfit,QwX,List.length_append];exact hrow',hS.drop⟩
   ·have hal':((x.hd.ar.len:Nat):Int)≠((g.t.ar.len:Nat):Int):=by omega
    have hfit:(Dd++[x]).filter (Qin g.t)=Dd.filter (Qin g.t):=by rw [List.filter_append];simp [Qin,hal]
    refine ZeJ ?_
    refine Ze2 ?_
    refine Zcf ?_
    clear hS
    intro b1 wx2 hS
    refine Zc ?_
    clear hS
    intro wx3 hS
    refine Z8 ?_
    refine ZgK ?_
    replace hS:=hS.drew
    refine Zaz ?_
    refine Zcy ?_
    refine Zaq ?_
    refine Zcy ?_
    refine ZgL ?_
    refine ZK ?_
    refine Zga ?_
    refine ZeK ?_
    refine Zga ?_
    refine ZgM ?_
    refine Zgb ?_
    refine Z9 ?_
    refine ih (R) _ _ _ _ ?_ ?_ Yb Yb Yc
    ·simp
    ·exact ⟨Dd++[x],O2,by rw [hDR];simp,by simp,by rw [hfit];exact hrow2,hS.drop⟩
  ·have hfit:(Dd++[x]).filter (Qin g.t)=Dd.filter (Qin g.t):=by rw [List.filter_append];simp [Qin,hs]
   refine ZeJ ?_
   refine Ze2 ?_
   refine Zcf ?_
   clear hS
   intro b1 wx2 hS
   refine Zc ?_
   clear hS
   intro wx3 hS
   refine Z8 ?_
   refine ZgK ?_
   replace hS:=hS.drew
   refine Zaz ?_
   refine Zcy ?_
   refine Zaq ?_
   refine Zcy ?_
   refine ZgL ?_
   refine ZK ?_
   refine Zgc ?_
   refine Zgc ?_
   refine Zg5 ?_
   refine Zhm ?_
   refine Zgb ?_
   refine Z9 ?_
   refine ih (R) _ _ _ _ ?_ ?_ Yb Yb Yc
   ·simp
   ·exact ⟨Dd++[x],O2,by rw [hDR];simp,by simp,by rw [hfit];exact hrow2,hS.drop⟩
 | nil =>
  have e:X=Dd:=by rw [hDR];simp
  rw [←e] at hrow2
  clear ih
  simp only [List.length_nil] at hlen
  have hcap2:=hrow2.cap
  have hml:=List.length_filter_le (Qin g.t) X
  have hmem:∀x∈X.filter (Qin g.t),x∈X:=fun x hx=>(List.mem_filter.1 hx).1
  rw [←e]
  generalize X.filter (Qin g.t)=mine at*
  obtain ⟨F1,hF1,hmr,hS⟩:=St.freezeC (H:=(pb,.cells (QfK pA X.length pc q ⟨p.fuel-1,p.vars,p.calls,p.out,p.ended⟩ oA K.length oc).toArray 109)::(O++H)) hrow2 (fun x hx=>hX.imp fun w h=>h.2.2 x (hmem x hx)) (hS.perm (List.perm_append_comm_assoc [_] _ _))
  have hpc1:∀{F':List (World→Prop)} {H':List (Nat×Obj)} (hF:∀φ∈F,φ∈F') (w':World),St M w0 H' F' w'→_:=fun hF w' hS=>(hS.und (hr.mono hF)).cells
  have hca:((p.calls:Nat):Int)+1=((p.calls+1:Nat):Int):=by omega
  simp only [QfK] at hS
  refine ZfR ?_
  refine Zan ?_
  refine Z0 ?_
  refine Qa (Qi (off:=6) rfl rfl) rfl ?_
  refine ZeT ?_
  refine Zv ?_
  refine ZR ?_
  refine Qa (Qi (off:=6) rfl rfl) rfl ?_
  refine Zy ?_
  clear hS
  intro wx2 hS
  refine Zbv ?_
  refine Qa (Qi (off:=6) rfl rfl) rfl ?_
  refine ZeT ?_
  refine Zcz ?_
  rw [hca] at hS⊢
  have hp1:PSt M w0 H F1 pb pA X.length pc q ⟨p.fuel-1,p.vars,p.calls+1,p.out,p.ended⟩ wx2:=⟨K,oA,oc,O,hK,fun x hx=>(hKr x hx).mono hF1,hrow,hS⟩
  clear hS hrow2 hrow hK hKr hDR hlen e
  have hbd1:BdO C D ⟨p.fuel-1,p.vars,p.calls+1,p.out,p.ended⟩:=⟨by show p.vars≤_;omega,by show p.calls+1+(p.fuel-1)≤D;omega,by show p.out.length≤13;omega,fun _=>⟨by show p.vars+8*(p.fuel-1+13)≤C+8*p.out.length;omega,by show p.out.length<12;omega⟩⟩
  have hP24:∀c∈X.map LC.cl,c.vars.toNat≤8:=fun c hc=>by
   obtain ⟨x,hx,rfl⟩:=List.mem_map.1 hc
   have:=(Qez (hXc x hx)).2.1
   omega
  have hef:(⟨p.fuel-1,p.vars,p.calls+1,p.out,p.ended⟩:Qa0).ended=false:=hB.e
  have hff:(⟨p.fuel-1,p.vars,p.calls+1,p.out,p.ended⟩:Qa0).fuel≤f:=by show p.fuel-1≤f;omega
  generalize (⟨p.fuel-1,p.vars,p.calls+1,p.out,p.ended⟩:Qa0)=p1 at*
  generalize hcl:p.calls+1=call at*
  refine Qp 102 (103::104::105::12::106::107::108::109::13::111::112::113::114::115::116::117::118::119::120::110::121::122::123::14::15::16::124::125::126::127::6::128::129::130::131::132::133::134::135::136::137::138::139::140::141::142::17::143::144::145::146::18::147::148::151::152::153::154::155::156::157::158::159::160::161::149::150::162::163::164::165::19::166::167::168::169::170::171::172::173::174::175::176::[]) (fun (R:List LC) v w'=>∃(Dd:List LC) (p':Qa0) (F':List (World→Prop)),mine=Dd++R∧v= .int .i64 (Dd.length:Nat)∧p'.ended=false∧p'.fuel≤f∧BdO C D p'∧Qgx (Qn (X.map LC.cl) q f) (g.t.tm,g.o) (Qam r) (QK E) call (mine.map LC.cl) p1=Qgx (Qn (X.map LC.cl) q f) (g.t.tm,g.o) (Qam r) (QK E) call (R.map LC.cl) p'∧(∀φ∈F1,φ∈F')∧PSt M w0 H F' pb pA X.length pc q p' w') (fun R=>R.length) (mine) ?_ Yb ?_
  ·exact ⟨[],p1,F1,rfl,rfl,hef,hff,hbd1,rfl,fun _ h=>h,hp1⟩
  clear hp1
  rintro R _ w6 jw ⟨Dd,p',F',hDR,rfl,hen,hfl,hbd,htry,hF',K',oA',oc',O',hK',hKr',hrow',hS⟩ ih
  rw [htry]
  have hlen:mine.length=Dd.length+R.length:=by rw [hDR];simp
  have hFF:∀φ∈F,φ∈F':=fun φ h=>hF' φ (hF1 φ h)
  simp only [QfK] at hS
  cases R with
  |nil=>
   simp only [List.length_nil] at hlen
   refine Zdw ?_
   refine ZcJ ?_
   exact ⟨F',rfl,hFF,K',oA',oc',O',hK',hKr',hrow',hS⟩
  |cons x R=>
   simp only [List.length_cons] at hlen
   have hmr':=hmr.mono hF'
   rw [hDR] at hmr'
   have hxX:x∈X:=hmem x (by rw [hDR];simp)
   have hxB:=hXc x hxX
   obtain ⟨v0,v1,v2,v3,v4⟩:=Qez hxB
   have hv0:0≤x.vars:=v0
   have hv1:x.vars≤8:=v1
   have hcn24:x.hd.ar.ts.nodes+1≤24:=by simp only [gB,Bool.and_eq_true,decide_eq_true_eq] at v4;exact v4.2
   have hbd24:x.bd.ts.nodes≤120:=by have h1:=goals_nodes _ v3;have h2:x.bd.ts.length≤5:=v2;have h3:x.bd.ts.nodes≤24*x.bd.ts.length:=h1;omega
   have hbv:=hbd.v
   have hbo:=hbd.o
   have hbn:=hbd.n hen
   have tcl:tgd (x.cl.head.shift p'.vars):=QrF hxB Ya
   have hxh:Und F' (LRd x.hd):=hmr'.imp fun w h=>(h.2.2 x Yd).1
   have hxb:Und F' (ArA x.bA x.bc x.bd):=hmr'.imp fun w h=>(h.2.2 x Yd).2
   obtain ⟨b6,o6,rfl⟩:=(hS.und hmr').some_ Yg
   obtain ⟨q0,q1,q2,q3,q4,q5⟩:=(hS.und hmr').cells
   have htm:Qgx (Qn (X.map LC.cl) q f) (g.t.tm,g.o) (Qam r) (QK E) call ((x::R).map LC.cl) p'=if 400<(QbY (x.cl.head.shift p'.vars) g.t.tm (QK E)).w then (-1,QfZ 4 p')
    else if (QbY (x.cl.head.shift p'.vars) g.t.tm (QK E)).ok=true then
     if (Qn (X.map LC.cl) q f (QaX x.bd.ts p'.vars call (Qam r)) (QbY (x.cl.head.shift p'.vars) g.t.tm (QK E)).s ⟨p'.fuel,p'.vars+x.vars.toNat,p'.calls,p'.out,p'.ended⟩).2.ended=true then (-1,(Qn (X.map LC.cl) q f (QaX x.bd.ts p'.vars call (Qam r)) (QbY (x.cl.head.shift p'.vars) g.t.tm (QK E)).s ⟨p'.fuel,p'.vars+x.vars.toNat,p'.calls,p'.out,p'.ended⟩).2)
     else if (Qn (X.map LC.cl) q f (QaX x.bd.ts p'.vars call (Qam r)) (QbY (x.cl.head.shift p'.vars) g.t.tm (QK E)).s ⟨p'.fuel,p'.vars+x.vars.toNat,p'.calls,p'.out,p'.ended⟩).1=(call:Nat) then (-1,(Qn (X.map LC.cl) q f (QaX x.bd.ts p'.vars call (Qam r)) (QbY (x.cl.head.shift p'.vars) g.t.tm (QK E)).s ⟨p'.fuel,p'.vars+x.vars.toNat,p'.calls,p'.out,p'.ended⟩).2)
     else if 0≤(Qn (X.map LC.cl) q f (QaX x.bd.ts p'.vars call (Qam r)) (QbY (x.cl.head.shift p'.vars) g.t.tm (QK E)).s ⟨p'.fuel,p'.vars+x.vars.toNat,p'.calls,p'.out,p'.ended⟩).1 then Qn (X.map LC.cl) q f (QaX x.bd.ts p'.vars call (Qam r)) (QbY (x.cl.head.shift p'.vars) g.t.tm (QK E)).s ⟨p'.fuel,p'.vars+x.vars.toNat,p'.calls,p'.out,p'.ended⟩
     else Qgx (Qn (X.map LC.cl) q f) (g.t.tm,g.o) (Qam r) (QK E) call (R.map LC.cl) (Qn (X.map LC.cl) q f (QaX x.bd.ts p'.vars call (Qam r)) (QbY (x.cl.head.shift p'.vars) g.t.tm (QK E)).s ⟨p'.fuel,p'.vars+x.vars.toNat,p'.calls,p'.out,p'.ended⟩).2
    else Qgx (Qn (X.map LC.cl) q f) (g.t.tm,g.o) (Qam r) (QK E) call (R.map LC.cl) p':=rfl
   rw [htm] at htry⊢
   have hone:∀{H'} (w':World) (u:LT) (F2:List (World→Prop)),(∀φ∈F',φ∈F2)→Und F2 (LRd u)→u.tm=x.cl.head.shift p'.vars→St M w0 H' F2 w'→Calls Tryz.prog 105 #[Qgk E,tv u,tv g.t] w' fun e w2=>∃(E':List EN) (ok:Bool) (k:Int) (F3:List (World→Prop)),e= .returned (.tuple #[Qgk E',.bool ok,.int .i64 k])∧(∀φ∈F2,φ∈F3)∧(400<(QbY (x.cl.head.shift p'.vars) g.t.tm (QK E)).w→k<0)∧((QbY (x.cl.head.shift p'.vars) g.t.tm (QK E)).w≤400→0≤k∧ok=(QbY (x.cl.head.shift p'.vars) g.t.tm (QK E)).ok∧((QbY (x.cl.head.shift p'.vars) g.t.tm (QK E)).ok=true→QK E'=(QbY (x.cl.head.shift p'.vars) g.t.tm (QK E)).s∧EOk F3 E'))∧St M w0 H' F3 w2:=fun w' u F2 hF2 hu e hS=>by
    have:=Qyy E u g.t w' ⟨hE.rd.mono fun φ h=>hF2 φ (hFF φ h),hE.ok,hE.gd⟩ hu (hrg.mono fun φ h=>hF2 φ (hFF φ h)) (by rw [e];exact tcl) hgg hS
    rw [e] at this;exact this
   generalize QbY (x.cl.head.shift p'.vars) g.t.tm (QK E)=U at*
   refine ZeJ ?_
   first
    |refine Qa (Qb (k:=6) hS rfl rfl rfl (by first|exact .head|exact .tail .head|exact .tail (.tail .head)|exact .tail (.tail (.tail .head))|exact .tail (.tail (.tail (.tail .head)))|exact .tail (.tail (.tail (.tail (.tail .head))))) Yh) rfl ?_
    |refine Qa (Qb (k:=6) hS rfl rfl rfl (by first|exact .head|exact .tail .head|exact .tail (.tail .head)|exact .tail (.tail (.tail .head))|exact .tail (.tail (.tail (.tail .head)))|exact .tail (.tail (.tail (.tail (.tail .head))))) Ye) rfl ?_
    |refine Qa (QgG rfl rfl rfl (by first|assumption|exact (hpc1 hFF _ hS).1|exact (hpc1 hFF _ hS).2.1|exact (hpc1 hFF _ hS).2.2.1|exact (hpc1 hFF _ hS).2.2.2.1|exact (hpc1 hFF _ hS).2.2.2.2.1|exact (hpc1 hFF _ hS).2.2.2.2.2|exact (hpc1 hFF _ hS.unlearn).1|exact (hpc1 hFF _ hS.unlearn).2.1|exact (hpc1 hFF _ hS.unlearn).2.2.1|exact (hpc1 hFF _ hS.unlearn).2.2.2.1|exact (hpc1 hFF _ hS.unlearn).2.2.2.2.1|exact (hpc1 hFF _ hS.unlearn).2.2.2.2.2|exact hS.cell0 Ye) (by first|assumption|exact (hpc1 hFF _ hS).1|exact (hpc1 hFF _ hS).2.1|exact (hpc1 hFF _ hS).2.2.1|exact (hpc1 hFF _ hS).2.2.2.1|exact (hpc1 hFF _ hS).2.2.2.2.1|exact (hpc1 hFF _ hS).2.2.2.2.2|exact (hpc1 hFF _ hS.unlearn).1|exact (hpc1 hFF _ hS.unlearn).2.1|exact (hpc1 hFF _ hS.unlearn).2.2.1|exact (hpc1 hFF _ hS.unlearn).2.2.2.1|exact (hpc1 hFF _ hS.unlearn).2.2.2.2.1|exact (hpc1 hFF _ hS.unlearn).2.2.2.2.2|exact hS.cell0 Ye) (by first|assumption|exact (hpc1 hFF _ hS).1|exact (hpc1 hFF _ hS).2.1|exact (hpc1 hFF _ hS).2.2.1|exact (hpc1 hFF _ hS).2.2.2.1|exact (hpc1 hFF _ hS).2.2.2.2.1|exact (hpc1 hFF _ hS).2.2.2.2.2|exact (hpc1 hFF _ hS.unlearn).1|exact (hpc1 hFF _ hS.unlearn).2.1|exact (hpc1 hFF _ hS.unlearn).2.2.1|exact (hpc1 hFF _ hS.unlearn).2.2.2.1|exact (hpc1 hFF _ hS.unlearn).2.2.2.2.1|exact (hpc1 hFF _ hS.unlearn).2.2.2.2.2|exact hS.cell0 Ye) (by first|assumption|exact (hpc1 hFF _ hS).1|exact (hpc1 hFF _ hS).2.1|exact (hpc1 hFF _ hS).2.2.1|exact (hpc1 hFF _ hS).2.2.2.1|exact (hpc1 hFF _ hS).2.2.2.2.1|exact (hpc1 hFF _ hS).2.2.2.2.2|exact (hpc1 hFF _ hS.unlearn).1|exact (hpc1 hFF _ hS.unlearn).2.1|exact (hpc1 hFF _ hS.unlearn).2.2.1|exact (hpc1 hFF _ hS.unlearn).2.2.2.1|exact (hpc1 hFF _ hS.unlearn).2.2.2.2.1|exact (hpc1 hFF _ hS.unlearn).2.2.2.2.2|exact hS.cell0 Ye) (by first|assumption|exact (hpc1 hFF _ hS).1|exact (hpc1 hFF _ hS).2.1|exact (hpc1 hFF _ hS).2.2.1|exact (hpc1 hFF _ hS).2.2.2.1|exact (hpc1 hFF _ hS).2.2.2.2.1|exact (hpc1 hFF _ hS).2.2.2.2.2|exact (hpc1 hFF _ hS.unlearn).1|exact (hpc1 hFF _ hS.unlearn).2.1|exact (hpc1 hFF _ hS.unlearn).2.2.1|exact (hpc1 hFF _ hS.unlearn).2.2.2.1|exact (hpc1 hFF _ hS.unlearn).2.2.2.2.1|exact (hpc1 hFF _ hS.unlearn).2.2.2.2.2|exact hS.cell0 Ye) (by first|assumption|exact (hpc1 hFF _ hS).1|exact (hpc1 hFF _ hS).2.1|exact (hpc1 hFF _ hS).2.2.1|exact (hpc1 hFF _ hS).2.2.2.1|exact (hpc1 hFF _ hS).2.2.2.2.1|exact (hpc1 hFF _ hS).2.2.2.2.2|exact (hpc1 hFF _ hS.unlearn).1|exact (hpc1 hFF _ hS.unlearn).2.1|exact (hpc1 hFF _ hS.unlearn).2.2.1|exact (hpc1 hFF _ hS.unlearn).2.2.2.1|exact (hpc1 hFF _ hS.unlearn).2.2.2.2.1|exact (hpc1 hFF _ hS.unlearn).2.2.2.2.2|exact hS.cell0 Ye)) rfl ?_
   refine Zcf ?_
   clear hS
   intro b1 wx3 hS
   refine Zc ?_
   clear hS
   intro wx4 hS
   refine Zbv ?_
   refine Zat ?_
   first
    |refine Qa (Qf hS rfl rfl (by first|exact .head|exact .tail .head|exact .tail (.tail .head)|exact .tail (.tail (.tail .head))|exact .tail (.tail (.tail (.tail .head)))|exact .tail (.tail (.tail (.tail (.tail .head))))) Yh) rfl ?_
    |refine Qa (Qm rfl rfl (by first|assumption|exact (hpc1 hFF _ hS).1|exact (hpc1 hFF _ hS).2.1|exact (hpc1 hFF _ hS).2.2.1|exact (hpc1 hFF _ hS).2.2.2.1|exact (hpc1 hFF _ hS).2.2.2.2.1|exact (hpc1 hFF _ hS).2.2.2.2.2|exact (hpc1 hFF _ hS.unlearn).1|exact (hpc1 hFF _ hS.unlearn).2.1|exact (hpc1 hFF _ hS.unlearn).2.2.1|exact (hpc1 hFF _ hS.unlearn).2.2.2.1|exact (hpc1 hFF _ hS.unlearn).2.2.2.2.1|exact (hpc1 hFF _ hS.unlearn).2.2.2.2.2|exact hS.cell0 Ye|exact Qt hS|exact Qu hS)) rfl ?_
   refine Zg6 ?_
   refine QhI 14 15 16 (111::112::113::114::115::116::117::118::119::120::110::121::122::123::[]) (fun v y z w'=>∃(E':List EN) (ok:Bool) (k:Int) (F2:List (World→Prop)),v=Qgk E'∧y= .bool ok∧z= .int .i64 k∧(∀φ∈F',φ∈F2)∧(400<U.w→k<0)∧(U.w≤400→0≤k∧ok=U.ok∧(U.ok=true→QK E'=U.s∧EOk F2 E'))∧St M w0 ((b1,.cells (lcs x).toArray 65)::(pb,.cells (QfK pA X.length pc q p' oA' K'.length oc').toArray 109)::(O'++H)) F2 w') ?_ ?_
   ·intro hmeet
    refine QaS (St _ _ _ _) 17 (.read 0 (.read 1 (.read 2 (.read 3 (.read 5 (.read 6 (.read 7 (.read 8 (.pick 4 (.pick 9 (.read 10 (.read 11 (.read 12 (.read 13 (.read 14 (.read 15 (.read 16 .tail))))))) .none) .none))))))))) Yc Yc hS.drew ?_
    replace hS:=hS.drew
    refine ZbR ?_
    refine ZcI ?_
    refine ZjI ?_
    refine Zhg ?_
    refine Qj rfl (fun _ hS=>Qbm rfl) rfl ?_
    refine ZcI ?_
    refine ZjI ?_
    refine Zh2 ?_
    refine Calls.mono (Qh4 x.hd p'.vars _ hxh (by show x.hd.ar.ts.nodes<_;omega) hS) ?_
    rintro _ w8 ⟨u8,rfl,hu8,hS'⟩
    refine Za ?_
    replace hS:=hS'
    clear hS'
    refine ZjJ ?_
    refine ZeF ?_
    refine Calls.mono (hone _ u8 _ (fun φ h=> .tail _ h) Und.head hu8 hS) ?_
    rintro _ w9 ⟨E9,ok9,k9,F9,rfl,hF9,c19,c29,hS'⟩
    refine Za ?_
    replace hS:=hS'
    clear hS'
    refine ZjJ ?_
    refine ZeG ?_
    refine ZdX ?_
    refine ZcC ?_
    refine ZcC ?_
    refine ZcY ?_
    exact hmeet _ _ _ _ _ ⟨E9,ok9,k9,F9,rfl,rfl,rfl,fun φ h=>hF9 φ (.tail _ h),c19,c29,hS⟩ Yb Yb Yb Yc
   clear hS
   rintro jx _ _ _ w9 ⟨E',ok,k,F2,rfl,rfl,rfl,hF2,c1,c2,hS⟩
   by_cases hw:400<U.w
   ·have hk:=c1 hw
    rw [if_pos hw]
    refine Zdp ?_
    refine Zt ?_
    refine ZP ?_
    refine Calls.mono (Qew pb pA X.length pc q p' 4 _ Ya ⟨K',oA',oc',O',hK',fun x hx=>(hKr' x hx).mono hF2,hrow',hS.drop⟩) ?_
    rintro _ w10 ⟨rfl,hP'⟩
    refine ZD ?_
    refine ZcJ ?_
    exact ⟨F2,rfl,fun φ h=>hF2 φ (hFF φ h),hP'⟩
   rw [if_neg hw] at htry⊢
   obtain ⟨hk,rfl,hok⟩:=c2 Ya
   cases hoo:U.ok with
   |false=>
    rw [hoo] at htry hok
    rw [if_neg Yf] at htry⊢
    refine Zf6 ?_
    refine ZcV ?_
    refine Zt ?_
    refine ZaW ?_
    refine Zg1 ?_
    refine (ih R _ _ _ ?_ ?_ Yb Yc).mono ?_
    ·simp
    ·exact ⟨Dd++[x],p',F2,by rw [hDR];simp,by simp,hen,hfl,hbd,htry,fun φ h=>hF2 φ (hF' φ h),K',oA',oc',O',hK',fun x hx=>(hKr' x hx).mono hF2,hrow',hS.drop⟩
    ·rw [htry];exact fun e w h=>h
   |true=>
    rw [hoo] at htry hok
    rw [if_pos rfl] at htry⊢
    obtain ⟨hE1,hE2⟩:=hok rfl
    have hFF2:∀φ∈F,φ∈F2:=fun φ h=>hF2 φ (hFF φ h)
    have hrr2:=hrr.mono hFF2
    have hxb2:=hxb.mono hF2
    have hnodes:x.bd.ts.length≤5:=v2
    have hbdlen:x.bd.len≤5:=by have:=TA.len_ts x.bd;omega
    simp only [QfK] at hS
    refine Zf6 ?_
    refine ZeH ?_
    refine Zp ?_
    refine Zd1 ?_
    replace hS:=hS.drew
    refine Zeq ?_
    refine ZjK ?_
    refine Zit ?_
    refine ZjK ?_
    refine ZhI ?_
    refine Zbo ?_
    refine Zc5 ?_
    refine ZbL ?_
    clear hS
    intro wx5 hS
    refine Zbv ?_
    refine ZaN ?_
    refine Zd2 ?_
    refine Zcs ?_
    refine Za0 ?_
    refine Zd2 ?_
    refine ZdH ?_
    have hvv:((p'.vars:Nat):Int)+x.vars=((p'.vars+x.vars.toNat:Nat):Int):=by omega
    rw [hvv] at hS
    refine Qx 18 17 (147::148::151::152::153::154::155::156::157::158::159::160::161::149::150::[]) (fun (j:Nat) v u w'=>∃(D2 R2:TA) (gs:List GN) (F3:List (World→Prop)),x.bd=D2.app R2∧D2.len=j∧v= .int .i64 ((j:Nat)-1)∧u=Qe6 gs∧Qam gs=QaX R2.ts p'.vars call (Qam r)∧(∀φ∈F2,φ∈F3)∧Und F3 (TdR gs)∧St M w0 ((b1,.cells (lcs x).toArray 65)::(pb,.cells (QfK pA X.length pc q ⟨p'.fuel,p'.vars+x.vars.toNat,p'.calls,p'.out,p'.ended⟩ oA' K'.length oc').toArray 109)::(O'++H)) F3 w') (fun j=>j) (x.bd.len) ?_ Yb Yb ?_
    ·exact ⟨x.bd,.nil,r,F2,by rw [TA.app_nil],rfl,rfl,rfl,rfl,fun _ h=>h,hrr2,hS⟩
    clear hS
    rintro j _ _ w10 jy ⟨D2,R2,gs,F3,hDR2,hDj,rfl,rfl,hgs,hF3,hpr3,hS⟩ ih2
    have hlen2:x.bd.len=D2.len+R2.len:=by rw [hDR2,TA.len_app]
    cases j with
    |succ j=>
     obtain ⟨D',k1,n1,s1,A1,c1',a1,rfl,hD'⟩:=TA.snoc D2 j hDj
     have hDR':x.bd=D'.app (.cons k1 n1 s1 A1 c1' a1 R2):=by rw [hDR2,TA.app_assoc];rfl
     have hT':=hxb2.mono hF3
     rw [hDR'] at hT'
     have hnod:a1.ts.nodes<x.bd.ts.nodes:=by rw [hDR',TA.app_ts,Ts.nodes_app];simp only [TA.ts,Ts.nodes];omega
     have hsub:Und F3 (LRd ⟨k1,n1,s1,A1,c1',a1⟩):=hT'.imp fun w h=>h.sub
     obtain ⟨b7,o7,hba⟩:=(hS.und hT').some_ (by rw [TA.len_app];simp only [TA.len];omega)
     rw [hba] at hT'
     obtain ⟨z0,z1,z2,z3⟩:=(hS.und hT').cells
     rw [show o7+D'.len*4=o7+(((j+1:Nat):Int)-1).toNat*4 by omega] at z0 z1 z2 z3
     simp only [lcs,hba] at hS
     refine ZdJ ?_
     refine Zbe ?_
     refine Za0 ?_
     refine Zd2 ?_
     refine Zf ?_
     refine Zce ?_
     first
      |refine Qa (Qb (k:=4) hS rfl rfl rfl (by first|exact .head|exact .tail .head|exact .tail (.tail .head)|exact .tail (.tail (.tail .head))|exact .tail (.tail (.tail (.tail .head)))|exact .tail (.tail (.tail (.tail (.tail .head))))) Yh) rfl ?_
      |refine Qa (Qb (k:=4) hS rfl rfl rfl (by first|exact .head|exact .tail .head|exact .tail (.tail .head)|exact .tail (.tail (.tail .head))|exact .tail (.tail (.tail (.tail .head)))|exact .tail (.tail (.tail (.tail (.tail .head))))) Ye) rfl ?_
      |refine Qa (Q7 rfl rfl rfl (by first|assumption|exact (hpc1 hFF2 _ hS).1|exact (hpc1 hFF2 _ hS).2.1|exact (hpc1 hFF2 _ hS).2.2.1|exact (hpc1 hFF2 _ hS).2.2.2.1|exact (hpc1 hFF2 _ hS).2.2.2.2.1|exact (hpc1 hFF2 _ hS).2.2.2.2.2|exact hS.cell0 Ye) (by first|assumption|exact (hpc1 hFF2 _ hS).1|exact (hpc1 hFF2 _ hS).2.1|exact (hpc1 hFF2 _ hS).2.2.1|exact (hpc1 hFF2 _ hS).2.2.2.1|exact (hpc1 hFF2 _ hS).2.2.2.2.1|exact (hpc1 hFF2 _ hS).2.2.2.2.2|exact hS.cell0 Ye) (by first|assumption|exact (hpc1 hFF2 _ hS).1|exact (hpc1 hFF2 _ hS).2.1|exact (hpc1 hFF2 _ hS).2.2.1|exact (hpc1 hFF2 _ hS).2.2.2.1|exact (hpc1 hFF2 _ hS).2.2.2.2.1|exact (hpc1 hFF2 _ hS).2.2.2.2.2|exact hS.cell0 Ye) (by first|assumption|exact (hpc1 hFF2 _ hS).1|exact (hpc1 hFF2 _ hS).2.1|exact (hpc1 hFF2 _ hS).2.2.1|exact (hpc1 hFF2 _ hS).2.2.2.1|exact (hpc1 hFF2 _ hS).2.2.2.2.1|exact (hpc1 hFF2 _ hS).2.2.2.2.2|exact hS.cell0 Ye)) rfl ?_
     refine Za6 ?_
     refine Calls.mono (Qh4 ⟨k1,n1,s1,A1,c1',a1⟩ p'.vars _ hsub (by show a1.ts.nodes<_;omega) hS) ?_
     rintro _ w11 ⟨u,rfl,hu,hS'⟩
     refine Za ?_
     replace hS:=hS'
     clear hS'
     refine ZW ?_
     refine ZgF ?_
     refine ZaX ?_
     clear hS
     intro b2 wx6 hS
     refine ZeD ?_
     replace hS:=hS.freeze
     refine ih2 j _ _ _ _ ?_ ?_ Yb Yb Yc
     ·omega
     ·rw [←hba] at hS
      refine ⟨D',.cons k1 n1 s1 A1 c1' a1 R2,⟨u,call,_⟩::gs,_,hDR',hD',?_,rfl,?_,fun φ h=> .tail _ (.tail _ (hF3 φ h)),?_,hS⟩
      ·congr 1;omega
      ·show (u.tm,call)::Qam gs=_
       rw [hu,hgs];rfl
      ·exact fun w hw=>⟨hw _ (.head _),hw _ (.tail _ (.head _)),hpr3 w fun φ hφ=>hw φ (.tail _ (.tail _ hφ))⟩
    |zero=>
     have hD2:D2= .nil:=by cases D2 with
      |nil=>rfl
      |cons _ _ _ _ _ _ _=>simp [TA.len] at hDj
     subst hD2
     have hRx:R2=x.bd:=by rw [hDR2];rfl
     subst hRx
     clear ih2
     have hcall:=hpr M w0 H F3 gs E' pb ⟨p'.fuel,p'.vars+x.vars.toNat,p'.calls,p'.out,p'.ended⟩
     have hXc':=hX.mono (fun φ h=>hF3 φ (hFF2 φ h))
     have hgd2:∀y∈gs,tgd y.t.tm:=by
      have:=Qkk (v:=x.cl.vars) (m:=p'.vars) (o:=call) (rest:=Qam r) v1 Ya Ya (fun y hy=>by
       obtain ⟨z,hz,rfl⟩:=List.mem_map.1 hy
       exact hg z (.tail _ hz)) x.bd.ts v3
      rw [←Qvx,←hgs] at this
      intro y hy
      exact this (y.t.tm,y.o) (List.mem_map.2 ⟨y,hy,rfl⟩)
     have hBI:BdI C D ⟨p'.fuel,p'.vars+x.vars.toNat,p'.calls,p'.out,p'.ended⟩:=⟨by show p'.vars+x.vars.toNat+8*(p'.fuel+12)≤C+8*p'.out.length;omega,hbd.c,hbn.2,hen⟩
     have hEO:EOk F3 E':=⟨hE2.rd.mono hF3,hE2.ok,hE2.gd⟩
     have hbdo:=Qmj (q:=q) (C:=C) (D:=D) hP24 f (Qam gs) (QK E') _ hBI
     have hfu2:=Qlp (P:=X.map LC.cl) (q:=q) f (Qam gs) (QK E') ⟨p'.fuel,p'.vars+x.vars.toNat,p'.calls,p'.out,p'.ended⟩
     rw [hgs,hE1] at hcall hbdo hfu2
     generalize Qn (X.map LC.cl) q f (QaX x.bd.ts p'.vars call (Qam r)) U.s ⟨p'.fuel,p'.vars+x.vars.toNat,p'.calls,p'.out,p'.ended⟩=Q at*
     obtain ⟨kq,pq⟩:=Q
     dsimp only at hcall hbdo hfu2 htry⊢
     refine ZdI ?_
     refine ZeL ?_
     refine Calls.mono (hcall _ hXc' hpr3 hgd2 hEO hfl hBI ⟨K',oA',oc',O',hK',fun x hx=>(hKr' x hx).mono (fun φ h=>hF3 φ (hF2 φ h)),hrow',hS.drop⟩) ?_
     rintro _ w12 ⟨F4,rfl,hF4,hP4⟩
     refine Za ?_
     clear hS
     have hFF4:∀φ∈F,φ∈F4:=fun φ h=>hF4 φ (hF3 φ (hFF2 φ h))
     obtain ⟨K4,oA4,oc4,O4,hK4,hKr4,hrow4,hS⟩:=hP4
     cases he4:pq.ended with
     |true=>
      rw [if_pos he4] at htry
      rw [if_pos rfl]
      simp only [QfK,he4] at hS
      refine ZeM ?_
      refine ZaN ?_
      refine Zd2 ?_
      refine Z6 ?_
      refine ZcJ ?_
      exact ⟨F4,rfl,hFF4,K4,oA4,oc4,O4,hK4,hKr4,hrow4,by simp only [QfK,he4];exact hS⟩
     |false=>
      have hne4:¬pq.ended=true:=by rw [he4];decide
      rw [if_neg hne4] at htry
      rw [if_neg Yf]
      by_cases hkc:kq=(call:Nat)
      ·rw [if_pos hkc] at htry⊢
       simp only [QfK,he4] at hS
       refine ZeM ?_
       refine ZaN ?_
       refine Zd2 ?_
       refine Zo ?_
       refine ZT ?_
       refine Zr ?_
       refine Z6 ?_
       refine ZcJ ?_
       exact ⟨F4,rfl,hFF4,K4,oA4,oc4,O4,hK4,hKr4,hrow4,by simp only [QfK,he4];exact hS⟩
      rw [if_neg hkc] at htry⊢
      by_cases hk0:0≤kq
      ·rw [if_pos hk0] at htry⊢
       simp only [QfK,he4] at hS
       refine ZeM ?_
       refine ZaN ?_
       refine Zd2 ?_
       refine Zo ?_
       refine ZT ?_
       refine Zan ?_
       refine Zdl ?_
       refine Zt ?_
       refine Zak ?_
       refine ZcJ ?_
       exact ⟨F4,rfl,hFF4,K4,oA4,oc4,O4,hK4,hKr4,hrow4,by simp only [QfK,he4];exact hS⟩
      ·rw [if_neg hk0] at htry⊢
       simp only [QfK,he4] at hS
       refine ZeM ?_
       refine ZaN ?_
       refine Zd2 ?_
       refine Zo ?_
       refine ZT ?_
       refine Zan ?_
       refine Zdl ?_
       refine Zo ?_
       refine Z9 ?_
       refine (ih R _ _ _ ?_ ?_ Yb Yc).mono ?_
       ·simp
       ·exact ⟨Dd++[x],pq,F4,by rw [hDR];simp,by simp,he4,Nat.le_trans hfu2 hfl,hbdo,htry,fun φ h=>hF4 φ (hF3 φ (hF2 φ (hF' φ h))),K4,oA4,oc4,O4,hK4,hKr4,hrow4,by simp only [QfK,he4];exact hS⟩
       ·rw [htry];exact fun e w h=>h
theorem Qlo (hXl:X.length≤24) (hXc:∀x∈X,cB x.cl=true) (hC:C≤30000) (hD:D≤30000) (hq:q≤8):∀f,f≤1000→PrC X pA pc q C D f
 |0,_=>by
  intro M w0 H F gs E pb p w hX hr hg hE hf hB hP
  cases gs with
  |nil=>exact (QnR E pb p w hq hE hB hP)
  |cons g r=>
   refine (QnQ g r E pb p w hB Ya hP).mono ?_
   rintro e w' ⟨rfl,hP'⟩
   exact ⟨F,rfl,fun _ h=>h,hP'⟩
 | f + 1, hf1 => by
  have hpr:=Qlo hXl hXc hC hD hq f Ya
  intro M w0 H F gs E pb p w hX hr hg hE hf hB hP
  cases gs with
  |nil=>exact (QnR E pb p w hq hE hB hP)
  |cons g r=>
   have hpm:Qn (X.map LC.cl) q (f+1) (Qam (g::r)) (QK E) p=if p.fuel=0 then (-1,QfZ 3 p)
     else if Q1 g.t.s.toList g.t.ar.len=true then Qcl (Qn (X.map LC.cl) q f) (g.t.tm,g.o) (Qam r) (QK E) ⟨p.fuel-1,p.vars,p.calls,p.out,p.ended⟩
     else match (X.filter (Qin g.t)).map LC.cl with
      |[]=>(-1,QfZ 5 ⟨p.fuel-1,p.vars,p.calls,p.out,p.ended⟩)
      |c::cs=>Qgx (Qn (X.map LC.cl) q f) (g.t.tm,g.o) (Qam r) (QK E) (p.calls+1) (c::cs) ⟨p.fuel-1,p.vars,p.calls+1,p.out,p.ended⟩:=by
    rw [QyM,←TA.len_ts]
    show Qn (X.map LC.cl) q (f+1) ((g.t.tm,g.o)::Qam r) (QK E) p=_
    rw [Qn]
    congr 1
   rw [hpm]
   by_cases h0:p.fuel=0
   ·rw [if_pos h0]
    refine (QnQ g r E pb p w hB h0 hP).mono ?_
    rintro e w' ⟨rfl,hP'⟩
    exact ⟨F,rfl,fun _ h=>h,hP'⟩
   rw [if_neg h0]
   cases hbt:Q1 g.t.s.toList g.t.ar.len with
   |true=>
    rw [if_pos rfl]
    exact QpD hpr g r E pb p w hX hr hg hE h0 Ya hf hB hbt hP
   |false=>
    rw [if_neg Yf]
    cases hfi:X.filter (Qin g.t) with
    |nil=>
     refine (Qsx g r E pb p w hX hXl hr h0 Ya hB hbt hfi hP).mono ?_
     rintro e w' ⟨rfl,hP'⟩
     exact ⟨F,rfl,fun _ h=>h,hP'⟩
    |cons y z=>
     have:=Qsw hpr g r E pb p w hX hXl hXc hC hD hr hg hE h0 Ya hf hB hbt (by rw [hfi];simp) hP
     rw [hfi] at this
     exact this
end
def Ts.wide:Ts→Prop
 | .nil=>True
 | .cons _ _ _ ar r=>ar.length≤9223372036854775807∧ar.wide∧r.wide
theorem Ts.wide_app (D R:Ts):(D.app R).wide↔D.wide∧R.wide:=by
 induction D with
 |nil=>simp [Ts.app,Ts.wide]
 |cons k n s ar r _ ih=>simp only [Ts.app,Ts.wide,ih];constructor<;>(rintro ⟨h1,h2⟩;simp_all)
theorem Ts.wide_of (T:Ts):T.nodes≤9223372036854775807→T.wide:=by
 induction T with
 |nil=>intro _;trivial
 |cons k n s ar r iha ihr=>
  intro h
  simp only [Ts.nodes] at h
  have:=ar.length_le
  exact ⟨by omega,iha Ya,ihr Ya⟩
def Qv9 (L:List Cl):Prop:=∀c∈L,c.hd.length≤9223372036854775807∧c.hd.wide∧c.bd.length≤9223372036854775807∧c.bd.wide
def QfH (T : Ts) : Prop := ∀ (k n : Int) (s : ByteArray) (v : Value) (L lb vb B : Nat) (w : World), Sl w (fun k => k < B) v T → B ≤ lb → VS lb vb L w → L ≤ 24 → T.length ≤ 9223372036854775807 → T.wide →
    Calls Tryz.prog 132 #[.agg #[.int .i64 k,.int .i64 n,.string s,v],.pointer (some ⟨lb,0,none⟩),.pointer (some ⟨vb,0,none⟩)] w fun e w'=>
     e= .returned (.bool (decide (T.nodes+1≤L)))∧(T.nodes+1≤L→VS lb vb (L-(T.nodes+1)) w')∧Chg (fun k=>k=lb) w w'
def QvZ (w:World) (T:Ts) (L lb vb:Nat) (g:Nat) (sx:Value) (wr:World):Prop:=∃D R:Ts,T=D.app R∧g=R.length∧sx= .int .i64 D.length∧D.nodes+1≤L∧VS lb vb (L-(D.nodes+1)) wr∧Chg (fun k=>k=lb) w wr
set_option maxHeartbeats 1000000 in
theorem Qtn (m:Nat) (ih:∀T:Ts,T.nodes<m→QfH T) (T:Ts) (hm:T.nodes≤m):QfH T:=by
 intro k n s v L lb vb B w hv hBl hvs hL hn hwd
 obtain ⟨A,c,rfl,hs⟩:=hv.form
 have hle:=T.length_le
 have hW:Below w.heap.size w (w.alloc (.cells #[.int .i64 k,.int .i64 n,.string s,.slice A T.length c] 63)):=(Below.refl _ _).alloc (Nat.le_refl _) _
 have hvs1:=hvs.far hW
 have hs1:=hs.below hW
 have bA:=QR.new w 63 #[.int .i64 k,.int .i64 n,.string s,.slice A T.length c]
 have l0:=hvs1.left.cell 0
 have lf:=hvs1.left.frozen 0
 simp at l0
 have hlt:=hvs.left.lt
 by_cases hL0:L=0
 ·subst hL0
  go_enter Tryz.func132,Tryz.ntmps132
  go_wp2_with fail
  go_ret
  exact ⟨rfl,fun h=>absurd h Ya,Chg.of_fresh hW⟩
 have hL1:0<L:=by omega
 obtain ⟨p0,p1,p2,p3,_⟩:=bA.four
 have hne:w.heap.size≠lb:=by omega
 go_enter Tryz.func132,Tryz.ntmps132
 go_wp2_with fail
 have hstart:VS lb vb (L-1) ((w.setCell ⟨lb,0,none⟩ (.int .i64 ((L:Int)-1))).alloc (.cells #[.int .i64 k,.int .i64 n,.string s,.slice A T.length c] 63)):=by
  refine ⟨?_,?_,hvs.ne⟩
  ·have h1:=(hvs.left.set_ 0 (.int .i64 ((L:Int)-1))).alloc (.cells #[.int .i64 k,.int .i64 n,.string s,.slice A T.length c] 63)
   rw [show ((L-1:Nat):Int)=(L:Int)-1 by omega]
   exact h1
  ·exact (hvs.fn.far (p:=⟨lb,0,none⟩) hvs.ne _).alloc _
 have hchg:Chg (fun k=>k=lb) w ((w.setCell ⟨lb,0,none⟩ (.int .i64 ((L:Int)-1))).alloc (.cells #[.int .i64 k,.int .i64 n,.string s,.slice A T.length c] 63)):=
  ((Chg.refl (fun k=>k=lb) w).setCell (p:=⟨lb,0,none⟩) (fun _=>rfl) _).alloc _
 have hcall:∀(args:Array Value) (x:World),(callFunc 132 args).run Tryz.prog x= .ok (.enter 132 args) x:=fun args x=>by simp [go_sem]
 generalize ((w.setCell ⟨lb,0,none⟩ (.int .i64 ((L:Int)-1))).alloc (.cells #[.int .i64 k,.int .i64 n,.string s,.slice A T.length c] 63))=W at*
 have h0:QvZ w T L lb vb T.length (.int .i64 0) W:=⟨.nil,T,rfl,rfl,rfl,hL1,hstart,hchg⟩
 clear hstart hchg hvs1 bA p0 p1 p2 p3 hne l0 lf hs1 hW
 go_loopg [14] T.length (QvZ w T L lb vb)
 case atStart=>exact h0
 case round=>
  clear h0
  obtain ⟨D,R,hT,hg,rfl,hD,hvr,hc⟩:=hrel
  have HT:=Lib.hid hT
  have HG:=Lib.hid hg
  clear hT hg
  have hsr:Sl wr (fun k=>k<B) (.slice A T.length c) T:=hs.chg hc fun k hk=>by omega
  cases R with
  |nil=>
   have eD:D=T:=by rw [HT.out,Ts.app_nil]
   subst eD
   go_wp2_with fail
   go_ret
   refine ⟨?_,fun _=>hvr,hc⟩
   rw [decide_eq_true hD];rfl
  |cons k1 n1 s1 ar r=>
   have e1:D.length<T.length:=by rw [HT.out,Ts.length_app];simp [Ts.length]
   have hnod:T.nodes=D.nodes+(1+ar.nodes+r.nodes):=by rw [HT.out,Ts.nodes_app];simp only [Ts.nodes];omega
   have hwa:ar.length≤9223372036854775807∧ar.wide∧r.wide:=by rw [HT.out,Ts.wide_app] at hwd;exact hwd.2
   rw [HT.out] at hsr
   rw [show (D.app (.cons k1 n1 s1 ar r)).length=T.length by rw [←HT.out]] at hsr
   obtain ⟨b1,o1,rfl,hq1⟩:=Sl.at_ hsr (by simp [Ts.length])
   obtain ⟨_,c10,c11,c12,⟨v1,c13,hv1⟩,_⟩:=Q6.1 hq1
   obtain ⟨A1,d1,rfl,hv1⟩:=hv1.form
   clear hq1 hsr
   have hX:Below wr.heap.size wr (wr.alloc (.cells #[.int .i64 k1,.int .i64 n1,.string s1,.slice A1 ar.length d1] 63)):=(Below.refl _ _).alloc (Nat.le_refl _) _
   have hvx:=hvr.far hX
   have f0:=hvx.fn.cell 0
   simp at f0
   go_wp2_with fail
   have e2:ar.nodes<m:=by omega
   refine (ih ar e2 k1 n1 s1 _ (L-(D.nodes+1)) lb vb B _ (hv1.below hX) hBl hvx Ya hwa.1 hwa.2.1).mono ?_
   rintro e w2 ⟨rfl,hok,hc2⟩
   have hc3:Chg (fun k=>k=lb) w w2:=(hc.trans (Chg.of_fresh (S:=fun k=>k=lb) hX) fun _ _ h=>h).trans hc2 fun _ _ h=>h
   by_cases hx:ar.nodes+1≤L-(D.nodes+1)
   ·have hok:=hok hx
    rw [decide_eq_true hx]
    have hnx:Hid (VS lb vb (L-((D.app (.cons k1 n1 s1 ar .nil)).nodes+1)) w2):=Lib.hid (by
     rw [Ts.nodes_app]
     simp only [Ts.nodes]
     rw [show L-(D.nodes+(ar.nodes+0+1)+1)=L-(D.nodes+1)-(ar.nodes+1) by omega]
     exact hok)
    clear hok
    go_wp2_with fail
    go_roundg r.length
    case measure=>rw [HG.out];simp [Ts.length]
    case rel=>
     refine ⟨D.app (.cons k1 n1 s1 ar .nil),r,?_,rfl,?_,?_,hnx.out,hc3⟩
     ·rw [HT.out,Ts.app_assoc];rfl
     ·rw [Ts.length_app];rfl
     ·rw [Ts.nodes_app];simp only [Ts.nodes];omega
   ·rw [decide_eq_false hx]
    have hbig:Hid (¬T.nodes+1≤L):=Lib.hid Ya
    clear hok
    go_wp2_with fail
    go_ret
    refine ⟨?_,fun h=>absurd h hbig.out,hc3⟩
    rw [decide_eq_false hbig.out];rfl
theorem Qpe (T:Ts):QfH T:=by
 have:∀m,∀T:Ts,T.nodes<m→QfH T:=by
  intro m
  induction m with
  |zero=>intro T h;omega
  |succ m ih=>intro T h;exact Qtn m ih T Ya
 exact this _ T (Nat.lt_succ_self _)
set_option maxHeartbeats 1000000 in
theorem Qve (k n:Int) (s:ByteArray) (T:Ts) (v:Value) (w:World) (hv:Sl w (fun _=>True) v T) (hn:T.length≤9223372036854775807) (hwd:T.wide):
  Calls Tryz.prog 85 #[.agg #[.int .i64 k,.int .i64 n,.string s,v],.int .i64 24] w fun e w'=>e= .returned (.bool (decide (T.nodes+1≤24)))∧Below w.heap.size w w':=by
 obtain ⟨A,c,rfl,hs⟩:=hv.form
 have hs:=hs.imp (q:=fun k=>k<w.heap.size) fun k _ h=>h
 have hW:Below w.heap.size w (((w.alloc (.cells #[.int .i64 k,.int .i64 n,.string s,.slice A T.length c] 63)).alloc (.cells #[.int .i64 24] 3)).alloc (.cells #[.func (.func 132) #[] #[.pointer (some ⟨w.heap.size+1,0,none⟩),.pointer (some ⟨w.heap.size+1+1,0,none⟩)]] 130)):=(((Below.refl _ _).alloc (Nat.le_refl _) _).alloc Yd _).alloc Yg _
 have hst:(store ⟨w.heap.size+1+1,0,none⟩ (.func (.func 132) #[] #[.pointer (some ⟨w.heap.size+1,0,none⟩),.pointer (some ⟨w.heap.size+1+1,0,none⟩)])).run Tryz.prog (((w.alloc (.cells #[.int .i64 k,.int .i64 n,.string s,.slice A T.length c] 63)).alloc (.cells #[.int .i64 24] 3)).alloc (.cells #[.nilFunc] 130))=
   .ok () (((w.alloc (.cells #[.int .i64 k,.int .i64 n,.string s,.slice A T.length c] 63)).alloc (.cells #[.int .i64 24] 3)).alloc (.cells #[.func (.func 132) #[] #[.pointer (some ⟨w.heap.size+1,0,none⟩),.pointer (some ⟨w.heap.size+1+1,0,none⟩)]] 130)):=by
  have hb:=QR.new ((w.alloc (.cells #[.int .i64 k,.int .i64 n,.string s,.slice A T.length c] 63)).alloc (.cells #[.int .i64 24] 3)) 130 #[.nilFunc]
  have e:=Qf7 ((w.alloc (.cells #[.int .i64 k,.int .i64 n,.string s,.slice A T.length c] 63)).alloc (.cells #[.int .i64 24] 3)) .nilFunc (.func (.func 132) #[] #[.pointer (some ⟨w.heap.size+1,0,none⟩),.pointer (some ⟨w.heap.size+1+1,0,none⟩)]) 130
  have h:=QdK (P:=Tryz.prog) (f:= .func 132) (x:= #[]) (y:= #[.pointer (some ⟨w.heap.size+1,0,none⟩),.pointer (some ⟨w.heap.size+1+1,0,none⟩)]) (hb.cell 0) (hb.frozen 0)
  rw [e] at h
  simpa using h
 have hvs:VS (w.heap.size+1) (w.heap.size+1+1) 24 (((w.alloc (.cells #[.int .i64 k,.int .i64 n,.string s,.slice A T.length c] 63)).alloc (.cells #[.int .i64 24] 3)).alloc (.cells #[.func (.func 132) #[] #[.pointer (some ⟨w.heap.size+1,0,none⟩),.pointer (some ⟨w.heap.size+1+1,0,none⟩)]] 130)):=by
  refine ⟨?_,?_,by omega⟩
  ·have:=(QR.new (w.alloc (.cells #[.int .i64 k,.int .i64 n,.string s,.slice A T.length c] 63)) 3 #[.int .i64 24]).alloc (.cells #[.func (.func 132) #[] #[.pointer (some ⟨w.heap.size+1,0,none⟩),.pointer (some ⟨w.heap.size+1+1,0,none⟩)]] 130)
   simpa using this
  ·have:=QR.new ((w.alloc (.cells #[.int .i64 k,.int .i64 n,.string s,.slice A T.length c] 63)).alloc (.cells #[.int .i64 24] 3)) 130 #[.func (.func 132) #[] #[.pointer (some ⟨w.heap.size+1,0,none⟩),.pointer (some ⟨w.heap.size+1+1,0,none⟩)]]
   simpa using this
 have hcall:∀(args:Array Value) (x:World),(callFunc 132 args).run Tryz.prog x= .ok (.enter 132 args) x:=fun args x=>by simp [go_sem]
 go_enter Tryz.func85,Tryz.ntmps85
 go_wp2_with fail
 refine (Qpe T k n s _ 24 (w.heap.size+1) (w.heap.size+1+1) w.heap.size _ (hs.below hW) Ya hvs (Nat.le_refl _) hn hwd).mono ?_
 rintro e w2 ⟨rfl,_,hc⟩
 generalize hfb:decide (T.nodes+1≤24)=fb
 have HFB:=Lib.hid hfb
 clear hfb
 go_wp2_with fail
 go_ret
 refine ⟨by rw [HFB.out];rfl,hW.trans (hc.below Yg fun k hk _=> ?_)⟩
 have e:k=w.heap.size+1:=hk
 omega
set_option maxHeartbeats 1000000 in
theorem QgV (vars k n:Int) (s:ByteArray) (T:Ts) (v:Value) (w:World) (hv:Sl w (fun _=>True) v T) (hn:T.length≤9223372036854775807) (hwd:T.wide):
  Calls Tryz.prog 50 #[.agg #[.int .i64 k,.int .i64 n,.string s,v],.int .i64 vars] w fun e w'=>e= .returned (.bool (gB vars k n s T))∧Below w.heap.size w w':=by
 obtain ⟨A,c,rfl,hs⟩:=hv.form
 generalize hr:gB vars k n s T=rb
 have R:=Lib.hid hr
 clear hr
 go_enter Tryz.func50,Tryz.ntmps50
 go_wp2_with fail
 have hW0:Below w.heap.size w (w.alloc (.cells #[.int .i64 k,.int .i64 n,.string s,.slice A T.length c] 63)):=(Below.refl _ _).alloc (Nat.le_refl _) _
 have bA:=QR.new w 63 #[.int .i64 k,.int .i64 n,.string s,.slice A T.length c]
 generalize (w.alloc (.cells #[.int .i64 k,.int .i64 n,.string s,.slice A T.length c] 63))=W0 at*
 have hs0:=hs.below hW0
 refine (QmM k n s _ W0).mono ?_
 rintro e w1 ⟨rfl,hb1⟩
 have hW1:=hW0.trans (hb1.mono hW0.size)
 have bA1:=bA.below hb1
 have hs1:=hs0.below hb1
 cases hg:Qeu k with
 |false=>
  go_wp2_with fail
  go_ret
  refine ⟨?_,hW1⟩
  rw [←R.out,gB,hg];rfl
 |true=>
  have HGK:=Lib.hid hg
  clear hg
  obtain ⟨p0,p1,p2,p3,_⟩:=bA1.four
  go_wp2_with fail
  refine (Qve k n s T _ _ hs1 hn hwd).mono ?_
  rintro e w2 ⟨rfl,hb2⟩
  have hW2:=hW1.trans (hb2.mono hW1.size)
  have bA2:=bA1.below hb2
  have hs2:=hs1.below hb2
  clear p0 p1 p2 p3
  generalize hf:decide (T.nodes+1≤24)=fb
  have HF:=Lib.hid hf
  clear hf
  obtain ⟨p0,p1,p2,p3,_⟩:=bA2.four
  cases fb with
  |false=>
   go_wp2_with fail
   go_ret
   refine ⟨?_,hW2⟩
   rw [←R.out,gB,HF.out,Bool.and_false];rfl
  |true=>
   go_wp2_with fail
   refine (Qif k n vars s T _ _ hs2 (by have:=of_decide_eq_true HF.out;omega)).mono ?_
   rintro e w3 ⟨rfl,hb3⟩
   generalize hq:(Ts.cons k n s T .nil).good vars=qb
   have HQ:=Lib.hid hq
   clear hq
   go_wp2_with fail
   go_ret
   refine ⟨?_,hW2.trans (hb3.mono hW2.size)⟩
   rw [←R.out,gB,HGK.out,HF.out,HQ.out,Bool.and_true,Bool.true_and];rfl
set_option maxHeartbeats 1000000 in
theorem Qbf (vars:Int) (T:Ts) (v:Value) (w:World) (hv:Sl w (fun _=>True) v T) (hn:T.length≤9223372036854775807) (hwd:T.wide):
  Calls Tryz.prog 29 #[v,.int .i64 vars] w fun e w'=>e= .returned (.bool (qB vars T))∧Below w.heap.size w w':=by
 obtain ⟨A,c,rfl,hs⟩:=hv.form
 have hle:=T.length_le
 generalize hr:qB vars T=rb
 have R:=Lib.hid hr
 clear hr
 by_cases h1:vars<0
 ·have hq:Hid (rb=false):=Lib.hid (by rw [←R.out,qB];simp;omega)
  go_enter Tryz.func29,Tryz.ntmps29
  go_wp2_with fail
  go_ret
  exact ⟨by rw [hq.out];rfl,Below.refl _ _⟩
 by_cases h2:8<vars
 ·have hq:Hid (rb=false):=Lib.hid (by rw [←R.out,qB];simp;omega)
  go_enter Tryz.func29,Tryz.ntmps29
  go_wp2_with fail
  go_ret
  exact ⟨by rw [hq.out];rfl,Below.refl _ _⟩
 by_cases h3:5<T.length
 ·have hq:Hid (rb=false):=Lib.hid (by rw [←R.out,qB];simp;omega)
  go_enter Tryz.func29,Tryz.ntmps29
  go_wp2_with fail
  go_ret
  exact ⟨by rw [hq.out];rfl,Below.refl _ _⟩
 have hq:Hid (rb=T.goals vars):=Lib.hid (by rw [←R.out,qB];simp;omega)
 have hl5:T.length≤5:=by omega
 have h0:QrY w T vars T.length (.int .i64 0) w:=⟨.nil,T,rfl,rfl,rfl,rfl,Below.refl _ _⟩
 go_enter Tryz.func29,Tryz.ntmps29
 go_wp2_with fail
 go_loopg [20] T.length (QrY w T vars)
 case atStart=>exact h0
 case round=>
  clear h0
  obtain ⟨D,R',hT,hg,rfl,hD,hb⟩:=hrel
  have HT:=Lib.hid hT
  have HG:=Lib.hid hg
  have HD:=Lib.hid hD
  clear hT hg hD
  have hsr:=hs.below hb
  cases R' with
  |nil=>
   have eD:D=T:=by rw [HT.out,Ts.app_nil]
   subst eD
   go_wp2_with fail
   go_ret
   exact ⟨by rw [hq.out,HD.out];rfl,hb⟩
  |cons k1 n1 s1 ar r=>
   have e1:D.length<T.length:=by rw [HT.out,Ts.length_app];simp [Ts.length]
   have hwa:ar.length≤9223372036854775807∧ar.wide∧r.wide:=by have:=hwd;rw [HT.out,Ts.wide_app] at this;exact this.2
   rw [HT.out] at hsr
   rw [show (D.app (.cons k1 n1 s1 ar r)).length=T.length by rw [←HT.out]] at hsr
   obtain ⟨b1,o1,rfl,hq1⟩:=Sl.at_ hsr (by simp [Ts.length])
   obtain ⟨_,c10,c11,c12,⟨v1,c13,hv1⟩,_⟩:=Q6.1 hq1
   obtain ⟨A1,d1,rfl,hv1⟩:=hv1.form
   clear hq1 hsr
   have hX:Below wr.heap.size wr (wr.alloc (.cells #[.int .i64 k1,.int .i64 n1,.string s1,.slice A1 ar.length d1] 63)):=(Below.refl _ _).alloc (Nat.le_refl _) _
   have hX':=hb.trans (hX.mono hb.size)
   go_wp2_with fail
   refine (QgV vars k1 n1 s1 ar _ _ (hv1.below hX) hwa.1 hwa.2.1).mono ?_
   rintro e w2 ⟨rfl,hb2⟩
   have hb3:=hX'.trans (hb2.mono hX'.size)
   generalize hgb:gB vars k1 n1 s1 ar=gb
   have HGB:=Lib.hid hgb
   clear hgb
   cases gb with
   |false=>
    go_wp2_with fail
    go_ret
    refine ⟨?_,hb3⟩
    rw [hq.out,HT.out,Ts.goals_app,Ts.goals,HGB.out,Bool.false_and,Bool.and_false];rfl
   |true=>
    go_wp2_with fail
    go_roundg r.length
    case measure=>rw [HG.out];simp [Ts.length]
    case rel=>
     refine ⟨D.app (.cons k1 n1 s1 ar .nil),r,?_,rfl,?_,?_,hb3⟩
     ·rw [HT.out,Ts.app_assoc];rfl
     ·rw [Ts.length_app];rfl
     ·rw [Ts.goals_app,HD.out,Ts.goals,HGB.out];rfl
set_option maxHeartbeats 1000000 in
theorem Qfh (c:Cl) (u v:Value) (w:World) (hu:Sl w (fun _=>True) u c.hd) (hv:Sl w (fun _=>True) v c.bd) (h1:c.hd.length≤9223372036854775807) (h1w:c.hd.wide) (h2:c.bd.length≤9223372036854775807) (h2w:c.bd.wide):
  Calls Tryz.prog 49 #[.agg #[.int .i64 c.k,.int .i64 c.n,.string c.s,u,v,.int .i64 c.vars]] w fun e w'=>e= .returned (.bool (cB c))∧Below w.heap.size w w':=by
 obtain ⟨A,d,rfl,hu⟩:=hu.form
 obtain ⟨A',d',rfl,hv⟩:=hv.form
 generalize hr:cB c=rb
 have R:=Lib.hid hr
 clear hr
 go_enter Tryz.func49,Tryz.ntmps49
 go_wp2_with fail
 have hW0:Below w.heap.size w (w.alloc (.cells #[.int .i64 c.k,.int .i64 c.n,.string c.s,.slice A c.hd.length d,.slice A' c.bd.length d',.int .i64 c.vars] 65)):=(Below.refl _ _).alloc (Nat.le_refl _) _
 have bA:=QR.new w 65 #[.int .i64 c.k,.int .i64 c.n,.string c.s,.slice A c.hd.length d,.slice A' c.bd.length d',.int .i64 c.vars]
 generalize (w.alloc (.cells #[.int .i64 c.k,.int .i64 c.n,.string c.s,.slice A c.hd.length d,.slice A' c.bd.length d',.int .i64 c.vars] 65))=W0 at*
 have hu0:=hu.below hW0
 refine (Qbf c.vars c.bd _ W0 (hv.below hW0) h2 h2w).mono ?_
 rintro e w1 ⟨rfl,hb1⟩
 have hW1:=hW0.trans (hb1.mono hW0.size)
 have bA1:=bA.below hb1
 have hu1:=hu0.below hb1
 generalize hq:qB c.vars c.bd=qb
 have HQ:=Lib.hid hq
 clear hq
 cases qb with
 |false=>
  go_wp2_with fail
  go_ret
  refine ⟨?_,hW1⟩
  rw [←R.out,cB,HQ.out];rfl
 |true=>
  have p0:=bA1.cell 0
  have p1:=bA1.cell 1
  have p2:=bA1.cell 2
  have p3:=bA1.cell 3
  have p5:=bA1.cell 5
  simp at p0 p1 p2 p3 p5
  go_wp2_with fail
  refine (QgV c.vars c.k c.n c.s c.hd _ _ hu1 h1 h1w).mono ?_
  rintro e w2 ⟨rfl,hb2⟩
  have hW2:=hW1.trans (hb2.mono hW1.size)
  have bA2:=bA1.below hb2
  clear p0 p1 p2 p3 p5
  generalize hg:gB c.vars c.k c.n c.s c.hd=gb
  have HGB:=Lib.hid hg
  clear hg
  cases gb with
  |false=>
   go_wp2_with fail
   go_ret
   refine ⟨?_,hW2⟩
   rw [←R.out,cB,HGB.out,Bool.and_false];rfl
  |true=>
   have p0:=bA2.cell 0
   have p1:=bA2.cell 1
   have p2:=bA2.cell 2
   have p3:=bA2.cell 3
   simp at p0 p1 p2 p3
   go_wp2_with fail
   refine (Qgm c.k c.n c.s A c.hd.length d _).mono ?_
   rintro e w3 ⟨rfl,hb3⟩
   generalize hbb:Q1 c.s.toList c.hd.length=bb
   have HBT:=Lib.hid hbb
   clear hbb
   go_wp2_with fail
   go_ret
   refine ⟨?_,hW2.trans (hb3.mono hW2.size)⟩
   rw [←R.out,cB,HQ.out,HGB.out,HBT.out,Bool.true_and];rfl
set_option maxHeartbeats 1000000 in
theorem QbK (L:List Cl) (v:Value) (w:World) (hv:SlC w (fun _=>True) v L) (hn:L.length≤9223372036854775807) (hwd:Qv9 L):
  Calls Tryz.prog 28 #[v] w fun e w'=>e= .returned (.bool (pB L))∧Below w.heap.size w w':=by
 obtain ⟨A,d,rfl,hs⟩:=hv.form
 generalize hr:pB L=rb
 have R:=Lib.hid hr
 clear hr
 by_cases h3:24<L.length
 ·have hq:Hid (rb=false):=Lib.hid (by rw [←R.out,pB];simp;omega)
  go_enter Tryz.func28,Tryz.ntmps28
  go_wp2_with fail
  go_ret
  exact ⟨by rw [hq.out];rfl,Below.refl _ _⟩
 have hq:Hid (rb=L.all cB):=Lib.hid (by rw [←R.out,pB,decide_eq_true Ya,Bool.true_and])
 have h0:QrZ w L L.length (.int .i64 0) w:=⟨[],L,rfl,rfl,rfl,rfl,Below.refl _ _⟩
 go_enter Tryz.func28,Tryz.ntmps28
 go_wp2_with fail
 go_loopg [10] L.length (QrZ w L)
 case atStart=>exact h0
 case round=>
  clear h0
  obtain ⟨D,R',hT,hg,rfl,hD,hb⟩:=hrel
  have HT:=Lib.hid hT
  have HG:=Lib.hid hg
  have HD:=Lib.hid hD
  clear hT hg hD
  have hsr:=hs.below hb
  cases R' with
  |nil=>
   have eD:D=L:=by rw [HT.out,List.append_nil]
   subst eD
   go_wp2_with fail
   go_ret
   exact ⟨by rw [hq.out,HD.out];rfl,hb⟩
  |cons c r=>
   have e1:D.length<L.length:=by rw [HT.out,List.length_append];simp
   have hcw:=hwd c (by rw [HT.out];simp)
   rw [HT.out] at hsr
   rw [show (D++c::r).length=L.length by rw [←HT.out]] at hsr
   obtain ⟨b1,o1,rfl,_,c10,c11,c12,⟨v1,c13,hv1⟩,⟨v2,c14,hv2⟩,c15,_⟩:=SlC.at_ hsr Yd
   obtain ⟨A1,d1,rfl,hv1⟩:=hv1.form
   obtain ⟨A2,d2,rfl,hv2⟩:=hv2.form
   clear hsr
   have hX:Below wr.heap.size wr (wr.alloc (.cells #[.int .i64 c.k,.int .i64 c.n,.string c.s,.slice A1 c.hd.length d1,.slice A2 c.bd.length d2,.int .i64 c.vars] 65)):=(Below.refl _ _).alloc (Nat.le_refl _) _
   have hX':=hb.trans (hX.mono hb.size)
   go_wp2_with fail
   refine (Qfh c _ _ _ (hv1.below hX) (hv2.below hX) hcw.1 hcw.2.1 hcw.2.2.1 hcw.2.2.2).mono ?_
   rintro e w2 ⟨rfl,hb2⟩
   have hb3:=hX'.trans (hb2.mono hX'.size)
   generalize hgb:cB c=gb
   have HGB:=Lib.hid hgb
   clear hgb
   cases gb with
   |false=>
    go_wp2_with fail
    go_ret
    refine ⟨?_,hb3⟩
    rw [hq.out,HT.out,List.all_append,List.all_cons,HGB.out,Bool.false_and,Bool.and_false];rfl
   |true=>
    go_wp2_with fail
    go_roundg r.length
    case measure=>rw [HG.out];simp
    case rel=>
     refine ⟨D++[c],r,?_,rfl,?_,?_,hb3⟩
     ·rw [HT.out,List.append_assoc];rfl
     ·rw [List.length_append];rfl
     ·rw [List.all_append,HD.out,List.all_cons,HGB.out];rfl
end Go.Proofs.YthliapbflkfdiacGreatDoor
