/- Steps of the proof. -/
import Derived.Test.YthliapbflkfdiacGreatDoorG33
import Derived.Deep.Fields
import Derived.OpenShut
namespace Go.Proofs.YthliapbflkfdiacGreatDoor
open Go.RowKit
set_option linter.unusedVariables false
set_option linter.unusedSimpArgs false
set_option maxRecDepth 100000
set_option maxHeartbeats 1000000
theorem Qhs {L:List XL} (hL:Qts L):∀(f:Nat) (i:Int) (p:List Bool×List Nat),(i= -1∨(0≤i∧i<L.length))→p.1.length=L.length→p.2.length+p.1.count false≤L.length→(Qav L f i p).1.length=L.length∧(Qav L f i p).2.length+(Qav L f i p).1.count false≤L.length
 |0,i,p,_,h1,h2=>⟨h1,h2⟩
 |f+1,i,p,hi,h1,h2=>by
  simp only [Qav];by_cases e1:i= -1
  ·rw [if_pos e1];exact ⟨h1,h2⟩
  rw [if_neg e1];by_cases e2:p.1[i.toNat]?=some true
  ·rw [if_pos e2];exact ⟨h1,h2⟩
  rw [if_neg e2];have hi':0≤i∧i<L.length:=hi.resolve_left e1
  have e3:p.1[i.toNat]?=some false:=by
   cases hv:p.1[i.toNat]? with
   |none=>rw [List.getElem?_eq_none_iff] at hv;omega
   |some v=>cases v with
    |true=>exact absurd hv e2
    |false=>rfl
  have hcnt:=QmK e3;exact Qhs hL f _ _ (hL _ (List.mem_of_getElem? (Qek (L:=L) (a:=i.toNat) Ya))) (by simpa using h1) Yl
theorem QiC {L:List XL} (hL:Qts L):∀(C:List XC) (p:List Bool×List Nat),(∀c∈C,c.at_<L.length)→p.1.length=L.length→p.2.length+p.1.count false≤L.length→(QbP L C p).2.length≤L.length
 |[],p,_,h1,h2=>by simp only [QbP];omega
 |c::r,p,hC,h1,h2=>by
  simp only [QbP];obtain ⟨a1,a2⟩:=Qhs hL (L.length+1) (c.at_:Nat) p (.inr ⟨by omega,by have:=hC c (.head _);omega⟩) h1 h2;exact QiC hL r _ (fun c hc=>hC c (.tail _ hc)) a1 a2
theorem Qry {x:XS} (hL:Qts x.ln) (hC:∀c∈x.ch,c.at_<x.ln.length) (hf:x.first= -1∨(0≤x.first∧x.first<x.ln.length)):(QbH x).length≤x.ln.length:=by
 unfold QbH;obtain ⟨a1,a2⟩:=Qhs hL (x.ln.length+1) x.first (List.replicate x.ln.length false,[]) hf Yd Yd;exact QiC hL _ _ (fun c hc=>hC c (List.mem_reverse.1 hc)) a1 a2
def QjJ (L:List XL) (I:List Nat):List Int:=I.map fun i=>(lnk L i).g
theorem Qre (L:List XL) (i:Nat) (g:Int):(QoJ L i g).length=L.length:=by simp [QoJ]
def LX.up (f g:Int→Int) (c:LX):LX:=⟨c.at_,c.cls,c.A,c.c,(f (c.cells:Nat)).toNat,(g (c.bound:Nat)).toNat⟩
theorem Qil {α:Type} (D:List α) (c:α) (R:List α) (f:α→α):(D++c::R).modify D.length f=D++f c::R:=by
 induction D with
 |nil=>rfl
 |cons d D ih=>simp [ih]
theorem QeT (a b:List Int):Qn (a++b)=Qn a++Qn b:=by simp [Qn]
structure Que (vars:Nat) (x:XS) (h':HH) (f g:Int→Int):Prop where
 eq:Qbn x.h (QS vars x) (x.ch.reverse.map fun c=>((c.cells:Nat):Int)) (x.ch.reverse.map fun c=>((c.bound:Nat):Int))=(h',(QS vars x).map f,(x.ch.reverse.map fun c=>((c.cells:Nat):Int)).map f,(x.ch.reverse.map fun c=>((c.bound:Nat):Int)).map g,0)
 fn:∀a,0≤f a
 gn:∀a,0≤g a
theorem Row.anew {el sz g len cap:Nat} {xs' sp:List Value} {xs:List Value} (h:(xs++sp).length=cap*sz) (h1:xs.length=len*sz) (h2:len≤cap) (hp:0<len) (hl:xs'.length=xs.length):Row el sz (.slice (some ⟨g,0,none⟩) len cap) len xs' [(g,.cells (xs'++sp).toArray el)]:=
 Row.own_ Ya (by rw [List.length_append] at h⊢;omega) h2 Ya
section
variable {M:List Nat} {w0:World} {H:List (Nat×Obj)} {F0:List (World→Prop)} {b:Nat} {P:List LB} {pA:Option Addr} {pc vars fuel every:Nat}
theorem Qkv (x:XS) (h':HH) (fT gT:Int→Int) (w:World) (hbd:XBd x) (hL:Qts x.ln) (hlv:∀k∈QbH x,k<x.ln.length) (hLp:0<x.ln.length) (hf:x.first= -1∨(0≤x.first∧x.first<x.ln.length)) (hv8:vars≤8) (ht:Que vars x h' fT gT) (hs:XSt M w0 H F0 b P pA pc vars fuel every x w):
  Calls Tryz.prog 56 #[ptm b] w fun e w'=>e= .returned (.tuple #[])∧XSt M w0 H F0 b P pA pc vars fuel every (Qhr vars x) w':=by
 have hll:=Qry hL (fun c hc=>(hbd.ch c hc).1) hf;have hlnb:=hbd.ln;have hcnb:=hbd.cn
 have hcx:Qhr vars x=⟨h',x.goals,Qc8 (QbH x) ((QjJ x.ln (QbH x)).map fT) x.ln,x.first,(x.ch.map fun c=>⟨c.at_,c.cls,(fT (c.cells:Nat)).toNat,(gT (c.bound:Nat)).toNat⟩),x.ev⟩:=by
  unfold Qhr;rw [ht.eq];dsimp only;rw [List.map_map,List.map_map,QgF,←List.map_reverse,List.reverse_reverse]
  have:((QS vars x).map fT).drop vars=(QjJ x.ln (QbH x)).map fT:=by
   unfold QS;rw [List.map_append,List.drop_left' Yd];rfl
  rw [this];rfl
 rw [hcx];have hroot:QS vars x=(List.range vars).map (fun v=>((v:Nat):Int))++QjJ x.ln (QbH x):=rfl;obtain ⟨d,F,hFF,hok,hS⟩:=hs;refine Qu Tryz.func56 rfl Tryz.ntmps56 rfl ?_;refine Zf ?_;refine Za2 ?_;refine Zq ?_;refine Zcs ?_;refine Zdt ?_;refine Qy 18 2 (19::20::5::21::22::23::24::25::[]) (fun (i:Nat) v u w'=>∃(A:Option Addr) (c:Nat) (O:List (Nat×Obj)),v= .int .i64 (i:Nat)∧u= .slice A i c∧i≤vars∧Row 3 1 (.slice A i c) i (Qn ((List.range i).map fun v=>((v:Nat):Int))) O∧St M w0 ((b,mob P pA pc vars fuel every x d)::(O++(d.O1++(d.O2++(d.O3++H))))) F w') (fun i=>vars-i) (0) ?_ Yb Yb ?_
 ·exact ⟨none,0,[],rfl,rfl,by omega,Row.nil_,hS⟩
 clear hS;rintro i _ _ w2 jv ⟨A,c,O,rfl,rfl,hi,hrow,hS⟩ ih;by_cases hlt:i<vars
 ·refine Zax ?_;refine ZcX ?_;refine Zby ?_;clear hS;intro b1 wx1 hS;refine Zhj ?_;clear hS;intro v8 O8 w8 hrow8 hS;obtain ⟨A8,c8,rfl⟩:=hrow8.form;replace hS:=hS.perm (List.perm_append_comm_assoc O8 [_] _);refine Zap ?_;refine ih (i+1) _ _ _ _ ?_ ?_ Yb Yb Yc
  ·omega
  ·refine ⟨A8,c8,O8,rfl,rfl,by omega,?_,hS⟩;rw [List.range_succ,List.map_append,QeT];exact hrow8
 obtain rfl:vars=i:=by omega
 clear ih hlt hi;refine ZL ?_;refine Zv ?_;replace hS:=hS.perm (.cons _ (Qij O d.O1 d.O2 d.O3 H));refine Zs ?_;refine Calls.mono (QpQ (H:=O++H) (F0:=F) x _ hbd hL hLp hf ⟨d,F,fun _ h=>h,hok,hS⟩) ?_;rintro _ w3 ⟨VA,vc,F1,rfl,hF1,hV1,hq⟩;refine Za ?_;clear hS hok;obtain ⟨d,F2,hF2,hok,hS⟩:=hq;replace hS:=hS.perm (.cons _ (Qij O d.O1 d.O2 d.O3 H).symm);have hV2:=hV1.mono hF2;have hFF2:∀φ∈F0,φ∈F2:=fun φ h=>hF2 φ (hF1 φ (hFF φ h));clear hV1;obtain ⟨hA,hc,hB,hd,LA,lc,O1,cs,CA,cc,O2,evs,EA,ec,O3⟩:=d;have hrow1:Row 101 3 (.slice LA x.ln.length lc) x.ln.length (xlL x.ln) O1:=hok.row1;obtain ⟨gl,sp,rfl,rfl,hcap⟩:=hrow1.some_ hLp;have hlcap:=hrow1.cap;have hcs:cs.map LX.xc=x.ch:=hok.hc
 have hlc:cs.length=x.ch.length:=by rw [←hcs];simp
 have hrow2:Row 151 4 (.slice CA cs.length cc) cs.length (xcL cs.reverse) O2:=hok.row2;generalize hIe:QbH x=I at*;replace hS:St M w0 ((b,mob P pA pc vars fuel every x ⟨hA,hc,hB,hd,some ⟨gl,0,none⟩,lc,[(gl,.cells (xlL x.ln++sp).toArray 101)],cs,CA,cc,O2,evs,EA,ec,O3⟩)::(O++((gl,.cells (xlL x.ln++sp).toArray 101)::(O2++(O3++H))))) F2 _:=hS;refine ZbO ?_;refine Qy 30 2 (31::32::33::8::34::35::36::37::38::39::40::41::42::43::44::45::[]) (fun (R:List Nat) v u w'=>∃(D:List Nat) (A:Option Addr) (c:Nat) (O:List (Nat×Obj)),I=D++R∧v= .int .i64 (D.length:Nat)∧u= .slice A (vars+D.length) c∧Row 3 1 (.slice A (vars+D.length) c) (vars+D.length) (Qn ((List.range vars).map (fun v=>((v:Nat):Int))++QjJ x.ln D)) O∧St M w0 ((b,mob P pA pc vars fuel every x ⟨hA,hc,hB,hd,some ⟨gl,0,none⟩,lc,[(gl,.cells (xlL x.ln++sp).toArray 101)],cs,CA,cc,O2,evs,EA,ec,O3⟩)::(O++((gl,.cells (xlL x.ln++sp).toArray 101)::(O2++(O3++H))))) F2 w') (fun R=>R.length) (I) ?_ Yb Yb ?_
 ·exact ⟨[],A,c,O,rfl,rfl,rfl,by simpa [QjJ] using hrow,hS⟩
 clear hS hrow;rintro R _ _ w4 jv2 ⟨D,A,c,O,hDR,rfl,rfl,hrow,hS⟩ ih
 have hlen:I.length=D.length+R.length:=by rw [hDR];simp
 cases R with
 |cons k R=>
  simp only [List.length_cons] at hlen;obtain ⟨bv,ov,rfl⟩:=(hS.und hV2).some_ Ya;have hkl:=hlv k Y9
  have hk:∀{H'} w',St M w0 H' F2 w'→w'.cell? ⟨bv,ov+((D.length:Nat):Int).toNat*1,none⟩=some (.int .i64 (k:Nat)):=fun w' hS=>by
   have:=(hS.und hV2).get (j:=D.length) (v:= .int .i64 (k:Nat)) (by rw [hDR];simp [Qg8,Qn]);rw [show ((D.length:Nat):Int).toNat*1=D.length by omega];exact this
  obtain ⟨l0,l1,l2⟩:=Qfa x.ln k _ (Qek hkl);have hll':∀{M2 H' F'} w',St M2 w0 H' F' w'→(gl,Obj.cells (xlL x.ln++sp).toArray 101)∈H'→_:=fun {M2 H' F'} w' (hS:St M2 w0 H' F' w') hm=>Row.cell (w:=w') hrow1 hS Yv rfl l0;refine ZbR ?_;refine Zfl ?_;refine Zd ?_;refine ZcX ?_;refine ZB ?_;refine ZeB ?_;refine Zfl ?_;refine Ze ?_;refine Z6 ?_;refine Z3 ?_;refine Zfl ?_;refine Zby ?_;clear hS;intro b1 wx1 hS;refine Zhj ?_;clear hS;intro v8 O8 w8 hrow8 hS;obtain ⟨A8,c8,rfl⟩:=hrow8.form;replace hS:=hS.perm (List.perm_append_comm_assoc O8 [_] _);refine Zap ?_;refine ih (R) _ _ _ _ ?_ ?_ Yb Yb Yc
  ·simp
  ·refine ⟨D++[k],A8,c8,O8,by rw [hDR];simp,by simp,by simp [Nat.add_assoc],?_,hS⟩;have e:QjJ x.ln (D++[k])=QjJ x.ln D++[(lnk x.ln k).g]:=by simp [QjJ]
   rw [e,←List.append_assoc,QeT,List.length_append,←Nat.add_assoc];exact hrow8
 |nil=>
 simp only [List.length_nil] at hlen
 have hID:I=D:=by rw [hDR];simp
 clear ih;obtain ⟨F3,hF3,hR3,hS⟩:=St.freezeRow hrow (hS.perm List.perm_middle.symm);dsimp only [mob,mcs] at hS;refine ZL ?_;refine Zq ?_;refine ZB ?_;refine ZbY ?_;refine Zfl ?_;refine ZN ?_;have hV3:=hV2.mono hF3;have hok3:=hok.mono hF3;have hFF3:∀φ∈F0,φ∈F3:=fun φ h=>hF3 φ (hFF2 φ h);clear hV2 hok hFF2;refine Qfw 51 3 4 (52::53::54::10::55::56::57::58::59::60::61::62::63::64::65::[]) (fun (R:List LX) v u z w'=>∃(D:List LX) (A2:Option Addr) (c2:Nat) (Ot:List (Nat×Obj)) (A3:Option Addr) (c3:Nat) (Om:List (Nat×Obj)),cs.reverse=D++R∧v= .int .i64 (D.length:Nat)∧u= .slice A2 D.length c2∧z= .slice A3 D.length c3∧Row 3 1 (.slice A2 D.length c2) D.length (Qn (D.map fun c=>((c.cells:Nat):Int))) Ot∧Row 3 1 (.slice A3 D.length c3) D.length (Qn (D.map fun c=>((c.bound:Nat):Int))) Om∧St M w0 ((b,mob P pA pc vars fuel every x ⟨hA,hc,hB,hd,some ⟨gl,0,none⟩,lc,[(gl,.cells (xlL x.ln++sp).toArray 101)],cs,CA,cc,O2,evs,EA,ec,O3⟩)::(Ot++(Om++((gl,.cells (xlL x.ln++sp).toArray 101)::(O2++(O3++H)))))) F3 w') (fun R=>R.length) (cs.reverse) ?_ Yb Yb Yb ?_
 ·exact ⟨[],none,0,[],none,0,[],rfl,rfl,rfl,rfl,Row.nil_,Row.nil_,hS⟩
 clear hS;rintro R _ _ _ w5 jv3 ⟨E,A2,c2,Ot,A3,c3,Om,hER,rfl,rfl,rfl,hrt,hrm,hS⟩ ih
 have hlen2:cs.length=E.length+R.length:=by
  have:=congrArg List.length hER;simpa using this
 cases R with
 |cons k R=>
  simp only [List.length_cons] at hlen2;obtain ⟨k0,k1,k2,k3⟩:=QiL cs.reverse E.length k (by rw [hER];simp);obtain ⟨gc,sp2,rfl,rfl,hcap2⟩:=hrow2.some_ Ya;have hcl:∀{M2 H' F'} w',St M2 w0 H' F' w'→(gc,Obj.cells (xcL cs.reverse++sp2).toArray 151)∈H'→_:=fun {M2 H' F'} w' (hS:St M2 w0 H' F' w') hm=>And.intro (Row.cell (w:=w') hrow2 hS Yv rfl k0) (And.intro (Row.cell (w:=w') hrow2 hS Yv rfl k1) (And.intro (Row.cell (w:=w') hrow2 hS Yv rfl k2) (Row.cell (w:=w') hrow2 hS Yv rfl k3)));refine Zb2 ?_;refine Zar ?_;refine ZeD ?_;refine ZG ?_;clear hS;intro b1 wx1 hS;refine Zb ?_;clear hS;intro wx2 hS;refine Zc2 ?_;refine Zam ?_;refine ZeC ?_;refine Zby ?_;clear hS;intro b2 wx3 hS;refine Qb9 (sz:=1) (bts:=8) hS Yb rfl rfl rfl rfl (hrt) rfl rfl (.cons _ (List.perm_append_comm_assoc [_,_] Ot _)) Ya Ya rfl ?_;clear hS;intro v8 O8 w8 hrow8 hS;obtain ⟨A8,c8,rfl⟩:=hrow8.form;replace hS:=hS.perm (List.perm_append_comm_assoc O8 [_,_] _);refine Zd ?_;refine ZT ?_;refine Zba ?_;refine ZeC ?_;refine Zby ?_;clear hS;intro b3 wx4 hS;refine Qb9 (sz:=1) (bts:=8) hS Yb rfl rfl rfl rfl (hrm) rfl rfl (.cons _ (QeL [_,_] O8 Om _)) Ya Ya rfl ?_;clear hS;intro v9 O9 w9 hrow9 hS;obtain ⟨A9,c9,rfl⟩:=hrow9.form;replace hS:=hS.perm (QeL [_,_] O8 O9 _).symm;refine Zap ?_;refine ih (R) _ _ _ _ _ ?_ ?_ Yb Yb Yb Yc
  ·simp
  ·refine ⟨E++[k],A8,c8,O8,A9,c9,O9,by rw [hER];simp,by simp,by simp,by simp,?_,?_,hS.drop⟩
   ·rw [List.map_append,QeT,List.length_append];exact hrow8
   ·rw [List.map_append,QeT,List.length_append];exact hrow9
 |nil=>
 simp only [List.length_nil] at hlen2
 have hEc:cs.reverse=E:=by rw [hER];simp
 clear ih;obtain ⟨F4,hF4,hT4,hS⟩:=St.freezeRow hrt (hS.perm List.perm_middle.symm);obtain ⟨F5,hF5,hK5,hS⟩:=St.freezeRow hrm (hS.perm List.perm_middle.symm);refine ZL ?_;refine Zt ?_;refine ZaF ?_
 first
  |refine Qa (Qb (k:=2) hS rfl rfl rfl Ym Yf) rfl ?_
  |refine Qa (Qb (k:=2) hS rfl rfl rfl Ym Ye) rfl ?_
  |refine Qa (QaP rfl rfl rfl Yaa Yaa) rfl ?_
 refine ZK ?_;refine Ze ?_;have hFF5:∀φ∈F0,φ∈F5:=fun φ h=>hF5 φ (hF4 φ (hFF3 φ h));have hR5:=(hR3.mono hF4).mono hF5;have hT5:=hT4.mono hF5;have hok5:=(hok3.mono hF4).mono hF5;have hV5:=(hV3.mono hF4).mono hF5;clear hT4 hR3 hok3 hV3 hFF3;have hchE:x.ch.reverse=E.map LX.xc:=by rw [←hcs,←List.map_reverse,hEc]
 have teq:=ht.eq;rw [hroot,hID,hchE,List.map_map,List.map_map] at teq
 obtain ⟨Rt,hRt⟩:∃Rt,Rt=(List.range vars).map (fun v=>((v:Nat):Int))++QjJ x.ln D:=⟨_,rfl⟩
 rw [←hRt] at teq hR5
 obtain ⟨Tt,hTt⟩:∃Tt,Tt=E.map (fun c=>((c.cells:Nat):Int)):=⟨_,rfl⟩
 obtain ⟨Kt,hKt⟩:∃Kt,Kt=E.map (fun c=>((c.bound:Nat):Int)):=⟨_,rfl⟩
 rw [←hTt] at hT5;rw [←hKt] at hK5
 replace teq:Qbn x.h Rt Tt Kt=(h',Rt.map fT,Tt.map fT,Kt.map gT,0):=by rw [hTt,hKt];exact teq
 have hRl:Rt.length=vars+D.length:=by rw [hRt];simp [QjJ]
 have hTl:Tt.length=E.length:=by rw [hTt];simp
 have hKl:Kt.length=E.length:=by rw [hKt];simp
 have hElen:E.length=cs.length:=by rw [←hEc];simp
 have hIl:D.length≤x.ln.length:=by rw [←hID];exact hll
 have hcall:∀{H'} w',St M w0 H' F5 w'→Calls Tryz.prog 95 #[hv x.h hA hc hB hd,.slice A (vars+D.length) c,.slice A2 E.length c2,.slice A3 E.length c3] w' fun e w''=>∃(A':Option Addr) (c':Nat) (B':Option Addr) (d':Nat) (a1 a2 a3:Option Addr) (c1 c2 c3:Nat) (F':List (World→Prop)),
   e= .returned (.tuple #[hv h' A' c' B' d',.slice a1 (vars+D.length) c1,.slice a2 E.length c2,.slice a3 E.length c3,.int .i64 0])∧(∀φ∈F5,φ∈F')∧Und F' (HFl h' A' c' B' d')∧Und F' (Qz 1 (Qn (Rt.map fT)) a1 (vars+D.length) c1)∧Und F' (Qz 1 (Qn (Tt.map fT)) a2 E.length c2)∧Und F' (Qz 1 (Qn (Kt.map gT)) a3 E.length c3)∧St M w0 H' F' w'':=by
  intro H' w' hS;have h0:=Qmd x.h Rt Tt Kt hA hB A A2 A3 hc hd c c2 c3 w' hok5.hh (by rw [hRl];exact hR5) (by rw [hTl];exact hT5) (by rw [hKl];exact hK5) Ya Ya Ya hS;rw [teq,hRl,hTl,hKl] at h0;refine h0.mono ?_;rintro e w'' ⟨A',c',B',d',a1,a2,a3,c1,c2,c3,F',he,hF',q1,q2,q3,q4,q5⟩;simp only [List.length_map,hRl,hTl,hKl] at he q2 q3 q4;exact ⟨A',c',B',d',a1,a2,a3,c1,c2,c3,F',he,hF',q1,q2,q3,q4,q5⟩
 refine Zhk ?_;refine Calls.mono (hcall _ hS) ?_;rintro _ w6 ⟨A6,c6,B6,d6,a1,a2,a3,c16,c26,c36,F6,rfl,hF6,hH6,hr6,ht6,hk6,hS'⟩;refine Za ?_;replace hS:=hS';clear hS';have hok6:=hok5.mono hF6;have hV6:=hV5.mono hF6;have hFF6:∀φ∈F0,φ∈F6:=fun φ h=>hF6 φ (hFF5 φ h);clear hcall hok5 hV5 hR5 hT5 hK5 hFF5;refine Zbe ?_;refine Zhq ?_;refine ZeT ?_;refine Zeb ?_;clear hS;intro wx1 hS;refine Za2 ?_;refine Zq ?_;refine ZN ?_;replace hS:St M w0 ((b,mob P pA pc vars fuel every (XS.mk h' x.goals x.ln x.first x.ch x.ev) (XD.mk A6 c6 B6 d6 (some ⟨gl,0,none⟩) lc [] cs CA cc [] evs EA ec []))::((gl,.cells (xlL x.ln++sp).toArray 101)::(O2++(O3++H)))) F6 _:=hS;refine Qr 85 (86::87::88::89::11::12::90::91::92::93::94::95::96::97::98::99::100::101::102::103::104::105::106::[]) (fun (R:List Nat) v w'=>∃(D1:List Nat) (L':List XL),I=D1++R∧v= .int .i64 (D1.length:Nat)∧L'.length=x.ln.length∧Qc8 R ((QjJ x.ln R).map fT) L'=Qc8 I ((QjJ x.ln I).map fT) x.ln∧St M w0 ((b,mob P pA pc vars fuel every (XS.mk h' x.goals x.ln x.first x.ch x.ev) (XD.mk A6 c6 B6 d6 (some ⟨gl,0,none⟩) lc [] cs CA cc [] evs EA ec []))::(gl,.cells (xlL L'++sp).toArray 101)::(O2++(O3++H))) F6 w') (fun R=>R.length) (I) ?_ Yb ?_
 ·exact ⟨[],x.ln,rfl,rfl,rfl,rfl,hS⟩
 clear hS;rintro R _ w7 jv4 ⟨D1,L',hD1,rfl,hLl,heq,hS⟩ ih
 have hlen3:I.length=D1.length+R.length:=by rw [hD1];simp
 cases R with
 |cons k R=>
  simp only [List.length_cons] at hlen3;obtain ⟨bv,ov,rfl⟩:=(hS.und hV6).some_ Ya;obtain ⟨ba,oa,rfl⟩:=(hS.und hr6).some_ (by rw [hID] at hlen3;omega);have hkl:=hlv k (by rw [hD1];simp)
  have hk:∀{H'} w',St M w0 H' F6 w'→w'.cell? ⟨bv,ov+((D1.length:Nat):Int).toNat*1,none⟩=some (.int .i64 (k:Nat)):=fun w' hS=>by
   have:=(hS.und hV6).get (j:=D1.length) (v:= .int .i64 (k:Nat)) (by rw [hD1];simp [Qg8,Qn]);rw [show ((D1.length:Nat):Int).toNat*1=D1.length by omega];exact this
  have hg:∀{H'} w',St M w0 H' F6 w'→w'.cell? ⟨ba,oa+(((vars:Nat):Int)+((D1.length:Nat):Int)).toNat*1,none⟩=some (.int .i64 (fT (lnk x.ln k).g)):=fun w' hS=>by
   have e0:Rt[vars+D1.length]?=some (lnk x.ln k).g:=by
    rw [hRt,List.getElem?_append_right Yd,←hID,hD1];simp [QjJ]
   have:=(hS.und hr6).get (j:=vars+D1.length) (v:= .int .i64 (fT (lnk x.ln k).g)) (by simp [Qn,e0]);rw [show (((vars:Nat):Int)+((D1.length:Nat):Int)).toNat*1=vars+D1.length by omega];exact this
  have hput:=QsB L' sp k (fT (lnk x.ln k).g) Ya;have hIl2:I.length=D.length:=by rw [hID]
  dsimp only [mob,mcs] at hS;refine Zc1 ?_;refine Zhl ?_;refine Zn ?_;refine Zf3 ?_;replace hS:=hS.drew;refine ZR ?_;refine ZeA ?_;refine Zf7 ?_;refine Za7 ?_;refine ZR ?_;refine Zdh ?_;refine Zf7 ?_;refine ZD ?_;refine Ze5 ?_;refine Zfg ?_;refine Zf7 ?_;refine Za0 ?_;refine Z1 ?_;refine ZY ?_;refine ZgU ?_;clear hS;intro w8 hS;refine Zay ?_;refine ih (R) _ _ _ ?_ ?_ Yb Yc
  ·simp
  ·exact ⟨D1++[k],QoJ L' k (fT (lnk x.ln k).g),by rw [hD1];simp,by simp,by rw [Qre];exact hLl,heq,hS⟩
 |nil=>
 clear ih;simp only [List.length_nil] at hlen3;dsimp only [mob,mcs] at hS;refine ZL ?_;refine Zag ?_;refine ZbY ?_;refine Zhl ?_;refine ZN ?_;replace heq:L'=Qc8 I ((QjJ x.ln I).map fT) x.ln:=heq;replace hS:=hS.perm (.cons _ (List.perm_middle (l₁:=O2)).symm);refine Qr 112 (113::114::13::115::116::117::118::119::120::121::122::123::124::125::126::127::128::129::130::131::132::133::134::135::136::137::[]) (fun (R:List LX) v w'=>∃(E1:List LX) (O2':List (Nat×Obj)),E=E1++R∧v= .int .i64 (E1.length:Nat)∧Row 151 4 (.slice CA cs.length cc) cs.length (xcL (E1.map (LX.up fT gT)++R)) O2'∧St M w0 ((b,mob P pA pc vars fuel every (XS.mk h' x.goals x.ln x.first x.ch x.ev) (XD.mk A6 c6 B6 d6 (some ⟨gl,0,none⟩) lc [] cs CA cc [] evs EA ec []))::(O2'++((gl,.cells (xlL L'++sp).toArray 101)::(O3++H)))) F6 w') (fun R=>R.length) (E) ?_ Yb ?_
 ·exact ⟨[],O2,rfl,rfl,by rw [←hEc];exact hrow2,hS⟩
 clear hS;rintro R _ w9 jv5 ⟨E1,O2',hE1,rfl,hrow,hS⟩ ih
 have hlen4:E.length=E1.length+R.length:=by rw [hE1];simp
 cases R with
 |cons k R=>
  simp only [List.length_cons] at hlen4;have hupl:(E1.map (LX.up fT gT)).length=E1.length:=by simp
  generalize hEu:E1.map (LX.up fT gT)=Eu at*;have hcp:=hrow.cap;have hxl:=hrow.len_;obtain ⟨gc,sp2,rfl,rfl,hcap2⟩:=hrow.some_ Ya;obtain ⟨bt,ot,rfl⟩:=(hS.und ht6).some_ Ya;obtain ⟨bk,ok,rfl⟩:=(hS.und hk6).some_ Ya
  have hc1:∀{H'} w',St M w0 H' F6 w'→w'.cell? ⟨bt,ot+((E1.length:Nat):Int).toNat*1,none⟩=some (.int .i64 (((fT (k.cells:Nat)).toNat:Nat):Int)):=fun w' hS=>by
   have:=(hS.und ht6).get (j:=E1.length) (v:= .int .i64 (fT (k.cells:Nat))) (by rw [hTt,hE1];simp [Qn]);rw [show ((E1.length:Nat):Int).toNat*1=E1.length by omega,Int.toNat_of_nonneg (ht.fn _)];exact this
  have hc2:∀{H'} w',St M w0 H' F6 w'→w'.cell? ⟨bk,ok+((E1.length:Nat):Int).toNat*1,none⟩=some (.int .i64 (((gT (k.bound:Nat)).toNat:Nat):Int)):=fun w' hS=>by
   have:=(hS.und hk6).get (j:=E1.length) (v:= .int .i64 (gT (k.bound:Nat))) (by rw [hKt,hE1];simp [Qn]);rw [show ((E1.length:Nat):Int).toNat*1=E1.length by omega,Int.toNat_of_nonneg (ht.gn _)];exact this
  have hp1:Put (xcL (Eu++k::R)++sp2) (E1.length*4+2) (.int .i64 (((fT (k.cells:Nat)).toNat:Nat):Int)) (xcL (Eu++k.cells' (fT (k.cells:Nat)).toNat::R)++sp2):=by
   have:=Qq3 (Eu++k::R) sp2 Eu.length (fT (k.cells:Nat)).toNat Yd
   rwa [Qil,hupl] at this
  have hp2:Put (xcL (Eu++k.cells' (fT (k.cells:Nat)).toNat::R)++sp2) (E1.length*4+3) (.int .i64 (((gT (k.bound:Nat)).toNat:Nat):Int)) (xcL (Eu++(k.cells' (fT (k.cells:Nat)).toNat).bound' (gT (k.bound:Nat)).toNat::R)++sp2):=by
   have:=Qq2 (Eu++k.cells' (fT (k.cells:Nat)).toNat::R) sp2 Eu.length (gT (k.bound:Nat)).toNat Yd
   rwa [Qil,hupl] at this
  replace hS:St M w0 ((b,mob P pA pc vars fuel every (XS.mk h' x.goals x.ln x.first x.ch x.ev) (XD.mk A6 c6 B6 d6 (some ⟨gl,0,none⟩) lc [] cs (some ⟨gc,0,none⟩) cc [] evs EA ec []))::(gc,.cells (xcL (Eu++k::R)++sp2).toArray 151)::((gl,.cells (xlL L'++sp).toArray 101)::(O3++H))) F6 _:=hS;dsimp only [mob,mcs] at hS;refine Zax ?_;refine Zp ?_;refine Zhm ?_;replace hS:=hS.drew;refine ZR ?_;refine Zdq ?_;refine Zfm ?_;refine Za7 ?_;refine ZD ?_;refine Zfg ?_;refine Zfm ?_;refine ZfH ?_;refine Zc7 ?_;refine ZY ?_;refine Qaq hS rfl Yb rfl rfl (.tail .head) (by rw [Nat.zero_add];exact hp1) (.tail .head) ?_;clear hS;intro w10 hS;refine Zc ?_;refine Zhm ?_;replace hS:=hS.drew;refine ZR ?_;refine Zdq ?_;refine Zfm ?_;refine Za7 ?_;refine ZD ?_;refine Zfg ?_;refine Zfm ?_;refine ZfH ?_;refine Zdh ?_;refine ZY ?_;refine Qaq hS rfl Yb rfl rfl (.tail .head) (by rw [Nat.zero_add];exact hp2) (.tail .head) ?_;clear hS;intro w11 hS;refine Zay ?_;refine ih (R) _ _ _ ?_ ?_ Yb Yc
  ·simp
  ·refine ⟨E1++[k],[(gc,.cells (xcL (Eu++(k.cells' (fT (k.cells:Nat)).toNat).bound' (gT (k.bound:Nat)).toNat::R)++sp2).toArray 151)],by rw [hE1];simp,by simp,?_,hS⟩
   have e:(E1++[k]).map (LX.up fT gT)++R=Eu++(k.cells' (fT (k.cells:Nat)).toNat).bound' (gT (k.bound:Nat)).toNat::R:=by rw [List.map_append,hEu];simp [LX.up,LX.cells',LX.bound']
   rw [e];exact Row.anew hcap2 hxl hcp Ya (by rw [Qct,Qct];simp)
 |nil=>
 clear ih;simp only [List.length_nil] at hlen4;refine ZL ?_;refine Qbl Tryz.func56 rfl ?_;refine ⟨rfl,⟨A6,c6,B6,d6,some ⟨gl,0,none⟩,lc,[(gl,.cells (xlL L'++sp).toArray 101)],cs.map (LX.up fT gT),CA,cc,O2',evs,EA,ec,O3⟩,F6,hFF6,⟨hH6,?_,?_,?_,?_,hok6.he,hok6.re,hok6.row3,hok6.rp⟩,?_⟩
 ·show Row _ 3 (.slice (some ⟨gl,0,none⟩) (Qc8 I ((QjJ x.ln I).map fT) x.ln).length lc) (Qc8 I ((QjJ x.ln I).map fT) x.ln).length (xlL (Qc8 I ((QjJ x.ln I).map fT) x.ln)) _;rw [←heq,hLl];exact Row.anew hcap hrow1.len_ hlcap hLp (by rw [Qgq,Qgq,hLl])
 ·show (cs.map (LX.up fT gT)).map LX.xc=_;rw [←hcs,List.map_map,List.map_map];rfl
 ·intro q hq;obtain ⟨q',hq',rfl⟩:=List.mem_map.1 hq;exact hok6.rc q' hq'
 ·show Row _ 4 (.slice CA (cs.map (LX.up fT gT)).length cc) (cs.map (LX.up fT gT)).length (xcL (cs.map (LX.up fT gT)).reverse) O2';rw [List.length_map,←List.map_reverse,hEc];rw [List.append_nil] at hE1 hrow;rw [hE1];exact hrow
 ·have h5:=hS.perm (.cons _ (List.perm_middle (l₁:=O2')))
  have em:mob P pA pc vars fuel every (XS.mk h' x.goals x.ln x.first x.ch x.ev) (XD.mk A6 c6 B6 d6 (some ⟨gl,0,none⟩) lc [] cs CA cc [] evs EA ec [])=mob P pA pc vars fuel every ⟨h',x.goals,Qc8 I ((QjJ x.ln I).map fT) x.ln,x.first,x.ch.map (fun c=>⟨c.at_,c.cls,(fT (c.cells:Nat)).toNat,(gT (c.bound:Nat)).toNat⟩),x.ev⟩ ⟨A6,c6,B6,d6,some ⟨gl,0,none⟩,lc,[(gl,.cells (xlL L'++sp).toArray 101)],cs.map (LX.up fT gT),CA,cc,O2',evs,EA,ec,O3⟩:=by
   show Obj.cells _ _ _=Obj.cells _ _ _;rw [←heq];simp [hLl]
  rw [em] at h5;exact h5
end
set_option maxRecDepth 8000
theorem Qm8 (T:Ts):∀(p:Nat),∀g∈(QaC T p).2,(p:Int)≤g∧g≤(p+(QaC T p).1.length:Nat):=by
 induction T with
 |nil=>intro p g hg;cases hg
 |cons k n s ar r _ ih=>
  intro p g hg;simp only [QaC,List.length_append] at hg⊢;rcases List.mem_cons.1 hg with rfl|hg
  ·omega
  ·have:=ih _ g hg;omega
theorem Qme (c:Cl):(Qt c).length=c.vars.toNat+((QbR c.k c.n c.s c.hd c.vars.toNat).length+(QaC c.bd (c.vars.toNat+(QbR c.k c.n c.s c.hd c.vars.toNat).length)).1.length):=by
 simp only [Qt,List.length_append,Qae]
theorem Qsf {c:Cl} (h:cB c=true):GOk c:=by
 obtain ⟨h0,h1,h2,h3,h4⟩:=QfV h;have hb:=QcP h;rw [Qme] at hb;refine ⟨h0,by omega,by unfold Qar;rw [Qjd];omega,fun g hg=> ?_⟩;have:=Qm8 _ _ g hg;omega
theorem Qs7 {x:LB} (h:cB x.cl=true):x.ok:=by
 obtain ⟨h0,h1,h2,h3,h4⟩:=QfV h;have hb:=QcP h;refine ⟨h0,by omega,by omega,?_⟩
 have e:(Qt x.cl)[x.cl.vars.toNat]?=some (Qhi x.cl):=by
  unfold Qt Qhi;rw [List.getElem?_append_right (by rw [Qae];omega),Qae,Nat.sub_self];unfold QbR;by_cases hk:x.cl.k=3
  ·rw [if_pos hk,if_pos hk];rfl
  ·rw [if_neg hk,if_neg hk];rfl
 unfold hat;rw [if_pos h0];exact e
theorem Qqh {v:Nat} {q:Ts} (h:qB (v:Nat) q=true):(Qa9 (v:Nat) q).length≤1000∧∀g∈Qa9 (v:Nat) q,0≤g∧g≤1000000:=by
 simp only [qB,Bool.and_eq_true,decide_eq_true_eq] at h;obtain ⟨⟨⟨v0,v1⟩,v2⟩,v3⟩:=h;have hn:=Ts.goals_nodes _ _ v3;have hll:=Qje q v;unfold Qa9;rw [Int.toNat_natCast];refine ⟨by rw [Qjd];omega,fun g hg=> ?_⟩;have:=Qm8 _ _ g hg;omega
theorem QW.cls {q f:Nat} {L:List XL}:∀{B:Bnd} {h:HH} {cs:List Ch} {ds:List XC} {n:Nat},QW q f L B h cs ds→Qeo cs n→∀d∈ds,d.cls.length≤QcD cs∧∀c∈d.cls,cB c=true
 |_,_,[],[],_,_,_,d,hd=>by cases hd
 |_,_,c::cs,e::ds,n,⟨R,g,_,_,_,_,b5,_,b7⟩,⟨_,_,_,_,k5,k6⟩,d,hd=>by
  rcases List.mem_cons.1 hd with rfl|hd
  ·rw [b5];exact ⟨by simp only [QcD];omega,k5⟩
  ·obtain ⟨h1,h2⟩:=b7.cls k6 d hd;exact ⟨by simp only [QcD];omega,h2⟩
theorem QhD.goals150 {q F:Nat} {s:SS} {x:XS} (H:QhD q F s x):x.goals≤F∧F≤150:=by
 have:=H.i.fuel;have:=H.i.f150;omega
theorem QhD.bd {q F:Nat} {s:SS} {x:XS} (H:QhD q F s x):XBd x:=by
 have hI:=H.gs.c;have hl:=H.i.ch.len;have h1:=hI.ch.len;have h2:=hI.fr;unfold mu at h2;have h3:=H.i.lsz;refine ⟨by omega,by omega,fun d hd=> ?_⟩;obtain ⟨c1,c2⟩:=H.i.csz d hd;have hg:=H.goals150;obtain ⟨k1,k2⟩:=H.i.ch.cls hI.ch d hd;exact ⟨H.i.ch.at_lt d hd,by omega,by omega,by omega,fun c hc=>Qsf (k2 c hc)⟩
theorem QhD.lnok {q F:Nat} {s:SS} {x:XS} (H:QhD q F s x):Qts x.ln:=by
 intro l hl;obtain ⟨i,hi⟩:=List.mem_iff_getElem?.1 hl;have:=H.i.lnx i l hi
 have hil:i<x.ln.length:=by
  rcases Nat.lt_or_ge i x.ln.length with h|h
  ·exact h
  ·rw [List.getElem?_eq_none h] at hi;cases hi
 omega
theorem at_mem:∀{T:Ts} {i:Nat},i<T.length→T.Mem (T.at_ i)
 | .nil,i,h=>by simp [Ts.length] at h
 | .cons k n s a r,0,h=> .inl rfl
 | .cons k n s a r,i+1,h=> .inr (at_mem (by simpa [Ts.length] using h))
theorem QrB {q f:Nat} {B:Bnd} {h:HH} {R:Tm→Int→Prop} (H:QfG q f B h R) (hB:∀x∈B,tgd x.2) (hl:h.cs.length≤65536) {t:Tm} {a:Int} (ht:R t a) (hg:tgd t):Qf0 h a:=by
 have da:Ql h.cs a=true:=H.bm.db ht;have ho:HOk h:=H.bm.okb;obtain ⟨y,c,h1,h2,h3,h4⟩:=ho.view da;obtain ⟨l1,l2⟩:=Qdv H ht
 have hc:QZ h a=c:=by unfold QZ;rw [h1.look,h2];rfl
 rw [hc] at l1 l2;refine ⟨c,by rw [h1.look];exact h2,?_⟩;have hgc:=QO (Qam ho.gl h2);by_cases hk:c.k=2
 ·have hn:=l2 Ya;have hq:tgd (Qc B t):=Qc7 hB hg;obtain ⟨g1,_⟩:=hq;simp only [Ts.good,Bool.and_eq_true] at g1;have g2:=g1.1.1;unfold Qai at g2;rw [if_neg Ya,if_neg Ya,if_pos Ya] at g2;simp only [Bool.and_eq_true,decide_eq_true_eq] at g2;omega
 ·rcases hgc with ⟨_,b1,b2,_⟩|⟨_,b1,_⟩|⟨b1,_⟩|⟨_,b1,b2,_⟩
  ·omega
  ·omega
  ·exact absurd b1 hk
  ·omega
theorem QhD.stepOk {q F:Nat} {s:SS} {x:XS} (H:QhD q F s x) (hne:x.first≠-1):QqV x:=by
 have hg:=H.goals150;have hcs:=H.cs;have hts:=H.ts;have hlen:x.h.cs.length≤65536:=by omega
 obtain ⟨R,hG,hC⟩:=H.cur
 cases hgs:s.goals with
 |nil=>rw [hgs] at hC;exact absurd hC hne
 |cons g rest=>
  rw [hgs] at hC;obtain ⟨k,l,hk,h2,h3,h4,h5,h6⟩:=hC;have hlk:=Qir h2
  have hkl:k<x.ln.length:=by
   rcases Nat.lt_or_ge k x.ln.length with h|h
   ·exact h
   ·rw [List.getElem?_eq_none h] at h2;cases h2
  obtain ⟨c1,c2,c3,c4,c5,c6,c7,c8⟩:=QeY hG h3;have hgl:=QO (Qam hG.bm.okb.gl c8);have htg:=H.gs.gg g (by rw [hgs];exact List.mem_cons_self ..);have hog:=H.gs.og;rw [hgs] at hog;have hl:=H.i.ch.len;refine ⟨H.bd,hlen,by omega,by omega,by omega,?_,?_⟩
  ·rw [hk,Int.toNat_natCast,hlk,h4];have:=hog.1;omega
  ·rw [hk,Int.toNat_natCast,hlk];refine ⟨_,c8,c5,by omega,fun hb hn=> ?_⟩
   have har:2≤g.1.ar.length:=by
    rw [←c2];unfold QM at hb;rcases hn with e|e
    ·rw [e] at hb;simp at hb;omega
    ·rw [e] at hb;simp at hb;omega
   have hA:∀i,i<g.1.ar.length→Qf0 x.h (l.g+1+(i:Nat)):=fun i hi=>QrB hG H.gs.c.gb hlen (c7 hi) (Qac _ htg _ (at_mem hi));refine ⟨by simpa using hA 0 Ya,by simpa using hA 1 Ya⟩
theorem QhD.told {q F:Nat} {s:SS} {x:XS} (H:QhD q F s x):∃(h':HH) (f g:Int→Int),Que q x h' f g:=by
 obtain ⟨R,hG,hC⟩:=H.cur;have hgd:=H.i.gd
 have hlive:∀k∈QbH x,Ql x.h.cs (lnk x.ln k).g=true:=
  QfA (P:=Pl x.ln x.h.cs) (fun i hi hp=>hp.next i hi) _ _ (fun c hc=>H.i.ch.pl c (List.mem_reverse.1 hc)) (Qe1 (P:=Pl x.ln x.h.cs) (fun i hi hp=>hp.next i hi) _ _ _ ⟨_,_,hC,fun t a ht=>hG.bm.db ht.1⟩ fun k hk=>by cases hk)
 have hroot:∀r∈QS q x,Ql x.h.cs r=true:=by
  intro r hr;unfold QS at hr;rcases List.mem_append.1 hr with hr|hr
  ·obtain ⟨v,hv,rfl⟩:=List.mem_map.1 hr;exact hG.bm.db (hG.qv v (List.mem_range.1 hv))
  ·obtain ⟨k,hk,rfl⟩:=List.mem_map.1 hr;exact hlive k hk
 refine ⟨⟨QaZ (QK x.h.cs (QS q x)) x.h.cs,Qbo (QK x.h.cs (QS q x)) x.h.tr⟩,rkI (QK x.h.cs (QS q x)),rkI (x.h.tr.map (Qq (QK x.h.cs (QS q x)))),?_,fun a=>by show (0:Int)≤(rk _ _:Nat);omega,fun a=>by show (0:Int)≤(rk _ _:Nat);omega⟩;unfold Qbn;rw [if_neg (by rw [hgd];decide),if_neg (by rw [List.all_eq_true.2 hroot];decide)]
theorem QhD.live {q F:Nat} {s:SS} {x:XS} (H:QhD q F s x):(∀k∈QbH x,k<x.ln.length)∧(x.first= -1∨(0≤x.first∧x.first<x.ln.length)):=by
 obtain ⟨R,hG,hC⟩:=H.cur;have hb:=hC.bd;obtain ⟨hI,hf,hcl⟩:=Qp6 H.i.lnx hb.1 hb.2 H.i.ch.at_lt;exact ⟨hI.lt,by omega⟩
def Iv (q F n:Nat) (x:XS):Prop:=∃s:SS,QhD q F s x∧s.ev.length<12∧mu s<n
theorem Iv.start {q:Ts} {v F:Nat} (hq:qB (v:Nat) q=true) (hF:F≤150):Iv v F 4000 (Qdl q (v:Nat)):=by
 obtain ⟨hI,hmu⟩:=QeE hq hF;exact ⟨_,Qj3 hq hF,by simp [QaT],by omega⟩
theorem Iv.next {P:List Cl} {q F every n:Nat} {x:XS} (hp:pB P=true) (h:Iv q F n x):∃n',n=n'+1∧(QaU P q F every x).2.ev.length≤12∧((QaU P q F every x).1=0→Iv q F n' (QaU P q F every x).2):=by
 obtain ⟨s,H,hev,hmu⟩:=h;obtain ⟨h1,h2,h3⟩:=QmH (every:=every) hp H hev;obtain ⟨hst,hst2⟩:=Qfe (vars:=q) H.gs hev hp;have hev3:=Qpb P q s H.gs hev hp;refine ⟨n-1,by omega,by rw [h2];exact hev3,fun h0=> ?_⟩;rw [←h1] at h0;exact ⟨_,h3 h0,hst2 h0,by have:=(hst.go h0).2;omega⟩
set_option maxRecDepth 100000
section
variable {M:List Nat} {w0:World} {H:List (Nat×Obj)} {F:List (World→Prop)}
theorem Qoe {b:Nat} {P:List LB} {pA:Option Addr} {pc vars fuel every n:Nat} {x:XS} (hp:pB (P.map LB.cl)=true) (hIv:Iv vars fuel n x) (hevr:every≤9223372036854775807) (w:World) (hs:XSt M w0 H F b P pA pc vars fuel every x w):
  Calls Tryz.prog 31 #[ptm b] w fun e w'=>e= .returned (.int .i64 (QaU (P.map LB.cl) vars fuel every x).1)∧XSt M w0 H F b P pA pc vars fuel every (QaU (P.map LB.cl) vars fuel every x).2 w':=by
 obtain ⟨s,hR,hev,hmu⟩:=hIv
 have hp2:(P.map LB.cl).length≤24∧∀x∈P.map LB.cl,cB x=true:=by
  unfold pB at hp;simp only [Bool.and_eq_true,decide_eq_true_eq,List.all_eq_true] at hp;exact hp
 have hq8:=hR.i.q8;have hg:=hR.goals150
 have hmb:QhD vars fuel s (QH vars every x)∧(QH vars every x).first=x.first∧(QH vars every x).goals=x.goals:=by
  unfold QH;split
  ·exact Qnp hR
  ·exact ⟨hR,rfl,rfl⟩
 refine QpP x w (fun p hpm=> ?_) (by simpa using hp2.1) hq8 hR.bd (by rw [hR.i.ev];exact hev) Ya hg.1 hevr (fun h1 h2 h3 h4 w2 hs2=> ?_) (fun h1 h2=>⟨?_,hmb.2.2⟩) hs
 ·have:=hp2.2 p.cl (List.mem_map.2 ⟨p,hpm,rfl⟩);exact ⟨Qs7 this,Qsf this⟩
 ·obtain ⟨h',f,g,ht⟩:=hR.told;obtain ⟨hlv,hf⟩:=hR.live;exact Qkv x h' f g w2 hR.bd hR.lnok hlv Ya hf hq8 ht hs2
 ·exact hmb.1.stepOk (by rw [hmb.2.1];exact h1)
theorem Qie (X:List LC) (xA:Option Addr) (xc:Nat) (q:TA) (qA:Option Addr) (qc:Nat) (vars fuel every:Int) (w:World) (hX:Und F (Qes X xA xc)) (hq:Und F (ArA qA qc q))
  (hpl:X.length≤9223372036854775807) (hpw:Qmo (X.map LC.cl)) (hql:q.len≤9223372036854775807) (hqw:q.ts.wide) (hev:every≤9223372036854775807) (hS:St M w0 H F w):
  Calls Tryz.prog 12 #[.slice xA X.length xc,.slice qA q.len qc,.int .i64 vars,.int .i64 fuel,.int .i64 every] w fun e w'=>∃(A:Option Addr) (c:Nat) (L:List KE) (F':List (World→Prop)),e= .returned (.tuple #[.slice A L.length c,.int .i64 (Qlm (X.map LC.cl) q.ts vars fuel every).2])∧L.map KE.ev=(Qlm (X.map LC.cl) q.ts vars fuel every).1∧(∀φ∈F,φ∈F')∧Und F' (KER L A c)∧St M w0 H F' w':=by
 by_cases hp:pB (X.map LC.cl)=true
 case neg=>
  exact Qf9 (fun _ _=>False) X xA xc q qA qc vars fuel every w hX hq (fun w' hS=>Qa1 _ _ w' (hS.und hX).slC (by simpa using hpl) hpw) (fun w' hS=>QaK vars _ _ w' (hS.und hq).sl Yav hqw)
   (fun h=>absurd h hp) (fun h=>absurd h hp) (fun _ _ _ _ _ _ _ _ h=>h.elim) (fun _ _ h=>h.elim) hS
 by_cases hqB:qB vars q.ts=true
 case neg=>
  exact Qf9 (fun _ _=>False) X xA xc q qA qc vars fuel every w hX hq (fun w' hS=>Qa1 _ _ w' (hS.und hX).slC (by simpa using hpl) hpw) (fun w' hS=>QaK vars _ _ w' (hS.und hq).sl Yav hqw)
   (fun _ h=>absurd h hqB) (fun _ h=>absurd h hqB) (fun _ _ _ _ _ _ _ _ h=>h.elim) (fun _ _ h=>h.elim) hS
 by_cases hf:0≤fuel∧fuel≤150
 case neg=>
  exact Qf9 (fun _ _=>False) X xA xc q qA qc vars fuel every w hX hq (fun w' hS=>Qa1 _ _ w' (hS.und hX).slC (by simpa using hpl) hpw) (fun w' hS=>QaK vars _ _ w' (hS.und hq).sl Yav hqw)
   (fun _ _ h1 h2=>absurd ⟨h1,h2⟩ hf) (fun _ _ h1 h2=>absurd ⟨h1,h2⟩ hf) (fun _ _ _ _ _ _ _ _ h=>h.elim) (fun _ _ h=>h.elim) hS
 have hp2:(X.map LC.cl).length≤24∧∀x∈X.map LC.cl,cB x=true:=by
  unfold pB at hp;simp only [Bool.and_eq_true,decide_eq_true_eq,List.all_eq_true] at hp;exact hp
 have hqB2:=hqB;simp only [qB,Bool.and_eq_true,decide_eq_true_eq] at hqB2
 obtain ⟨v,rfl⟩:∃v:Nat,vars=v:=⟨vars.toNat,by omega⟩
 have hgq:=Qqh (v:=v) (q:=q.ts) hqB
 have hXw:∀c∈X,c.hd.ar.len≤9223372036854775807∧c.hd.ar.ts.wide∧c.bd.len≤9223372036854775807∧c.bd.ts.wide:=fun c hc=>by
  have h1:=hpw c.cl (List.mem_map.2 ⟨c,hc,rfl⟩);have h2:=c.hd.ar.len_ts;have h3:=c.bd.len_ts;obtain ⟨a1,a2,a3,a4⟩:=h1;exact ⟨by rw [←h2];exact a1,a2,by rw [←h3];exact a3,a4⟩
 have hpc:∀c∈X,cB c.cl=true:=fun c hc=>hp2.2 c.cl (List.mem_map.2 ⟨c,hc,rfl⟩);have hXl:X.length≤24:=by simpa using hp2.1
 have hst:=Iv.start (q:=q.ts) (v:=v) (F:=fuel.toNat) hqB Ya;have hnew:=fun w' hS=>QhJ (M:=M) (w0:=w0) (H:=H) (F:=F) X xA xc q qA qc v fuel.toNat every.toNat w' hX hq hXl hgq hql hqw hXw hpc hqB hS;have hgp:∀w',St M w0 H F w'→Calls Tryz.prog 28 #[.slice xA X.length xc] w' fun e w''=>e= .returned (.bool (pB (X.map LC.cl)))∧Below w'.heap.size w' w'':=fun w' hS=>Qa1 _ _ w' (hS.und hX).slC (by simpa using hpl) hpw;have hgo:∀w',St M w0 H F w'→Calls Tryz.prog 29 #[.slice qA q.len qc,.int .i64 (v:Nat)] w' fun e w''=>e= .returned (.bool (qB (v:Nat) q.ts))∧Below w'.heap.size w' w'':=fun w' hS=>QaK (v:Nat) _ _ w' (hS.und hq).sl Yav hqw;refine Qf9 (Iv v fuel.toNat) X xA xc q qA qc (v:Nat) fuel every w hX hq hgp hgo (fun _ _ _ _ _ w' hS=> ?_) (fun _ _ _ _ _=>hst) (fun b P pA pc F1 hPX n s hI w' hs=> ?_) (fun n s hI=> ?_) hS
 ·rw [Int.toNat_natCast];exact hnew w' hS
 ·rw [Int.toNat_natCast] at hs⊢;rw [←hPX];exact Qoe (by rw [hPX];exact hp) hI Ya w' hs
 ·rw [Int.toNat_natCast];exact hI.next hp
end
def rPL:List Cl:=[⟨3,0,⟨#[112]⟩,.cons 2 4 ⟨#[]⟩ .nil .nil,.nil,0⟩]
def rQL:Ts:= .cons 3 0 ⟨#[112]⟩ (.cons 0 0 ⟨#[]⟩ .nil .nil) .nil
theorem QlB:Qlm rPL rQL 1 9 1=([(1,.cons 2 4 ⟨#[]⟩ .nil .nil),(2,.nil)],0):=by
 rw [Qmj _ _ _ _ _ Yg];kernel_rfl
theorem Qpi (w:World):Calls Tryz.prog 17 #[] w fun e w'=>e= .returned (.bool true)∧Below w.heap.size w w':=by
 have hS:=St.start w;refine Qma Tryz.func17 rfl Tryz.ntmps17 rfl ?_;refine Zl ?_;refine Zf ?_;refine Zfd ?_;refine Zas ?_;clear hS;intro b1 wx1 hS;refine ZfX ?_;refine Qa (QB (cells:=[_,_,_,_,_,_]) (.cons Yb .nil) rfl) rfl ?_;refine Q5 (cells:=[_,_,_,_,_,_]) hS (.cons Yb .nil) rfl rfl ?_;clear hS;intro b2 wx2 hS;refine Zau ?_;refine Zgp ?_;refine Zas ?_;clear hS;intro b3 wx3 hS;refine ZfX ?_;refine Zas ?_;clear hS;intro b4 wx4 hS;replace hS:=hS.freeze.freeze.freeze.freeze
 obtain ⟨F,k1,k2,k3,k4,hS⟩:∃F:List (World→Prop),Und F (fun w=>w.heap[b1]?=some (.cells [.int .i64 2,.int .i64 4,.string ⟨#[]⟩,.slice none 0 0].toArray 63))∧
   Und F (fun w=>w.heap[b2]?=some (.cells [.int .i64 3,.int .i64 0,.string ⟨#[112]⟩,.slice (some ⟨b1,0,none⟩) 1 1,.slice none 0 0,.int .i64 0].toArray 65))∧
   Und F (fun w=>w.heap[b3]?=some (.cells [.int .i64 0,.int .i64 0,.string ⟨#[]⟩,.slice none 0 0].toArray 63))∧
   Und F (fun w=>w.heap[b4]?=some (.cells [.int .i64 3,.int .i64 0,.string ⟨#[112]⟩,.slice (some ⟨b3,0,none⟩) 1 1].toArray 63))∧St [] w [] F _:=⟨_,Und.head,Und.head.tail,Und.head.tail.tail,Und.head.tail.tail.tail,hS⟩
 have hz:∀w:World,ArA none 0 .nil w:=fun w=>⟨Nat.le_refl _,fun h=>by simp [TA.len] at h⟩
 have hP:Und F (Qes [⟨⟨3,0,⟨#[112]⟩,some ⟨b1,0,none⟩,1,.cons 2 4 ⟨#[]⟩ none 0 .nil .nil⟩,none,0,.nil,0⟩] (some ⟨b2,0,none⟩) 1):=fun w hw=>by
  refine ⟨Nat.le_refl _,fun _=>⟨b2,0,rfl,?_,?_,?_,?_,?_,?_,trivial⟩,fun x hx=> ?_⟩
  iterate 6 (rw [Qv (k2 w hw)];rfl)
  obtain rfl:x=_:=by simpa using hx
  refine ⟨⟨Nat.le_refl _,fun _=>⟨b1,0,rfl,?_,?_,?_,?_,hz w,trivial⟩⟩,hz w⟩
  iterate 4 (rw [Qv (k1 w hw)];rfl)
 have hq:Und F (ArA (some ⟨b4,0,none⟩) 1 (.cons 3 0 ⟨#[112]⟩ (some ⟨b3,0,none⟩) 1 (.cons 0 0 ⟨#[]⟩ none 0 .nil .nil) .nil)):=fun w hw=>by
  refine ⟨Nat.le_refl _,fun _=>⟨b4,0,rfl,?_,?_,?_,?_,⟨Nat.le_refl _,fun _=>⟨b3,0,rfl,?_,?_,?_,?_,hz w,trivial⟩⟩,trivial⟩⟩
  iterate 4 (rw [Qv (k4 w hw)];rfl)
  iterate 4 (rw [Qv (k3 w hw)];rfl)
 have hcall:=Qie (M:=[]) (w0:=w) (H:=[]) (F:=F) _ _ _ _ _ _ 1 9 1 _ hP hq Yd (fun c hc=>by
  obtain rfl:c=_:=by simpa using hc
  exact ⟨(by decide:1≤9223372036854775807),⟨(by decide:0≤9223372036854775807),trivial,trivial⟩,(by decide:0≤9223372036854775807),trivial⟩) (by decide:1≤9223372036854775807) ⟨(by decide:1≤9223372036854775807),⟨(by decide:0≤9223372036854775807),trivial,trivial⟩,trivial⟩ Yg hS
 have hm:=QlB;have e1:Qlm ([⟨⟨3,0,⟨#[112]⟩,some ⟨b1,0,none⟩,1,.cons 2 4 ⟨#[]⟩ none 0 .nil .nil⟩,none,0,.nil,0⟩].map LC.cl) (TA.cons 3 0 ⟨#[112]⟩ (some ⟨b3,0,none⟩) 1 (.cons 0 0 ⟨#[]⟩ none 0 .nil .nil) .nil).ts 1 9 1=([(1,.cons 2 4 ⟨#[]⟩ .nil .nil),(2,.nil)],0):=hm;rw [e1] at hcall;refine Zdp ?_;refine Calls.mono (hcall) ?_;rintro _ w5 ⟨A,c,L,F2,rfl,hL,hFF,hK,hS'⟩;refine Za ?_;replace hS:=hS';clear hS'
 have hlen:L.length=2:=by have:=congrArg List.length hL;simpa using this
 rw [hlen]
 obtain ⟨x0,x1,rfl,h0,h1⟩:∃x0 x1,L=[x0,x1]∧x0.ev=(1,.cons 2 4 ⟨#[]⟩ .nil .nil)∧x1.ev=(2,.nil):=by
  match L,hL with
  |[x0,x1],hL=>simp only [List.map_cons,List.map_nil,List.cons.injEq,and_true] at hL;exact ⟨x0,x1,rfl,hL.1,hL.2⟩
  |[],hL=>simp at hL
  |[_],hL=>simp at hL
  |_::_::_::_,hL=>simp at hL
 obtain ⟨x0k,x0A,x0c,x0T⟩:=x0;obtain ⟨x1k,x1A,x1c,x1T⟩:=x1;simp only [KE.ev,Prod.mk.injEq] at h0 h1;obtain ⟨rfl,h0⟩:=h0;obtain ⟨rfl,h1⟩:=h1
 obtain ⟨tA,tc,ta,tr,rfl⟩:∃A c ar r,x0T= .cons 2 4 ⟨#[]⟩ A c ar r:=by
  cases x0T with
  |nil=>simp [TA.ts] at h0
  |cons k n s A c ar r=>simp only [TA.ts,Ts.cons.injEq] at h0;obtain ⟨rfl,rfl,rfl,_,_⟩:=h0;exact ⟨A,c,ar,r,rfl⟩
 have htr:tr= .nil:=by
  simp only [TA.ts,Ts.cons.injEq] at h0
  cases tr with
  |nil=>rfl
  |cons _ _ _ _ _ _ _=>simp [TA.ts] at h0
 subst htr;obtain ⟨bl,ol,rfl⟩:=(hS.und hK).some_ Yd;obtain ⟨q0,q1⟩:=KER.cells (D:=[]) (hS.und hK);obtain ⟨q2,q3⟩:=KER.cells (D:=[_]) (hS.und hK);have hA0:=(hS.und hK).2.2 _ (.head _);dsimp only at hA0;obtain ⟨bt,ot,rfl⟩:=hA0.some_ Yag;obtain ⟨_,r1,_,_⟩:=ArA.cells (D:= .nil) hA0;replace q1:_=some (Value.slice (some ⟨bt,ot,none⟩) 1 x0c):=q1;refine Zbe ?_;refine Zn ?_;refine Zv ?_;refine Zk ?_;refine Z9 ?_;refine ZbJ ?_;refine Zk ?_;refine ZaJ ?_;refine Zfn ?_;refine Zi ?_;refine Zbg ?_;refine Zcb ?_;refine ZaJ ?_;refine Zfn ?_;refine Zi ?_;refine Zah ?_;refine Zaj ?_;refine ZbJ ?_;refine Zk ?_;refine ZaJ ?_;refine Zfn ?_;refine Zi ?_;refine Zah ?_;refine Zaj ?_;refine Zar ?_;refine Zi ?_;refine Zah ?_;refine Zcb ?_;refine ZaJ ?_;refine Zfn ?_;refine Zi ?_;refine Zbg ?_;refine Zcb ?_;refine Za3 ?_;refine Qg Tryz.func17 rfl Yb ?_;exact ⟨rfl,hS.ext.below⟩
theorem QrW (p:List Cl) (q:Ts) (vars fuel every:Int):(Qlm p q vars fuel every).1.length≤1000∧∀x∈(Qlm p q vars fuel every).1,x.2.nodes≤1073741824:=by
 by_cases h:every<0
 ·rw [QnC _ _ _ _ _ h];split
  ·exact ⟨by simp,fun x hx=>by cases hx⟩
  ·exact ⟨by simp,fun x hx=>by cases hx⟩
 ·rw [Qmj _ _ _ _ _ Ya];exact Qtm p q vars fuel
theorem QtC (p:List Cl) (q:Ts) (vars fuel every:Int):Qlm p q vars fuel every=if (Qhy p q vars fuel).2=0∧every<0 then ([],2) else Qhy p q vars fuel:=by
 by_cases h:every<0
 ·rw [QnC _ _ _ _ _ h];by_cases h0:(Qhy p q vars fuel).2=0
  ·obtain ⟨hp,hq,_⟩:=Qsr h0;rw [if_neg (by rw [hp,hq];simp),if_pos ⟨h0,h⟩]
  ·have e:(if (Qhy p q vars fuel).2=0∧every<0 then (([],2):List Ev×Int) else Qhy p q vars fuel)=Qhy p q vars fuel:=if_neg (fun hh=>h0 hh.1);rw [e];unfold Qhy at h0⊢;split
   ·rfl
   ·rename_i hb;rw [if_neg hb] at h0;split
    ·rfl
    ·rename_i hf;rw [if_neg hf] at h0;exact absurd rfl h0
 ·rw [Qmj _ _ _ _ _ Ya,if_neg (fun hh=>h hh.2)]
section
variable {M:List Nat} {w0:World} {H:List (Nat×Obj)} {F:List (World→Prop)}
theorem QsV (X:List LC) (pA:Option Addr) (pc:Nat) (T:TA) (qA:Option Addr) (qc:Nat) (vars fuel every:Int) (w:World) (hX:Und F (Qes X pA pc)) (hT:Und F (ArA qA qc T)) (hn:QaI (X.map LC.cl)≤1048576) (hn2:T.ts.nodes≤1048576) (hS:St M w0 H F w):
  Calls Tryz.prog 15 #[.slice pA X.length pc,.slice qA T.len qc,.int .i64 vars,.int .i64 fuel,.int .i64 every] w fun e w'=>∃(A:Option Addr) (c:Nat) (L:List KE) (F':List (World→Prop)),e= .returned (.tuple #[.slice A L.length c,.int .i64 (Qlm (X.map LC.cl) T.ts vars fuel every).2])∧L.map KE.ev=(Qlm (X.map LC.cl) T.ts vars fuel every).1∧(∀φ∈F,φ∈F')∧Und F' (KER L A c)∧St M w0 H F' w':=by
 have hnil:∀w:World,KER [] none 0 w:=fun w=>⟨Nat.le_refl _,fun h=>by simp at h,fun x hx=>by cases hx⟩
 have hsolved:=fun (w:World) (hS:St M w0 H F w)=>QnP X pA pc T qA qc vars fuel w hX hT hn hn2 hS;rw [Qpc] at hsolved;rw [QtC];refine Qcd Tryz.func15 rfl Tryz.ntmps15 rfl ?_;refine Zf ?_;refine Zn ?_;refine Zt ?_;refine ZK ?_;refine Zhk ?_;refine Calls.mono (hsolved _ hS) ?_;rintro _ w3 ⟨A9,c9,L9,F9,rfl,hL9,hF9,hK9,hS'⟩;refine Za ?_;replace hS:=hS';clear hS';generalize Qhy (X.map LC.cl) T.ts vars fuel=r at*;by_cases h0:r.2=0
 ·by_cases h1:every<0
  ·rw [if_pos ⟨h0,h1⟩];refine Zcq ?_;refine Zk ?_;refine Z9 ?_;refine ZH ?_;refine Zbo ?_;refine Zf8 ?_;exact ⟨none,0,[],F9,rfl,rfl,hF9,fun w _=>hnil w,hS⟩
  ·rw [if_neg (fun hh=>h1 hh.2)];refine Zcq ?_;refine Zk ?_;refine Z9 ?_;refine ZH ?_;refine ZU ?_;refine Zt ?_;refine Zn ?_;refine Zf8 ?_;exact ⟨A9,c9,L9,F9,rfl,hL9,hF9,hK9,hS⟩
 ·rw [if_neg (fun hh=>h0 hh.1)];refine Zcq ?_;refine Zk ?_;refine ZaP ?_;refine ZU ?_;refine Zt ?_;refine Zn ?_;refine Zf8 ?_;exact ⟨A9,c9,L9,F9,rfl,hL9,hF9,hK9,hS⟩
end
theorem QiX (L:List Cl) (T:Ts) (u v:Value) (vars fuel every:Int) (w:World) (hu:SlC w (fun _=>True) u L) (hv:Sl w (fun _=>True) v T) (hn:QaI L≤1048576) (hn2:T.nodes≤1048576) (hev:every≤9223372036854775807):
  Calls Tryz.prog 3 #[u,v,.int .i64 vars,.int .i64 fuel,.int .i64 every] w fun e w'=>e= .returned (.bool true)∧Below w.heap.size w w':=by
 have hS:=St.start w;obtain ⟨pA,pc,X,rfl,rfl,hXr⟩:=hu.locate;obtain ⟨qA,qc,Y,rfl,rfl,hYr⟩:=hv.locate;replace hS:=hS.base (φ:=Qes X pA pc) fun w2 hx=>hXr w2 fun k hk hl=>hx.block k hl Yd;replace hS:=hS.base (φ:=ArA qA qc Y) fun w2 hx=>hYr w2 fun k hk hl=>hx.block k hl Yd;have hrX:Und [ArA qA qc Y,Qes X pA pc] (Qes X pA pc):=Und.head.tail;have hrY:Und [ArA qA qc Y,Qes X pA pc] (ArA qA qc Y):=Und.head;clear hXr hYr hu hv;generalize [ArA qA qc Y,Qes X pA pc]=F at*;obtain ⟨few1,few2⟩:=QrW (X.map LC.cl) Y.ts vars fuel every;refine Qcd Tryz.func3 rfl Tryz.ntmps3 rfl ?_;refine Zl ?_;refine Za8 ?_;refine Calls.mono (QlM (X.map LC.cl) _ _ (hS.und hrX).slC hn) ?_;rintro _ w2 ⟨u2,rfl,hu2,hb2⟩;refine Za ?_;obtain ⟨A3,c3,X3,rfl,e3,hS3⟩:=hS.locatedC hb2 hu2;clear hS
 obtain ⟨F3,hF3,hr3,hS⟩:∃F3:List (World→Prop),(∀φ∈F,φ∈F3)∧Und F3 (Qes X3 A3 c3)∧St _ _ _ F3 _:=⟨_,fun φ h=> .tail _ h,Und.head,hS3⟩
 clear hS3 hu2 hb2;refine Ze ?_;refine Zs ?_;refine Calls.mono (Qhp Y.ts _ _ (hS.und (hrY.mono hF3)).sl hn2) ?_;rintro _ w7 ⟨v7,rfl,hsl7,hb7⟩;refine Za ?_;obtain ⟨A7,c7,Y7,rfl,e7,hS'⟩:=hS.located hb7 hsl7;clear hS
 obtain ⟨F7,hF7,hr7,hS⟩:∃F7:List (World→Prop),(∀φ∈F3,φ∈F7)∧Und F7 (ArA A7 c7 Y7)∧St _ _ _ F7 _:=⟨_,fun φ h=> .tail _ h,Und.head,hS'⟩
 clear hS' hsl7 hb7;refine ZK ?_;refine Ze ?_;have hall:=Qie X3 A3 c3 Y7 A7 c7 vars fuel every _ (hr3.mono hF7) hr7 (by have:=Qob (X.map LC.cl);rw [←e3] at this;simp at this;rw [e3] at this;omega) (by rw [e3];exact QiA _ hn) (by rw [←TA.len_ts,e7];exact (QdM _ hn2).1) (by rw [e7];exact (QdM _ hn2).2) hev hS;rw [e3,e7] at hall;refine Zdp ?_;refine Calls.mono (hall) ?_;rintro _ w8 ⟨A8,c8,L8,F8,rfl,hL8,hF8,hK8,hS'⟩;refine Za ?_;replace hS:=hS';clear hS';refine Zbe ?_;refine Zn ?_;refine Zt ?_;refine ZK ?_;refine Ze ?_;refine Zdp ?_;refine Calls.mono (QsV X pA pc Y qA qc vars fuel every _ (((hrX.mono hF3).mono hF7).mono hF8) (((hrY.mono hF3).mono hF7).mono hF8) hn hn2 hS) ?_;rintro _ w9 ⟨A9,c9,L9,F9,rfl,hL9,hF9,hK9,hS'⟩;refine Za ?_;replace hS:=hS';clear hS';refine Zbe ?_;refine Zn ?_;refine Zbm ?_;refine Calls.mono (QgI L8 L9 A8 A9 c8 c9 _ (hS.und (hK8.mono hF9)) (hS.und hK9) (hL8.trans hL9.symm) (by have:=congrArg List.length hL8;rw [List.length_map] at this;omega) (fun x hx=>few2 x.ev (by rw [←hL8];exact List.mem_map.2 ⟨x,hx,rfl⟩))) ?_;rintro _ w10 ⟨rfl,hb10⟩;refine Za ?_;replace hS:=hS.grow hb10;refine Z9 ?_;refine ZA ?_;refine Zk ?_;refine Zfw ?_;refine Qb8 (QdJ Yc Qjy) rfl ?_;refine Calls.mono (Qpi _) ?_;rintro _ w13 ⟨rfl,hb13⟩;refine Za ?_;replace hS:=hS.grow hb13;refine Za3 ?_;refine Qg Tryz.func3 rfl Yb ?_;exact ⟨rfl,hS.ext.below⟩
open Go.ChangeShapes Go.WideShapes Go.ChangeAt
theorem Tryz.laidOut:laidOutB Tryz.prog=true:=by kernel_rfl
theorem Tryz.own:ownKnob Tryz.prog.godebug=none:=by kernel_rfl
theorem QfB:Tryz.prog.cellsOf 63=4:=by kernel_rfl
theorem Qk4:Tryz.prog.cellsOf 3=1:=by kernel_rfl
theorem Qk3:Tryz.prog.cellsOf 9=1:=by kernel_rfl
theorem Qht:Tryz.prog.cellsOf 23=1:=by kernel_rfl
section
variable {H:Type} {enc:TypeId×Value→H} {w:World} {base:Nat} {spare:Nat→Bool} {held:Bool}
theorem Qnt (d:DataW H):1≤Rows.uptoBulk d:=by
 cases d with
 |lit l=>cases l<;>simp [Rows.uptoBulk]
 |nil=>simp [Rows.uptoBulk]
 |ptr d=>simp [Rows.uptoBulk]
 |slice elems spare=>simp [Rows.uptoBulk]
 |agg parts=>simp [Rows.uptoBulk]
 |iface t d=>simp [Rows.uptoBulk]
 |map entries=>simp [Rows.uptoBulk]
 |held h=>simp [Rows.uptoBulk]
theorem QrT {l:List (DataW H)}:∀{i:Nat} {d:DataW H},l[i]?=some d→Rows.uptoBulk d≤Rows.uptoBulkAll l:=by
 induction l with
 |nil=>intro i d h;simp at h
 |cons x r ih=>
  intro i d h
  cases i with
  |zero=>simp at h;subst h;simp [Rows.uptoBulkAll]
  |succ i=>
   have:=ih (i:=i) (d:=d) YY;simp only [Rows.uptoBulkAll];omega
theorem Qfm {fuel:Nat} {cs:List Value} {x:DataW H×List MemPlace} (h:DataW.trod enc Tryz.prog w base spare held fuel 63 cs=some x):
  ∃(k n:Int) (s:ByteArray) (v:Value) (y:DataW H×List MemPlace) (m:Nat),cs=[.int .i64 k,.int .i64 n,.string s,v]∧DataW.trod enc Tryz.prog w base spare held m 23 [v]=some y∧
   Rows.uptoBulk y.1+1≤Rows.uptoBulk x.1∧(Lit.int .i64 k).wf=true∧(Lit.int .i64 n).wf=true∧s.size≤maxLen∧s.size+Rows.uptoBulk y.1+3≤Rows.uptoBulk x.1:=by
 obtain ⟨xs,m,_,hx,hlen,hxl,hf⟩:=DataW.trod_struct Tryz.underlying63 h;rw [QfB] at hlen;have f0:DataW.trod enc Tryz.prog w base spare held m 3 ((cs.drop 0).take (Tryz.prog.cellsOf 3))=xs[0]?:=hf 0 _ rfl;have f1:DataW.trod enc Tryz.prog w base spare held m 3 ((cs.drop 1).take (Tryz.prog.cellsOf 3))=xs[1]?:=hf 1 _ rfl;have f2:DataW.trod enc Tryz.prog w base spare held m 9 ((cs.drop 2).take (Tryz.prog.cellsOf 9))=xs[2]?:=hf 2 _ rfl;have f3:DataW.trod enc Tryz.prog w base spare held m 23 ((cs.drop 3).take (Tryz.prog.cellsOf 23))=xs[3]?:=hf 3 _ rfl;rw [Qk4] at f0 f1;rw [Qk3] at f2;rw [Qht] at f3
 match cs,hlen,xs,hxl,hx with
 |[c0,c1,c2,c3],_,[y0,y1,y2,y3],_,hx=>
  simp only [List.drop_zero,List.drop_succ_cons,List.take_succ_cons,List.take_zero,List.getElem?_cons_zero,List.getElem?_cons_succ] at f0 f1 f2 f3;obtain ⟨k,e0,r0,w0⟩:=DataW.trod_int Tryz.underlying3 f0;obtain ⟨n,e1,r1,w1⟩:=DataW.trod_int Tryz.underlying3 f1;obtain ⟨s,e2,r2,w2⟩:=DataW.trod_string Tryz.underlying9 f2;simp only [List.cons.injEq,and_true] at e0 e1 e2;subst e0 e1 e2 hx r0 r1 r2;have h3:=Qnt y3.1
  have hsz:s.data.toList.length=s.size:=by rw [Array.length_toList];rfl
  refine ⟨k,n,s,c3,y3,m,rfl,f3,?_,w0,w1,w2,?_⟩
  ·simp only [List.map_cons,List.map_nil,Rows.uptoBulk,Rows.uptoBulkAll];omega
  ·simp only [List.map_cons,List.map_nil,Rows.uptoBulk,Rows.uptoBulkAll];omega
theorem QnH {a:Addr} {i:Nat} {u:Value} (h:w.cell? (a.add i)=some u) (ha:a.spot=none):w.cell? ⟨a.block,a.off+i,none⟩=some u:=by
 unfold Addr.add at h;split at h
 ·rename_i e;subst e;obtain ⟨b,o,sp⟩:=a;simp only at ha;subst ha;simpa using h
 ·exact h
theorem Qfl:∀(b fuel:Nat) (v:Value) (x:DataW H×List MemPlace),Rows.uptoBulk x.1≤b→DataW.trod enc Tryz.prog w base spare held fuel 23 [v]=some x→
  ∃T:Ts,Sl w (fun _=>True) v T∧T.nodes<Rows.uptoBulk x.1:=by
 intro b
 induction b with
 |zero=>intro fuel v x hb _;have:=Qnt x.1;omega
 |succ b ih=>
  intro fuel v x hb h;rcases Deep.open_slice Tryz.underlying23 h with ⟨e,rfl⟩|⟨a,len,cap,m,n,D,Pl,e,_,hl,_,hm,rfl,hi⟩
  ·simp only [List.cons.injEq,and_true] at e;subst e;exact ⟨.nil,Sl.nil _ _,by simp [Rows.uptoBulk,Ts.nodes]⟩
  ·simp only [List.cons.injEq,and_true] at e;subst e;rw [QfB] at hi
   have hml:len≤m:=by rw [hm];split<;>omega
   have hbulk:∀j,j<len→Rows.uptoBulk (D j)≤Rows.uptoBulkAll ((List.range len).map D):=fun j hj=>QrT (i:=j) (by simp [hj]);simp only [Rows.uptoBulk] at hb⊢
   have hspot:0<len→a.spot=none:=fun hp=>by
    obtain ⟨cs,hc,ht⟩:=hi 0 Ya;obtain ⟨k,n',s,v',y,m',rfl,_⟩:=Qfm ht;obtain ⟨_,_,hat⟩:=World.cells?_some hc;have h0:=hat 0 Ya;simp only [Nat.zero_mul,Addr.add,if_true,List.getElem?_cons_zero] at h0;unfold World.cell? at h0;split at h0
    ·split at h0
     ·cases h0
     ·rename_i hs;simpa using hs
    ·cases h0
   have key:∀r j,j+r=len→∃T:Ts,T.length=r∧Seg w (fun _=>True) T a.block (a.off+j*4)∧T.nodes≤Rows.uptoBulkAll ((List.range' j r).map D):=by
    intro r
    induction r with
    |zero=>intro j _;exact ⟨.nil,rfl,trivial,Nat.zero_le _⟩
    |succ r ihr=>
     intro j hj;obtain ⟨T,hT1,hT2,hT3⟩:=ihr (j+1) Ya;obtain ⟨cs,hc,ht⟩:=hi j Ya;obtain ⟨k,n',s,v',y,m',rfl,hy,hyb,_⟩:=Qfm ht;obtain ⟨_,_,hat⟩:=World.cells?_some hc;have hbj:=hbulk j Ya;simp only at hyb;obtain ⟨U,hU1,hU2⟩:=ih m' v' y Ya hy;have hsp:=hspot Ya
     have hcell:∀q u,q<4→[Value.int .i64 k,.int .i64 n',.string s,v'][q]?=some u→w.cell? ⟨a.block,a.off+j*4+q,none⟩=some u:=fun q u hq hu=>by
      have h1:=(hat q hq).trans hu;rw [Deep.add_add] at h1;have h2:=QnH h1 hsp
      rwa [←Nat.add_assoc] at h2
     refine ⟨.cons k n' s U T,by simp [Ts.length,hT1],?_,?_⟩
     ·refine QL.2 ⟨trivial,by simpa using hcell 0 _ Ya rfl,hcell 1 _ Ya rfl,hcell 2 _ Ya rfl,⟨v',hcell 3 _ Ya rfl,hU1⟩,?_⟩;rw [show a.off+j*4+4=a.off+(j+1)*4 by omega];exact hT2
     ·simp only [List.range'_succ,List.map_cons,Rows.uptoBulkAll,Ts.nodes];omega
   obtain ⟨T,h1,h2,h3⟩:=key len 0 Ya;refine ⟨T,⟨some a,cap,by rw [h1],by omega,fun hp=>⟨a.block,a.off,?_,by simpa using h2⟩⟩,?_⟩
   ·have:=hspot Ya;obtain ⟨b',o',sp⟩:=a;simp only at this;rw [this]
   ·rw [←List.range_eq_range'] at h3;omega
end
theorem Qi3 {H:Type} {enc:TypeId×Value→H} {W:World} {v:Value} {d:DataW H} {p:List MemPlace} (hv:v.cells.toList=[v]) (h:DataW.Trod enc Tryz.prog W 0 (fun _=>true) true 23 v d p):
  ∃T:Ts,Sl W (fun _=>True) v T∧T.nodes<Rows.uptoBulk d:=by
 obtain ⟨fuel,hf⟩:=h;rw [hv] at hf;exact Qfl _ fuel v _ (Nat.le_refl _) hf
theorem QeC {H:Type} {enc:TypeId×Value→H} {P:Program} (hl:laidOutB P=true) {W W':World} (hb:Below W.heap.size W W'):∀{ts:List TypeId} {vs:List Value} {ds:List (DataW H)} {ps:List MemPlace},(∀t∈ts,P.readableRec t=true∧t<P.types.size)→
  DataW.TrodAll enc P W 0 (fun _=>true) true ts vs ds ps→(∀x∈ps,x.block<W.heap.size)→DataW.TrodAll enc P W' 0 (fun b=>decide (b<W.heap.size)) true ts vs ds ps
 |[],[],[],_,_,h,_=>h
 |[],[],_::_,_,_,h,_=>h.elim
 |[],_::_,_,_,_,h,_=>h.elim
 |_::_,[],_,_,_,h,_=>h.elim
 |_::_,_::_,[],_,_,h,_=>h.elim
 |t::ts,v::vs,d::ds,ps,ht,⟨p,q,h1,h2,e⟩,hlt=>by
  subst e;obtain ⟨a,b⟩:=ht t (List.mem_cons_self ..);exact ⟨p,q,Below.trod hl a b h1 hb fun x hx=>hlt x (List.mem_append_left _ hx),QeC hl hb (fun t ht'=>ht t (List.mem_cons_of_mem _ ht')) h2 fun x hx=>hlt x (List.mem_append_right _ hx),rfl⟩
theorem QrD {H:Type} {enc:TypeId×Value→H} {P:Program} {f:Func} {s:ChangeSpec} {W W':World} {args:Array Value} {ds gs:List (DataW H)} {before:List MemPlace} (hl:laidOutB P=true) {bt:TypeId}
  (hres:f.resultTypes= #[bt]) (hbt:P.underlying bt=some .bool) (ht:(f.params.toList.all fun t=>P.readableRec t&&decide (t<P.types.size))=true) (hvars:s.vars=[])
  (hfn:(s.fn H (ds++gs)).results=[.lit (.bool true)]∧(s.fn H (ds++gs)).args=ds∧(s.fn H (ds++gs)).vars=[])
  (hW:DataW.Whole enc P f.params.toList s.vars false W args.toList ds gs before) (hb:Below W.heap.size W W'):
  s.post enc P f false true false false W args (.bool true) W':=by
 have hlt:=hW.lt;have hW':=hW;obtain ⟨p,q,hA,hV,rfl,hfz,hnd⟩:=hW;refine ⟨ds,gs,p++q,[],p,[],hW',?_,?_,?_,?_,fun h=>by cases h⟩
 ·rw [hfn.1,hres];exact trodAll_cons_mk (shut_bool hbt _) trodAll_mk0
 ·rw [hfn.2.1];exact QeC hl hb (fun t h=>by have:=List.all_eq_true.1 ht t h;simpa using this) hA fun x hx=>hlt x (List.mem_append_left _ hx)
 ·rw [hfn.2.2,hvars];rfl
 ·exact hb.frame _
theorem QfU:Tryz.prog.cellsOf 65=6:=by kernel_rfl
section
variable {H:Type} {enc:TypeId×Value→H} {w:World} {base:Nat} {spare:Nat→Bool} {held:Bool}
theorem Qg6 {fuel:Nat} {cs:List Value} {x:DataW H×List MemPlace} (h:DataW.trod enc Tryz.prog w base spare held fuel 65 cs=some x):
  ∃(k n vars:Int) (s:ByteArray) (u v:Value) (T B:Ts),cs=[.int .i64 k,.int .i64 n,.string s,u,v,.int .i64 vars]∧Sl w (fun _=>True) u T∧Sl w (fun _=>True) v B∧T.nodes+B.nodes+1<Rows.uptoBulk x.1:=by
 obtain ⟨xs,m,_,hx,hlen,hxl,hf⟩:=DataW.trod_struct Tryz.underlying65 h;rw [QfU] at hlen;have f0:DataW.trod enc Tryz.prog w base spare held m 63 ((cs.drop 0).take (Tryz.prog.cellsOf 63))=xs[0]?:=hf 0 _ rfl;have f1:DataW.trod enc Tryz.prog w base spare held m 23 ((cs.drop 4).take (Tryz.prog.cellsOf 23))=xs[1]?:=hf 1 _ rfl;have f2:DataW.trod enc Tryz.prog w base spare held m 3 ((cs.drop 5).take (Tryz.prog.cellsOf 3))=xs[2]?:=hf 2 _ rfl;rw [QfB] at f0;rw [Qht] at f1;rw [Qk4] at f2
 match cs,hlen,xs,hxl,hx with
 |[c0,c1,c2,c3,c4,c5],_,[y0,y1,y2],_,hx=>
  simp only [List.drop_zero,List.drop_succ_cons,List.take_succ_cons,List.take_zero,List.getElem?_cons_zero,List.getElem?_cons_succ] at f0 f1 f2;obtain ⟨k,n,s,u,y,m',e0,hy,hb,_,_,_,_⟩:=Qfm f0;simp only [List.cons.injEq,and_true] at e0;obtain ⟨rfl,rfl,rfl,rfl⟩:=e0;obtain ⟨T,h1,h2⟩:=Qfl _ m' _ y (Nat.le_refl _) hy;obtain ⟨B,h3,h4⟩:=Qfl _ m _ y1 (Nat.le_refl _) f1;obtain ⟨vars,e2,_,_⟩:=DataW.trod_int Tryz.underlying3 f2;simp only [List.cons.injEq,and_true] at e2;subst e2 hx;refine ⟨k,n,vars,s,_,_,T,B,rfl,h1,h3,?_⟩;simp only [List.map_cons,List.map_nil,Rows.uptoBulk,Rows.uptoBulkAll];omega
theorem Qkk {fuel:Nat} {v:Value} {x:DataW H×List MemPlace} (h:DataW.trod enc Tryz.prog w base spare held fuel 22 [v]=some x):
  ∃L:List Cl,SlC w (fun _=>True) v L∧QaI L<Rows.uptoBulk x.1:=by
 rcases Deep.open_slice Tryz.underlying22 h with ⟨e,rfl⟩|⟨a,len,cap,m,n,D,Pl,e,_,hl,_,hm,rfl,hi⟩
 ·simp only [List.cons.injEq,and_true] at e;subst e;exact ⟨[],⟨none,0,rfl,Nat.le_refl _,fun h=>absurd h (Nat.lt_irrefl _)⟩,by simp [Rows.uptoBulk,QaI]⟩
 ·simp only [List.cons.injEq,and_true] at e;subst e;rw [QfU] at hi
  have hml:len≤m:=by rw [hm];split<;>omega
  have hspot:0<len→a.spot=none:=fun hp=>by
   obtain ⟨cs,hc,ht⟩:=hi 0 Ya;obtain ⟨k,n',vars,s,u,v',T,B,rfl,_⟩:=Qg6 ht;obtain ⟨_,_,hat⟩:=World.cells?_some hc;have h0:=hat 0 Ya;simp only [Nat.zero_mul,Addr.add,if_true,List.getElem?_cons_zero] at h0;unfold World.cell? at h0;split at h0
   ·split at h0
    ·cases h0
    ·rename_i hs;simpa using hs
   ·cases h0
  have key:∀r j,j+r=len→∃L:List Cl,L.length=r∧QjB w (fun _=>True) L a.block (a.off+j*6)∧QaI L≤Rows.uptoBulkAll ((List.range' j r).map D):=by
   intro r
   induction r with
   |zero=>intro j _;exact ⟨[],rfl,trivial,Nat.zero_le _⟩
   |succ r ihr=>
    intro j hj;obtain ⟨L,hT1,hT2,hT3⟩:=ihr (j+1) Ya;obtain ⟨cs,hc,ht⟩:=hi j Ya;obtain ⟨k,n',vars,s,u,v',T,B,rfl,h1,h2,h3⟩:=Qg6 ht;obtain ⟨_,_,hat⟩:=World.cells?_some hc;have hsp:=hspot Ya
    have hcell:∀q u',q<6→[Value.int .i64 k,.int .i64 n',.string s,u,v',.int .i64 vars][q]?=some u'→w.cell? ⟨a.block,a.off+j*6+q,none⟩=some u':=fun q u' hq hu=>by
     have h1:=(hat q hq).trans hu;rw [Deep.add_add] at h1;have h2:=QnH h1 hsp
     rwa [←Nat.add_assoc] at h2
    refine ⟨⟨k,n',s,T,B,vars⟩::L,by simp [hT1],?_,?_⟩
    ·refine ⟨trivial,by simpa using hcell 0 _ Ya rfl,hcell 1 _ Ya rfl,hcell 2 _ Ya rfl,⟨u,hcell 3 _ Ya rfl,h1⟩,⟨v',hcell 4 _ Ya rfl,h2⟩,hcell 5 _ Ya rfl,?_⟩;rw [show a.off+j*6+6=a.off+(j+1)*6 by omega];exact hT2
    ·simp only [List.range'_succ,List.map_cons,Rows.uptoBulkAll,QaI,Cl.nodes];simp only at h3;omega
  obtain ⟨L,h1,h2,h3⟩:=key len 0 Ya;refine ⟨L,⟨some a,cap,by rw [h1],by omega,fun hp=>⟨a.block,a.off,?_,by simpa using h2⟩⟩,?_⟩
  ·have:=hspot Ya;obtain ⟨b',o',sp⟩:=a;simp only at this;rw [this]
  ·rw [←List.range_eq_range'] at h3;simp only [Rows.uptoBulk];omega
end
theorem Qg5 {H:Type} {enc:TypeId×Value→H} {W:World} {v:Value} {d:DataW H} {p:List MemPlace} (hv:v.cells.toList=[v]) (h:DataW.Trod enc Tryz.prog W 0 (fun _=>true) true 22 v d p):
  ∃L:List Cl,SlC W (fun _=>True) v L∧QaI L<Rows.uptoBulk d:=by
 obtain ⟨fuel,hf⟩:=h;rw [hv] at hf;exact Qkk hf
end Go.Proofs.YthliapbflkfdiacGreatDoor
