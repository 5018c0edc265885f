/- SWalk6, Plan: texts that follow one another, laid into one file. -/
import Derived.Test.YthliapbflkfdiacGreatDoorZ0
import Derived.Test.YthliapbflkfdiacGreatDoorG10
import Derived.Test.YthliapbflkfdiacGreatDoorG0
namespace Go.Proofs.YthliapbflkfdiacGreatDoor
open Go.RowKit
set_option linter.unusedVariables false
set_option linter.unusedSimpArgs false
set_option maxRecDepth 100000
set_option maxHeartbeats 1000000
section
variable {M:List Nat} {w0:World} {H:List (Nat×Obj)} {F0:List (World→Prop)} {b:Nat} {P:List LC} {pA:Option Addr} {pc vars:Nat}
theorem QdU (s:SS) (w:World) (hI:QdA s) (hs:SSt M w0 H F0 b P pA pc vars s w):
  Calls Tryz.prog 78 #[pt b] w fun e w'=>e= .returned (.int .i64 (Qar s).1)∧SSt M w0 H F0 b P pA pc vars (Qar s).2 w':=by
 refine Qh Tryz.func78 rfl Tryz.ntmps78 rfl ?_;refine Zda ?_;refine Qex  (10::11::12::13::14::15::16::17::18::19::20::21::3::22::23::24::25::26::27::4::28::29::30::31::32::33::34::35::36::37::38::39::40::41::42::43::44::45::6::5::46::47::48::49::50::51::52::53::54::55::56::57::58::59::60::61::62::63::64::65::66::67::68::69::70::71::72::7::73::74::75::76::77::78::79::80::81::83::84::85::86::87::88::89::90::91::92::82::93::94::8::9::95::2::96::97::98::99::100::101::102::103::104::105::106::107::108::[]) (fun (x:Nat×SS) w'=>QdA x.2∧Qdz x.2.ch<x.1∧QaK x.1 x.2=Qar s∧SSt M w0 H F0 b P pA pc vars x.2 w') (fun x=>Qdz x.2.ch) ((Qdz s.ch+1,s)) ?_ ?_
 ·exact ⟨hI,Nat.lt_succ_self _,rfl,hs⟩
 clear hs hI;rintro ⟨n,s1⟩ w2 jv ⟨hI,hcn,hret,hs⟩ ih;dsimp only at hI hcn hret hs
 obtain ⟨n,rfl⟩:∃n',n=n'+1:=⟨n-1,by omega⟩
 obtain ⟨d,F,hFF,hok,hS⟩:=hs;obtain ⟨G,mb,es,clk,TR,O,gs,cs,CH,O2,evs,EV,O3⟩:=d;have hrow2:=hok.row2;have hc:=hok.hc;have hbm0:BM G 3 es TR O F:=hok.bm;have hBG:bnd G=s1.B:=hok.hB;dsimp only at hS hrow2 hc
 cases cs with
 |nil=>
  obtain ⟨A2,c2,rfl⟩:=hrow2.form;have hch:s1.ch=[]:=hc.symm
  have e:QaK (n+1) s1=(2,s1):=by unfold QaK;rw [hch]
  rw [←hret,e];refine ZW ?_;refine Zdz ?_;refine ZE ?_;refine ZaE ?_;refine ZaR ?_;refine Zk ?_;refine ZeP ?_;exact ⟨rfl,_,F,hFF,hok,hS⟩
 |cons c cs=>
  have hcl:=hrow2.form;obtain ⟨A2,c2,rfl⟩:=hcl;obtain ⟨g,sp,rfl,rfl,hcap⟩:=hrow2.some_ Yd;have hcap2:=hrow2.cap;have hch:s1.ch=c.ch::cs.map LCh.ch:=hc.symm;have hCh:=hI.ch;rw [hch] at hCh;obtain ⟨a1,a2,a3,a4,a5,a6⟩:=hCh;have hlen:=hI.ch.len;rw [hch] at hlen;have hmu:=hI.bl;have hfr:=hI.fr;unfold mu at hmu hfr;rw [hch] at hmu hfr;simp only [List.length_cons,List.length_map] at hlen hcap2;have hsm:=hI.sm;rw [←hBG] at hsm
  have hbl:G.length=s1.B.length:=by rw [←hBG];exact (QgC G).symm
  have hlch:chL (c::cs).reverse=chL cs.reverse++Qwn c:=by rw [List.reverse_cons,QiK];rfl
  have hX:(chL cs.reverse).length=cs.length*3:=by rw [QkZ];simp
  obtain ⟨cg,cnext,ccA,ccc,ccls,cbound⟩:=c
  cases ccls with
  |nil=>exact absurd rfl a4
  |cons cl more=>
  have hrc:=hok.rc _ (.head _);have hrg:Und F (LRd cg.t):=hrc.imp fun w h=>h.1.2.1;have hrn:Und F (PR cnext):=hrc.imp fun w h=>h.1.2.2;have hpc:∀{H'} w',St M w0 H' F w'→_:=fun w' hS=>(hS.und hrc).1.cells;have hrl:Und F (QgE (cl::more) ccA ccc):=hrc.imp fun w h=>h.2;have hrcl1:Und F (LRd cl.hd):=hrl.imp fun w h=>(h.2.2 cl (.head _)).1;have hrcl2:Und F (ArA cl.bA cl.bc cl.bd):=hrl.imp fun w h=>(h.2.2 cl (.head _)).2;obtain ⟨bc,oc,rfl⟩:=(hS.und hrl).some_ Yd;have hcc:=(hS.und hrl).1;simp only [List.length_cons] at hcc;have hcl6:∀{H'} w',St M w0 H' F w'→_:=fun w' hS=>QgE.cells (D:=[]) (hS.und hrl);have hclB:cB cl.cl=true:=a5 cl.cl (.head _);obtain ⟨v0,v1,v2,v3,v4⟩:=Qhq hclB;have hv0:0≤cl.vars:=v0;have hv1:cl.vars≤8:=v1
  have hcn24:cl.hd.ar.ts.nodes+1≤24:=by simp only [gB,Bool.and_eq_true,decide_eq_true_eq] at v4;exact v4.2
  have hbd24:cl.bd.ts.nodes≤120:=by have h1:=goals_nodes _ v3;have h2:cl.bd.ts.length≤5:=v2;have h3:cl.bd.ts.nodes≤24*cl.bd.ts.length:=h1;omega
  have tcl:tgd (cl.cl.head.shift s1.fresh):=Qsc hclB Ya;have tcg:tgd cg.t.tm:=a3 (cg.t.tm,cg.o) (.head _);have hbd1:cbound≤s1.B.length:=a1;have hret2:=Qe2 (n:=n) hch (show (LCh.ch ⟨cg,cnext,some ⟨bc,oc,none⟩,ccc,cl::more,cbound⟩).cls=cl.cl::more.map LC.cl from rfl);rw [show (LCh.ch ⟨cg,cnext,some ⟨bc,oc,none⟩,ccc,cl::more,cbound⟩).g.1=cg.t.tm from rfl,show (LCh.ch ⟨cg,cnext,some ⟨bc,oc,none⟩,ccc,cl::more,cbound⟩).bound=cbound from rfl,show (LCh.ch ⟨cg,cnext,some ⟨bc,oc,none⟩,ccc,cl::more,cbound⟩).next=Qdq cnext from rfl] at hret2;have hrest:∀c∈cs,Und F (Qv9 c):=fun c hc=>hok.rc c (.tail _ hc);rw [hlch] at hS;replace hS:=hS.perm (QpA _ _ _ _ _ _);simp only [List.append_assoc,List.cons_append,List.nil_append,List.length_cons] at hS;have hlast:(((cs.length+1:Nat):Int)-1)=((cs.length:Nat):Int):=by omega
  have hoff:(0+((cs.length:Nat):Int).toNat*3)=cs.length*3:=by omega
  refine ZW ?_;refine Zdz ?_;refine ZE ?_;refine ZaE ?_;refine ZR ?_;refine Zbw ?_;refine ZO ?_;refine Zdz ?_;refine ZE ?_;refine ZcI ?_;refine ZO ?_;refine Zdz ?_;refine ZbM ?_;refine Zag ?_;refine ZV ?_;rw [hlast,hoff];refine Zfw ?_;replace hS:=hS.drew;refine Zas ?_;refine ZU ?_;refine Zb5 ?_;refine Zgn ?_;refine ZF ?_;refine Zi ?_;refine Calls.mono (QqJ cbound _ hbm0 Ya Ya (hS.perm (.cons _ (.cons _ (List.perm_append_comm_assoc [_] O _))))) ?_;rintro _ w5 ⟨es2,TR2,rfl,kbm,hS'⟩;refine Za ?_;replace hS:=hS';clear hS';replace hS:=hS.perm (.cons _ (.cons _ (List.perm_append_comm_assoc O [_] _)))
  have hbG2:bnd (G.drop (G.length-cbound))=Qas s1.B cbound:=by
   rw [←hBG];unfold Qas;rw [QgC];simp [bnd,List.map_drop]
  have hsmu:SmB (bnd (G.drop (G.length-cbound))):=by rw [hbG2];exact Qn5 (Q:=fun t=>t.ar.nodes≤24) hI.sm _
  refine ZG ?_;refine Qq (St _ _ _ _) 12 ((0,true)::(1,true)::(2,true)::(3,true)::(4,true)::(5,true)::(6,true)::(7,true)::(8,true)::(9,true)::(10,false)::(11,true)::[]) Yc Yc (hS.drew) ?_;replace hS:=hS.drew;refine Zas ?_;refine Zgn ?_;refine ZU ?_;refine Zcq ?_;refine Zgn ?_;refine Qc rfl (fun _ hS=>QU (sz:=6) rfl rfl rfl rfl Ya Ya) rfl ?_
  first
   |refine Qc rfl (fun _ hS=>Qb (k:=6) hS rfl rfl rfl (by first|exact .head|exact .tail .head|exact .tail (.tail .head)|exact .tail (.tail (.tail .head))|exact .tail (.tail (.tail (.tail .head)))|exact .tail (.tail (.tail (.tail (.tail .head))))) Yg) rfl ?_
   |refine Qc rfl (fun _ hS=>Qb (k:=6) hS rfl rfl rfl (by first|exact .head|exact .tail .head|exact .tail (.tail .head)|exact .tail (.tail (.tail .head))|exact .tail (.tail (.tail (.tail .head)))|exact .tail (.tail (.tail (.tail (.tail .head))))) Ye) rfl ?_
   |refine Qc rfl (fun _ hS=>QhZ rfl rfl rfl (by first|assumption|exact (QB hS (.tail _ (.tail _ (.head _))) hX).1|exact (QB hS (.tail _ (.tail _ (.head _))) hX).2.1|exact (QB hS (.tail _ (.tail _ (.head _))) hX).2.2|exact (hcl6 _ hS).1|exact (hcl6 _ hS).2.1|exact (hcl6 _ hS).2.2.1|exact (hcl6 _ hS).2.2.2.1|exact (hcl6 _ hS).2.2.2.2.1|exact (hcl6 _ hS).2.2.2.2.2|exact hS.cell0 Ye) (by first|assumption|exact (QB hS (.tail _ (.tail _ (.head _))) hX).1|exact (QB hS (.tail _ (.tail _ (.head _))) hX).2.1|exact (QB hS (.tail _ (.tail _ (.head _))) hX).2.2|exact (hcl6 _ hS).1|exact (hcl6 _ hS).2.1|exact (hcl6 _ hS).2.2.1|exact (hcl6 _ hS).2.2.2.1|exact (hcl6 _ hS).2.2.2.2.1|exact (hcl6 _ hS).2.2.2.2.2|exact hS.cell0 Ye) (by first|assumption|exact (QB hS (.tail _ (.tail _ (.head _))) hX).1|exact (QB hS (.tail _ (.tail _ (.head _))) hX).2.1|exact (QB hS (.tail _ (.tail _ (.head _))) hX).2.2|exact (hcl6 _ hS).1|exact (hcl6 _ hS).2.1|exact (hcl6 _ hS).2.2.1|exact (hcl6 _ hS).2.2.2.1|exact (hcl6 _ hS).2.2.2.2.1|exact (hcl6 _ hS).2.2.2.2.2|exact hS.cell0 Ye) (by first|assumption|exact (QB hS (.tail _ (.tail _ (.head _))) hX).1|exact (QB hS (.tail _ (.tail _ (.head _))) hX).2.1|exact (QB hS (.tail _ (.tail _ (.head _))) hX).2.2|exact (hcl6 _ hS).1|exact (hcl6 _ hS).2.1|exact (hcl6 _ hS).2.2.1|exact (hcl6 _ hS).2.2.2.1|exact (hcl6 _ hS).2.2.2.2.1|exact (hcl6 _ hS).2.2.2.2.2|exact hS.cell0 Ye) (by first|assumption|exact (QB hS (.tail _ (.tail _ (.head _))) hX).1|exact (QB hS (.tail _ (.tail _ (.head _))) hX).2.1|exact (QB hS (.tail _ (.tail _ (.head _))) hX).2.2|exact (hcl6 _ hS).1|exact (hcl6 _ hS).2.1|exact (hcl6 _ hS).2.2.1|exact (hcl6 _ hS).2.2.2.1|exact (hcl6 _ hS).2.2.2.2.1|exact (hcl6 _ hS).2.2.2.2.2|exact hS.cell0 Ye) (by first|assumption|exact (QB hS (.tail _ (.tail _ (.head _))) hX).1|exact (QB hS (.tail _ (.tail _ (.head _))) hX).2.1|exact (QB hS (.tail _ (.tail _ (.head _))) hX).2.2|exact (hcl6 _ hS).1|exact (hcl6 _ hS).2.1|exact (hcl6 _ hS).2.2.1|exact (hcl6 _ hS).2.2.2.1|exact (hcl6 _ hS).2.2.2.2.1|exact (hcl6 _ hS).2.2.2.2.2|exact hS.cell0 Ye)) rfl ?_
  refine Zp ?_;refine ZcS ?_;clear hS;intro b1 wx1 hS;refine ZaG ?_;refine Zcp ?_;refine ZF ?_;refine Qa2 hS rfl Yb rfl rfl .head Yg .head ?_;clear hS;intro w6 hS;replace hS:St M w0 ((b1,.cells (lcs cl).toArray 65)::_) F w6:=hS;have hcp0:0<c2:=by omega
  have hcnt:Qdz s1.ch=more.length+1+Qdz (cs.map LCh.ch):=by rw [hch];simp [Qdz,LCh.ch]
  rw [hlch] at hcap
  have hcap3:(chL cs.reverse).length+3+sp.length=c2*3:=by rw [←hcap];simp;omega
  cases more with
  |nil=>
   refine Zbg ?_;refine ZbJ ?_;refine ZcV ?_;refine Zhf ?_;refine ZbJ ?_;refine Zhg ?_;clear hS;intro w7 hS;refine Zeg ?_;refine ZM ?_;refine ZcV ?_;refine Zy ?_;refine Zbh ?_;refine Z8 ?_;refine Zeh ?_;refine ZcV ?_;refine Ze ?_;refine Zgo ?_;refine Zeh ?_;refine ZA ?_;clear hS;intro wx2 hS;refine Zb ?_;refine ZO ?_;refine Zfs ?_;refine ZcV ?_;refine ZV ?_
   obtain ⟨cs2,CH2,O22,hmap2,hrc2,hrow22,hS⟩:∃(cs2:List LCh) (CH2:Value) (O22:List (Nat×Obj)),cs2.map LCh.ch=Qhf (LCh.ch ⟨cg,cnext,some ⟨bc,oc,none⟩,ccc,[cl],cbound⟩) [] (cs.map LCh.ch)∧(∀c∈cs2,Und F (Qv9 c))∧Row 134 3 CH2 cs2.length (chL cs2.reverse) O22∧
     St M w0 ((b1,.cells (lcs cl).toArray 65)::(b,sob mb TR2 (QdB P pA pc vars s1.fresh s1.fuel (Qcu gs) CH2 EV))::(mb,.map es2 clk)::(O++(O22++(O3++H)))) F _:=
    ⟨cs,_,[(g,_)],rfl,hrest,Row.own_ (sp:=[_,_,_]++sp) (by rw [hX]) Yh Ya hcp0,hS.perm (.cons _ (.cons _ (.cons _ (List.perm_append_comm_assoc [_] O _))))⟩
   refine ZdE ?_;replace hS:=hS.drew;refine Zei ?_;refine ZfB ?_;refine ZdF ?_;refine ZfB ?_;refine ZfC ?_;refine Zaa ?_;refine ZeF ?_;refine Zaz ?_;clear hS;intro wx3 hS;refine ZG ?_
   have hfv:((s1.fresh:Nat):Int)+cl.vars=((s1.fresh+cl.cl.vars.toNat:Nat):Int):=by
    show _=((s1.fresh+cl.vars.toNat:Nat):Int);omega
   rw [hfv] at hS;refine Zhh ?_;replace hS:=hS.drew;refine Zs ?_;refine ZaC ?_;refine ZfD ?_;refine Zs ?_;refine Zas ?_;refine ZfD ?_;refine ZbT ?_;refine Calls.mono (Qgi cl.hd s1.fresh _ hrcl1 (by show cl.hd.ar.ts.nodes<_;omega) hS) ?_;rintro _ w7 ⟨u,rfl,hu,hS'⟩;refine Za ?_;replace hS:=hS';clear hS';refine ZcP ?_;refine Zp ?_;refine Zz ?_;refine Zhi ?_;rintro _ w8 ⟨rfl,hU⟩;refine Za ?_;obtain ⟨G3,es3,clk3,TR3,O',hb3,hB3,hS'⟩:=hU;replace hS:=hS'.perm ((List.Perm.cons _ (.cons _ (List.perm_append_comm_assoc O' [_] _))).trans (List.perm_append_comm_assoc [_,_] [_] _));clear hS';rw [hu,hbG2] at hb3⊢;have hpop:=Qie hI hch (show (LCh.ch ⟨cg,cnext,some ⟨bc,oc,none⟩,ccc,cl::[],cbound⟩).cls=cl.cl::[] from rfl);rw [show (LCh.ch ⟨cg,cnext,some ⟨bc,oc,none⟩,ccc,cl::[],cbound⟩).g.1=cg.t.tm from rfl,show (LCh.ch ⟨cg,cnext,some ⟨bc,oc,none⟩,ccc,cl::[],cbound⟩).bound=cbound from rfl] at hpop;rw [show cl.hd.tm=cl.cl.head from rfl] at hb3⊢;generalize Qa8 401 (cl.cl.head.shift s1.fresh) cg.t.tm (Qas s1.B cbound) 0=r at*;obtain ⟨rok,rB,rw_⟩:=r;dsimp only at hb3 hret2 hpop
   have hok2:∀(gs':List GN) (gl:List Gl),Qdq gs'=gl→Und (LRd u::F) (PR gs')→SOk P pA pc ⟨rB,s1.fresh+cl.cl.vars.toNat,s1.fuel,gl,Qhf (LCh.ch ⟨cg,cnext,some ⟨bc,oc,none⟩,ccc,cl::[],cbound⟩) ([]) (cs.map LCh.ch),s1.ev⟩ ⟨G3,mb,es3,clk3,TR3,O',gs',cs2,CH2,O22,evs,EV,O3⟩ (LRd u::F):=fun gs' gl h1 h2=>
    ⟨hB3,hb3,h1,h2,hmap2,fun c hc=>(hrc2 c hc).tail,hrow22,hok.he,fun e he=>(hok.re e he).tail,hok.row3,hok.rp.tail⟩
   by_cases h4:400<rw_
   ·rw [if_pos h4] at hret2;rw [decide_eq_true h4];refine Zej ?_;refine Zad ?_;refine ZeP ?_;rw [←hret,hret2];exact ⟨rfl,_,_,fun φ h=> .tail _ (hFF φ h),hok2 gs s1.goals hok.hg hok.rg.tail,hS.drop⟩
   rw [if_neg h4] at hret2;rw [decide_eq_false h4]
   cases rok with
   |true=>
    rw [if_pos rfl] at hret2;have hpn:Und (LRd u::F) (PR cnext):=hrn.tail;refine Zej ?_;refine Zn ?_;refine Zm ?_;refine ZR ?_;refine Zl ?_;refine Zhj ?_;replace hS:=hS.drew;refine Zs ?_;refine ZeF ?_;refine ZfE ?_;refine Z0 ?_;refine ZU ?_;refine ZdF ?_;refine ZfE ?_;refine Zp ?_;refine ZbD ?_;refine Zhk ?_;rintro _ w9 ⟨gs2,F3,rfl,hgs2,hF3,hrg2,hS'⟩;refine Za ?_;replace hS:=hS';clear hS';refine ZaG ?_;refine Zaa ?_;refine ZeQ ?_;refine Zaz ?_;clear hS;intro wx4 hS;refine Zay ?_;refine ZeP ?_;rw [←hret,hret2];refine ⟨rfl,⟨G3,mb,es3,clk3,TR3,O',gs2,cs2,CH2,O22,evs,EV,O3⟩,F3,fun φ h=>hF3 φ (.tail _ (hFF φ h)),(hok2 gs s1.goals hok.hg hok.rg.tail).mono hF3|>fun h=> ?_,hS.drop⟩;exact ⟨h.bm,h.hB,by rw [hgs2];simp only [List.length_map];rfl,hrg2,h.hc,h.rc,h.row2,h.he,h.re,h.row3,h.rp⟩
   |false=>
    rw [if_neg Yf] at hret2;refine Zej ?_;refine Zn ?_;refine Zm ?_;refine Zn ?_;refine Zam ?_;refine ih (n,⟨rB,s1.fresh+cl.cl.vars.toNat,s1.fuel,s1.goals,Qhf (LCh.ch ⟨cg,cnext,some ⟨bc,oc,none⟩,ccc,cl::[],cbound⟩) ([]) (cs.map LCh.ch),s1.ev⟩) _ _ ?_ ?_ Yc
    ·dsimp only;rw [Qdm,hcnt];simp
    ·refine ⟨hpop _,?_,?_,_,_,fun φ h=> .tail _ (hFF φ h),hok2 gs s1.goals hok.hg hok.rg.tail,hS.drop⟩
     ·dsimp only;rw [hcnt] at hcn;rw [Qdm];simp at hcn⊢;omega
     ·exact hret2.symm.trans hret
  |cons m1 more=>
   simp only [List.length_cons] at hcc;refine Zbg ?_;refine ZbJ ?_;refine ZcV ?_;refine Zhf ?_;refine ZbJ ?_;refine Zhg ?_;clear hS;intro w7 hS;refine Zeg ?_;refine ZM ?_;refine ZcV ?_;refine Zy ?_;refine ZaW ?_;refine ZO ?_;refine Zfs ?_;refine ZcV ?_;refine ZV ?_;have hrl':=hrl.imp fun w h=>h.rest
   have hrc':Und F (Qv9 ⟨cg,cnext,some ⟨bc,oc+6,none⟩,ccc-1,m1::more,cbound⟩):=fun w hw=>⟨(hrc w hw).1,hrl' w hw⟩
   obtain ⟨cs2,CH2,O22,hmap2,hrc2,hrow22,hS⟩:∃(cs2:List LCh) (CH2:Value) (O22:List (Nat×Obj)),cs2.map LCh.ch=Qhf (LCh.ch ⟨cg,cnext,some ⟨bc,oc,none⟩,ccc,cl::m1::more,cbound⟩) ((m1::more).map LC.cl) (cs.map LCh.ch)∧(∀c∈cs2,Und F (Qv9 c))∧Row 134 3 CH2 cs2.length (chL cs2.reverse) O22∧
     St M w0 ((b1,.cells (lcs cl).toArray 65)::(b,sob mb TR2 (QdB P pA pc vars s1.fresh s1.fuel (Qcu gs) CH2 EV))::(mb,.map es2 clk)::(O++(O22++(O3++H)))) F _:=by
    refine ⟨⟨cg,cnext,some ⟨bc,oc+6,none⟩,ccc-1,m1::more,cbound⟩::cs,_,[(g,.cells (chL (LCh.mk cg cnext (some ⟨bc,oc+6,none⟩) (ccc-1) (m1::more) cbound::cs).reverse++sp).toArray 134)],rfl,?_,Row.own_ (sp:=sp) ?_ ?_ (cap:=c2) ?_ hcp0,?_⟩
    ·intro c hc;rcases List.mem_cons.1 hc with rfl|hc
     ·exact hrc'
     ·exact hrest c hc
    ·rw [QkZ];simp
    ·rw [List.reverse_cons,QiK];simp [chL];omega
    ·simp;omega
    ·have e:chL (LCh.mk cg cnext (some ⟨bc,oc+6,none⟩) (ccc-1) (m1::more) cbound::cs).reverse++sp=chL cs.reverse++(Qwn ⟨cg,cnext,some ⟨bc,oc+6,none⟩,ccc-1,m1::more,cbound⟩++sp):=by rw [List.reverse_cons,QiK,List.append_assoc];simp [chL]
     rw [e];exact hS.perm (.cons _ (.cons _ (.cons _ (List.perm_append_comm_assoc [_] O _))))
   refine ZdE ?_;replace hS:=hS.drew;refine Zei ?_;refine ZfB ?_;refine ZdF ?_;refine ZfB ?_;refine ZfC ?_;refine Zaa ?_;refine ZeF ?_;refine Zaz ?_;clear hS;intro wx2 hS;refine ZG ?_
   have hfv:((s1.fresh:Nat):Int)+cl.vars=((s1.fresh+cl.cl.vars.toNat:Nat):Int):=by
    show _=((s1.fresh+cl.vars.toNat:Nat):Int);omega
   rw [hfv] at hS;refine Zhh ?_;replace hS:=hS.drew;refine Zs ?_;refine ZaC ?_;refine ZfD ?_;refine Zs ?_;refine Zas ?_;refine ZfD ?_;refine ZbT ?_;refine Calls.mono (Qgi cl.hd s1.fresh _ hrcl1 (by show cl.hd.ar.ts.nodes<_;omega) hS) ?_;rintro _ w7 ⟨u,rfl,hu,hS'⟩;refine Za ?_;replace hS:=hS';clear hS';refine ZcP ?_;refine Zp ?_;refine Zz ?_;refine Zhi ?_;rintro _ w8 ⟨rfl,hU⟩;refine Za ?_;obtain ⟨G3,es3,clk3,TR3,O',hb3,hB3,hS'⟩:=hU;replace hS:=hS'.perm ((List.Perm.cons _ (.cons _ (List.perm_append_comm_assoc O' [_] _))).trans (List.perm_append_comm_assoc [_,_] [_] _));clear hS';rw [hu,hbG2] at hb3⊢;have hpop:=Qie hI hch (show (LCh.ch ⟨cg,cnext,some ⟨bc,oc,none⟩,ccc,cl::m1::more,cbound⟩).cls=cl.cl::(m1::more).map LC.cl from rfl);rw [show (LCh.ch ⟨cg,cnext,some ⟨bc,oc,none⟩,ccc,cl::m1::more,cbound⟩).g.1=cg.t.tm from rfl,show (LCh.ch ⟨cg,cnext,some ⟨bc,oc,none⟩,ccc,cl::m1::more,cbound⟩).bound=cbound from rfl] at hpop;rw [show cl.hd.tm=cl.cl.head from rfl] at hb3⊢;generalize Qa8 401 (cl.cl.head.shift s1.fresh) cg.t.tm (Qas s1.B cbound) 0=r at*;obtain ⟨rok,rB,rw_⟩:=r;dsimp only at hb3 hret2 hpop
   have hok2:∀(gs':List GN) (gl:List Gl),Qdq gs'=gl→Und (LRd u::F) (PR gs')→SOk P pA pc ⟨rB,s1.fresh+cl.cl.vars.toNat,s1.fuel,gl,Qhf (LCh.ch ⟨cg,cnext,some ⟨bc,oc,none⟩,ccc,cl::m1::more,cbound⟩) ((m1::more).map LC.cl) (cs.map LCh.ch),s1.ev⟩ ⟨G3,mb,es3,clk3,TR3,O',gs',cs2,CH2,O22,evs,EV,O3⟩ (LRd u::F):=fun gs' gl h1 h2=>
    ⟨hB3,hb3,h1,h2,hmap2,fun c hc=>(hrc2 c hc).tail,hrow22,hok.he,fun e he=>(hok.re e he).tail,hok.row3,hok.rp.tail⟩
   by_cases h4:400<rw_
   ·rw [if_pos h4] at hret2;rw [decide_eq_true h4];refine Zej ?_;refine Zad ?_;refine ZeP ?_;rw [←hret,hret2];exact ⟨rfl,_,_,fun φ h=> .tail _ (hFF φ h),hok2 gs s1.goals hok.hg hok.rg.tail,hS.drop⟩
   rw [if_neg h4] at hret2;rw [decide_eq_false h4]
   cases rok with
   |true=>
    rw [if_pos rfl] at hret2;have hpn:Und (LRd u::F) (PR cnext):=hrn.tail;refine Zej ?_;refine Zn ?_;refine Zm ?_;refine ZR ?_;refine Zl ?_;refine Zhj ?_;replace hS:=hS.drew;refine Zs ?_;refine ZeF ?_;refine ZfE ?_;refine Z0 ?_;refine ZU ?_;refine ZdF ?_;refine ZfE ?_;refine Zp ?_;refine ZbD ?_;refine Zhk ?_;rintro _ w9 ⟨gs2,F3,rfl,hgs2,hF3,hrg2,hS'⟩;refine Za ?_;replace hS:=hS';clear hS';refine ZaG ?_;refine Zaa ?_;refine ZeQ ?_;refine Zaz ?_;clear hS;intro wx3 hS;refine Zay ?_;refine ZeP ?_;rw [←hret,hret2];refine ⟨rfl,⟨G3,mb,es3,clk3,TR3,O',gs2,cs2,CH2,O22,evs,EV,O3⟩,F3,fun φ h=>hF3 φ (.tail _ (hFF φ h)),(hok2 gs s1.goals hok.hg hok.rg.tail).mono hF3|>fun h=> ?_,hS.drop⟩;exact ⟨h.bm,h.hB,by rw [hgs2];simp only [List.length_map];rfl,hrg2,h.hc,h.rc,h.row2,h.he,h.re,h.row3,h.rp⟩
   |false=>
    rw [if_neg Yf] at hret2;refine Zej ?_;refine Zn ?_;refine Zm ?_;refine Zn ?_;refine Zam ?_;refine ih (n,⟨rB,s1.fresh+cl.cl.vars.toNat,s1.fuel,s1.goals,Qhf (LCh.ch ⟨cg,cnext,some ⟨bc,oc,none⟩,ccc,cl::m1::more,cbound⟩) ((m1::more).map LC.cl) (cs.map LCh.ch),s1.ev⟩) _ _ ?_ ?_ Yc
    ·dsimp only;rw [Qdm,hcnt];simp
    ·refine ⟨hpop _,?_,?_,_,_,fun φ h=> .tail _ (hFF φ h),hok2 gs s1.goals hok.hg hok.rg.tail,hS.drop⟩
     ·dsimp only;rw [hcnt] at hcn;rw [Qdm];simp at hcn⊢;omega
     ·exact hret2.symm.trans hret
end
inductive Qkf where
 |tail
 |read (i:Nat) (p:Qkf)
 |pick (i:Nat) (p more:Qkf)
 |none
def Qkf.heads:Qkf→List Nat
 | .pick i _ more=>i::more.heads
 |_=>[]
section
variable {P:Program} {ops:Array Oper} {Q:Exit→Act→World→Prop} {md:Region.Mode} {S:World→Prop} {n:Nat}
def Qfh (P:Program) (ops:Array Oper) (Q:Exit→Act→World→Prop) (S:World→Prop) (tail:List Oper):Qkf→Act→World→Prop
 | .tail,a,w=>wpList P ops Q tail a w
 | .read i p,a,w=>∃o v,ops[i]?=some o∧YieldsIf P ops S o v a∧(∀c a w,Q (.panic c) (a.put o.dst v) w→Q (.panic c) a w)∧Qfh P ops Q S tail p (a.put o.dst v) w
 | .pick i p more,a,w=>(∃o,ops[i]?=some o∧wpList P ops (Exit.then (fun a' w'=>S w'∧Qfh P ops Q S tail p a' w') Q) [o] a w)∧Qfh P ops Q S tail more a w
 | .none,_,_=>True
def Qdn (md:Region.Mode) (ops:Array Oper) (n:Nat):Qkf→Nat→Array Bool→Bool→Bool
 | .tail,d,listed,top=>top&&decide (d=0)&&Region.seqB md ops (ops.size-n) n listed
 | .read i p,d,listed,top=>top&&decide (0<d)&&(Region.ready md ops listed).contains i&&Region.free md ops listed i&&decide (i<n)&&Qdn md ops n p (d-1) (listed.setIfInBounds i true) true
 | .pick i p more,d,listed,top=>(!top||decide (Region.ready md ops listed=(Qkf.pick i p more).heads))&&decide (0<d)&&decide (i<n)&&Qdn md ops n p (d-1) (listed.setIfInBounds i true) true&&Qdn md ops n more d listed false
 | .none,_,_,top=> !top
theorem QlR {tail:List Oper} {a:Act} {w:World} {d:Nat} {listed:Array Bool}:∀(pl:Qkf),Qdn md ops n pl d listed false=true→Qfh P ops Q S tail pl a w→∀j∈pl.heads,j<n∧0<d∧∃p o,ops[j]?=some o∧Qdn md ops n p (d-1) (listed.setIfInBounds j true) true=true∧wpList P ops (Exit.then (fun a' w'=>S w'∧Qfh P ops Q S tail p a' w') Q) [o] a w
 | .tail,h,_,j,hj=>by simp [Qkf.heads] at hj
 | .read i p,h,_,j,hj=>by simp [Qkf.heads] at hj
 | .none,h,_,j,hj=>by simp [Qkf.heads] at hj
 | .pick i p more,h,hw,j,hj=>by
  simp only [Qdn,Bool.and_eq_true,decide_eq_true_eq] at h;obtain ⟨⟨⟨⟨_,hd⟩,hin⟩,h1⟩,h2⟩:=h;simp only [Qkf.heads,List.mem_cons] at hj;rcases hj with rfl|hj
  ·obtain ⟨⟨o,ho,hl⟩,_⟩:=hw;exact ⟨hin,hd,p,o,ho,h1,hl⟩
  ·exact QlR more h2 hw.2 j hj
theorem Qkj (hsel:Region.noSelect ops=true) (tail:List Oper) (htl:∀j,tail[j]?=ops[n+j]?) (htn:tail.length=ops.size-n) (hwait:n<ops.size→Region.sinkB md ops n=true∧Region.chainB md ops n=true):∀(d:Nat) (pl:Qkf) (listed:Array Bool) (a:Act) (w:World),HeadInv md ops n listed→S w→
  Qdn md ops n pl d listed true=true→Qfh P ops Q S tail pl a w→QmV P md ops Q S n (d+tail.length) listed a w:=by
 intro d
 induction d with
 |zero=>
  intro pl listed a w hcl hS hB h
  cases pl with
  |tail=>
   simp only [Qdn,Bool.and_eq_true] at hB;rw [Nat.zero_add];exact QdG tail n listed a w (Nat.le_refl _) htl (by rw [htn];exact hB.2) h
  |read i p=>simp [Qdn] at hB
  |pick i p more=>simp [Qdn] at hB
  |none=>simp [Qdn] at hB
 |succ d ih=>
  intro pl listed a w hcl hS hB h
  cases pl with
  |tail=>simp [Qdn] at hB
  |none=>simp [Qdn] at hB
  |read i p=>
   simp only [Qdn,Bool.and_eq_true,decide_eq_true_eq] at hB;obtain ⟨⟨⟨⟨_,hr⟩,hf⟩,hin⟩,hB'⟩:=hB;obtain ⟨o,v,ho,hy,hQ,h'⟩:=h;have hr':i∈Region.ready md ops listed:=by simpa using hr
   rw [show d+1+tail.length=(d+tail.length)+1 by omega]
   exact Qhz ho (Region.noSelect_spec hsel) hQ hwait hin _ listed a w hcl (Region.free_spec ho hf) hr' hy hS
    (ih p _ _ _ (hcl.set hr' hin) hS hB' h')
  |pick i p more=>
   have hB0:Qdn md ops n (.pick i p more) (d+1) listed false=true:=by
    simp only [Qdn,Bool.and_eq_true,decide_eq_true_eq] at hB⊢;obtain ⟨⟨⟨⟨_,hd⟩,hin⟩,h1⟩,h2⟩:=hB;exact ⟨⟨⟨⟨by simp,hd⟩,hin⟩,h1⟩,h2⟩
   have hr:Region.ready md ops listed=(Qkf.pick i p more).heads:=by
    simp only [Qdn,Bool.and_eq_true,decide_eq_true_eq] at hB;simpa using hB.1.1.1.1
   have hk:=QlR (P:=P) (Q:=Q) (S:=S) (tail:=tail) (a:=a) (w:=w) _ hB0 h;rw [show d+1+tail.length=(d+tail.length)+1 by omega];refine ⟨fun h1=>(by rw [h1] at hr;cases hr),fun j hj=> ?_⟩;obtain ⟨hjn,_,q,o,ho,hq,hl⟩:=hk j (by rw [←hr];exact hj);exact wpOp_mono (fun a' w' h3=>⟨fun _=>h3.1,ih q _ _ _ (hcl.set hj hjn) h3.1 hq h3.2⟩) (QgG ho hl)
theorem QiX {id:Nat} {a:Act} {w:World} {l:List Oper} (S:World→Prop) (n:Nat) (pl:Qkf) (hm:P.follows .mixedOrders=true)
  (hB:(Region.noSelect l.toArray&&decide (n≤l.length)&&(decide (n=l.length)||(Region.sinkB .any l.toArray n&&Region.chainB .any l.toArray n))&&Qdn .any l.toArray n pl n (Array.replicate l.toArray.size false) true)=true) (hS:S w.drew)
  (h:Qfh P l.toArray Q S (l.drop n) pl a w.drew):(Code.region id l.toArray true).wp P Q a w:=by
 simp only [Bool.and_eq_true,decide_eq_true_eq] at hB;obtain ⟨⟨⟨hsel,hle⟩,hwt⟩,hB⟩:=hB
 have hcl:HeadInv .any l.toArray n (Array.replicate l.toArray.size false):=
  ⟨by simp,fun j oj _ hl=>(by rw [getD_replicate_false] at hl;cases hl),fun t _ ht=>getD_in (by simpa using ht) (getD_replicate_false _ _)⟩
 have hwait:n<l.toArray.size→Region.sinkB .any l.toArray n=true∧Region.chainB .any l.toArray n=true:=fun h=>by
  simp only [Bool.or_eq_true,Bool.and_eq_true,decide_eq_true_eq] at hwt;rcases hwt with e|e
  ·simp at h;omega
  ·exact e
 have hdl:(l.drop n).length=l.toArray.size-n:=by simp
 have H:=Qkj (md:= .any) (n:=n) hsel (l.drop n) (fun j=>by simp [List.getElem?_drop]) hdl hwait n pl _ a w.drew hcl hS hB h;refine wp_region_any hm ?_
 have e:n+(l.drop n).length=l.toArray.size:=by rw [hdl];simp;omega
 rw [e] at H;exact QdI _ _ _ _ H
end
section
variable {P:Program} {f:FuncId} {R:Ending→World→Prop} {k:List Item} {n:Nat} {e:Env} {w:World} {S:World→Prop} {ops:Array Oper} {tail:List Oper} {r more:Qkf}
variable {ty:TypeId} {pos:String} {after:Array Edge} {d i:Nat}
def Pln (P:Program) (f:FuncId) (R:Ending→World→Prop) (k:List Item) (ops:Array Oper) (S:World→Prop) (tail:List Oper) (r:Qkf) (n:Nat) (e:Env) (w:World):Prop:=
 Qfh P ops (qk P f R k) S tail r (act n e) w
theorem Qcz {id:Nat} {l:List Oper} (S:World→Prop) (m:Nat) (pl:Qkf) (hm:P.follows .mixedOrders=true)
  (hB:(Region.noSelect l.toArray&&decide (m≤l.length)&&(decide (m=l.length)||(Region.sinkB .any l.toArray m&&Region.chainB .any l.toArray m))&&Qdn .any l.toArray m pl m (Array.replicate l.toArray.size false) true)=true)
  (hS:S w.drew) (h:Pln P f R k l.toArray S (l.drop m) pl n e w.drew):Qaz P f R (.code (.region id l.toArray true)::k) (act n e) w:=
 Qgw (QiX S m pl hm hB hS h)
theorem Qw {op:Op} {v:Value} (ho:ops[i]?=some ⟨some d,op,ty,pos,after,none⟩) (hr:∀w',S w'→(execOp (ev n e) ⟨some d,op,ty,pos,after,none⟩).run P w'= .ok (.value v) w') (hd:Nat.blt d n=true)
  (h:Pln P f R k ops S tail r n ((d,v)::e) w):Pln P f R k ops S tail (.read i r) n e w:=by
 refine ⟨_,v,ho,.inl ⟨by simp [Region.wanted],fun w' hw=>by rw [Qck];exact hr w' hw⟩,fun c a w h=>h.elim,?_⟩;rw [Qee hd];exact h
def qp (P:Program) (f:FuncId) (R:Ending→World→Prop) (k:List Item) (ops:Array Oper) (S:World→Prop) (tail:List Oper) (r:Qkf):Exit→Act→World→Prop:=
 Exit.then (fun a' w'=>S w'∧Qfh P ops (qk P f R k) S tail r a' w') (qk P f R k)
theorem QK {o:Oper} (ho:ops[i]?=some o) (h:Lst P (qp P f R k ops S tail r) ops [o] n e w) (h2:Pln P f R k ops S tail more n e w):Pln P f R k ops S tail (.pick i r more) n e w:=by unfold Lst at h;exact ⟨⟨o,ho,h⟩,h2⟩
theorem Qtq {o:Oper} (ho:ops[i]?=some o) (h:Lst P (qp P f R k ops S tail r) ops [o] n e w):Pln P f R k ops S tail (.pick i r .none) n e w:=by unfold Lst at h;exact ⟨⟨o,ho,h⟩,trivial⟩
theorem Qil (hS:S w) (h:Pln P f R k ops S tail r n e w):Lst P (qp P f R k ops S tail r) ops [] n e w:=by unfold Lst;exact ⟨hS,h⟩
theorem Qtp (h:Lst P (qk P f R k) ops tail n e w):Pln P f R k ops S tail .tail n e w:=by unfold Lst at h;exact h
theorem Qev {c1:Item} (s t:Nat) (J:List Nat) (Φ:Value→Value→World→Prop)
  (h:(∀(v u:Value) (e':Env) (w':World),Φ v u w'→lk e' s=v→lk e' t=u→keep (s::t::J) e'=keep (s::t::J) e→Qaz P f R k (act n e') w')→Qaz P f R (c1::k) (act n e) w)
  (h2:∀(jv:Nat→Value) (v u:Value) (w':World),Φ v u w'→Qaz P f R k (act n ((s,v)::(t,u)::(QbL jv J++e))) w'):Qaz P f R (c1::k) (act n e) w:=
 h fun v u e' w' hΦ h1 h3 hk=>by
  have:=h2 (lk e') v u w' hΦ;rw [QaT hk];have e2:QbL (lk e') (s::t::J)++e=(s,v)::(t,u)::(QbL (lk e') J++e):=by simp [QbL,h1,h3]
  rw [e2];exact this
theorem QtT {c1 c2:Item} (s:Nat) (J:List Nat) (Φ:Value→World→Prop)
  (h:(∀(v:Value) (e':Env) (w':World),Φ v w'→lk e' s=v→keep (s::J) e'=keep (s::J) e→Qaz P f R k (act n e') w')→Qaz P f R (c1::c2::k) (act n e) w)
  (h2:∀(jv:Nat→Value) (v:Value) (w':World),Φ v w'→Qaz P f R k (act n ((s,v)::(QbL jv J++e))) w'):Qaz P f R (c1::c2::k) (act n e) w:=
 h fun v e' w' hΦ h1 hk=>by
  have:=h2 (lk e') v w' hΦ;rw [QaT hk];have e2:QbL (lk e') (s::J)++e=(s,v)::(QbL (lk e') J++e):=by simp [QbL,h1]
  rw [e2];exact this
theorem Qew {c1:Item} (s:Nat) (J:List Nat) (Φ:Value→World→Prop)
  (h:(∀(v:Value) (e':Env) (w':World),Φ v w'→lk e' s=v→keep (s::J) e'=keep (s::J) e→Qaz P f R k (act n e') w')→Qaz P f R (c1::k) (act n e) w)
  (h2:∀(jv:Nat→Value) (v:Value) (w':World),Φ v w'→Qaz P f R k (act n ((s,v)::(QbL jv J++e))) w'):Qaz P f R (c1::k) (act n e) w:=
 h fun v e' w' hΦ h1 hk=>by
  have:=h2 (lk e') v w' hΦ;rw [QaT hk];have e2:QbL (lk e') (s::J)++e=(s,v)::(QbL (lk e') J++e):=by simp [QbL,h1]
  rw [e2];exact this
end
attribute [irreducible] Pln
end Go.Proofs.YthliapbflkfdiacGreatDoor
