/- Steps of the proof. -/
import Derived.Test.YthliapbflkfdiacGreatDoorG31
namespace Go.Proofs.YthliapbflkfdiacGreatDoor
open Go.RowKit
set_option linter.unusedVariables false
set_option linter.unusedSimpArgs false
set_option maxRecDepth 100000
set_option maxHeartbeats 1000000
section
variable {M:List Nat} {w0:World} {H:List (Nat×Obj)} {F0:List (World→Prop)} {b:Nat} {P:List LB} {pA:Option Addr} {pc vars fuel every:Nat}
theorem Qkw (x:XS) (l:XL) (z:HC) (w:World) (hbd:XBd x) (hz:hat x.h.cs l.g=some z) (hlo:l.o≤x.ch.length) (hlen:x.h.cs.length≤65536) (hld:z.s.toList=[108,101,115,115]∨z.s.toList=[97,100,100]→Qf0 x.h (l.g+1)∧Qf0 x.h (l.g+1+1)) (hs:XSt M w0 H F0 b P pA pc vars fuel every x w):
  Calls Tryz.prog 58 #[ptm b,.agg (Qty l).toArray] w fun e w'=>e= .returned (.int .i64 (Qe3 l x).1)∧XSt M w0 H F0 b P pA pc vars fuel every (Qe3 l x).2 w':=by
 obtain ⟨d,F,hFF,hok,hS⟩:=hs;obtain ⟨hA,hc,hB,hd,LA,lc,O1,cs,CA,cc,O2,evs,EA,ec,O3⟩:=d
 have hgz:Qbc x.h l.g=z:=by unfold Qbc;rw [hz];rfl
 have hbm:Qe3 l x=if z.s.toList=[33] then (0,⟨x.h,x.goals,x.ln,x.first,x.ch.drop (x.ch.length-l.o),x.ev⟩)
  else if z.s.toList=[116,114,117,101] then (0,x) else if z.s.toList=[101,113] then QeZ (l.g+1) (l.g+1+1) x
  else if z.s.toList=[108,101,115,115] then QlX (l.g+1) x else if z.s.toList=[97,100,100] then Qtp (l.g+1) x else QdE x:=by
  unfold Qe3;rw [hgz]
 obtain ⟨z0,z1,z2⟩:=Qa7.1 hz;obtain ⟨hb_,ho_,rfl⟩:∃b o,hA=some ⟨b,o,none⟩:=(hS.und hok.hh).1.some_ (by show 0<x.h.cs.length;omega);have hcell:∀{H'} w',St M w0 H' F w'→_:=fun w' hS=>((hS.und hok.hh).1).cell z2
 have hxs:∀w',St M w0 ((b,mob P pA pc vars fuel every x ⟨some ⟨hb_,ho_,none⟩,hc,hB,hd,LA,lc,O1,cs,CA,cc,O2,evs,EA,ec,O3⟩)::(O1++(O2++(O3++H)))) F w'→XSt M w0 H F0 b P pA pc vars fuel every x w':=fun w' h=>⟨_,F,hFF,hok,h⟩
 have hlc:cs.length=x.ch.length:=by
  have:cs.map LX.xc=x.ch:=hok.hc;rw [←this];simp
 have hcn:=hbd.cn;refine Qo Tryz.func58 rfl Tryz.ntmps58 rfl ?_;by_cases h1:z.s.toList=[33]
 ·rw [if_pos h1] at hbm;rw [hbm];have e1:=(QR [33]).1 h1;have hrow2:Row 151 4 (.slice CA cs.length cc) cs.length (xcL cs.reverse) O2:=hok.row2;have hcap:=hrow2.cap;have hcut:=hrow2.cut (m:=l.o) Ya;dsimp only [mob,mcs] at hS;refine Zg ?_;clear hS;intro b1 wx1 hS;refine Zec ?_;replace hS:=hS.drew;refine Zed ?_;refine Zbf ?_;refine Zci ?_;refine Zp ?_;refine Zgq ?_;replace hS:=hS.drew;refine ZD ?_;refine ZR ?_;refine Zdq ?_;refine ZeV ?_;refine Zbu ?_;refine ZeV ?_;refine Qd rfl (fun _ hS=>QP (sz:=4) rfl rfl rfl rfl Ya Ya) rfl ?_;refine ZbT ?_;refine Zdq ?_;refine ZcU ?_;clear hS;intro wx2 hS;refine Zc ?_;refine Zl ?_;refine Zdr ?_;refine ⟨rfl,⟨some ⟨hb_,ho_,none⟩,hc,hB,hd,LA,lc,O1,cs.drop (cs.length-l.o),CA,cc,O2,evs,EA,ec,O3⟩,F,hFF,?_,?_⟩
  ·have e2:(cs.drop (cs.length-l.o)).length=l.o:=by simp;omega
   refine ⟨hok.hh,hok.row1,?_,fun c hc=>hok.rc c (List.mem_of_mem_drop hc),?_,hok.he,hok.re,hok.row3,hok.rp⟩
   ·show (cs.drop (cs.length-l.o)).map LX.xc=x.ch.drop (x.ch.length-l.o);rw [←show cs.map LX.xc=x.ch from hok.hc,List.map_drop];simp
   ·show Row _ _ (.slice CA (cs.drop (cs.length-l.o)).length cc) (cs.drop (cs.length-l.o)).length _ _;rw [e2]
    have e3:(xcL cs.reverse).take (l.o*4)=xcL (cs.drop (cs.length-l.o)).reverse:=by
     have e4:cs.reverse=(cs.drop (cs.length-l.o)).reverse++(cs.take (cs.length-l.o)).reverse:=by rw [←List.reverse_append,List.take_append_drop]
     rw [e4,Qlo,List.take_append_of_le_length (by rw [Qct];simp;omega),List.take_of_length_le (by rw [Qct];simp;omega)]
    rw [←e3];exact hcut
  ·have e2:(cs.drop (cs.length-l.o)).length=l.o:=by simp;omega
   dsimp only [mob,mcs] at hS⊢;rw [e2];exact hS.drop
 rw [if_neg h1] at hbm;have e1:z.s≠⟨#[33]⟩:=fun h=>h1 ((QR [33]).2 h);by_cases h2:z.s.toList=[116,114,117,101]
 ·rw [if_pos h2] at hbm;rw [hbm];have e2:=(QR [116,114,117,101]).1 h2;refine Zg ?_;clear hS;intro b1 wx1 hS;refine Zec ?_;replace hS:=hS.drew;refine Zed ?_;refine Zgh ?_;refine Zci ?_;refine Zl ?_;refine Zdr ?_;exact ⟨rfl,hxs _ hS.drop⟩
 rw [if_neg h2] at hbm;have e2:z.s≠⟨#[116,114,117,101]⟩:=fun h=>h2 ((QR [116,114,117,101]).2 h);by_cases h3:z.s.toList=[101,113]
 ·rw [if_pos h3] at hbm;rw [hbm];have e3:=(QR [101,113]).1 h3;refine Zg ?_;clear hS;intro b1 wx1 hS;refine Zec ?_;replace hS:=hS.drew;refine Zed ?_;refine Zcj ?_;refine Zci ?_;refine Zd6 ?_;refine Zab ?_;refine Calls.mono (Qim x (l.g+1) (l.g+1+1) _ hbd (hxs _ hS.drop)) ?_;rintro _ w5 ⟨rfl,hq⟩;refine ZM ?_;refine Zdr ?_;exact ⟨rfl,hq⟩
 rw [if_neg h3] at hbm;have e3:z.s≠⟨#[101,113]⟩:=fun h=>h3 ((QR [101,113]).2 h);by_cases h4:z.s.toList=[108,101,115,115]
 ·rw [if_pos h4] at hbm;rw [hbm];have e4:=(QR [108,101,115,115]).1 h4;obtain ⟨l1,l2⟩:=hld (.inl h4);refine Zg ?_;clear hS;intro b1 wx1 hS;refine Zec ?_;replace hS:=hS.drew;refine Zed ?_;refine Zcj ?_;refine ZcE ?_;refine Zci ?_;refine Zbm ?_;refine Calls.mono (QpR x (l.g+1) _ hbd Ya l1 l2 hlen (hxs _ hS.drop)) ?_;rintro _ w5 ⟨rfl,hq⟩;refine ZM ?_;refine Zdr ?_;exact ⟨rfl,hq⟩
 rw [if_neg h4] at hbm;have e4:z.s≠⟨#[108,101,115,115]⟩:=fun h=>h4 ((QR [108,101,115,115]).2 h);by_cases h5:z.s.toList=[97,100,100]
 ·rw [if_pos h5] at hbm;rw [hbm];have e5:=(QR [97,100,100]).1 h5;obtain ⟨l1,l2⟩:=hld (.inr h5);refine Zg ?_;clear hS;intro b1 wx1 hS;refine Zec ?_;replace hS:=hS.drew;refine Zed ?_;refine Zcj ?_;refine ZcE ?_;refine ZcE ?_;refine Zci ?_;refine Zbm ?_;refine Calls.mono (Qrt x (l.g+1) _ hbd Ya l1 l2 hlen (hxs _ hS.drop)) ?_;rintro _ w5 ⟨rfl,hq⟩;refine ZM ?_;refine Zdr ?_;exact ⟨rfl,hq⟩
 rw [if_neg h5] at hbm;have e5:z.s≠⟨#[97,100,100]⟩:=fun h=>h5 ((QR [97,100,100]).2 h);rw [hbm];refine Zg ?_;clear hS;intro b1 wx1 hS;refine Zec ?_;replace hS:=hS.drew;refine Zed ?_;refine Zcj ?_;refine ZcE ?_;refine ZcE ?_;refine Z4 ?_;refine Zck ?_;refine Za8 ?_;refine Calls.mono (QdP x _ hbd (hxs _ hS.drop)) ?_;rintro _ w5 ⟨rfl,hq⟩;refine ZM ?_;refine Zdr ?_;exact ⟨rfl,hq⟩
end
section
variable {M:List Nat} {w0:World} {H:List (Nat×Obj)} {F:List (World→Prop)}
theorem QhK (z:HC) (w:World) (h0:0≤z.n) (h1:z.n≤1000000) (hS:St M w0 H F w):
  Calls Tryz.prog 57 #[.agg (hcs z).toArray] w fun e w'=>e= .returned (.bool (QM z.s.toList z.n.toNat))∧St M w0 H F w':=by
 obtain ⟨zk,zn,zs⟩:=z;dsimp only at h0 h1;obtain ⟨k,rfl⟩:=Int.eq_ofNat_of_zero_le h0;refine Qu Tryz.func57 rfl Tryz.ntmps57 rfl ?_;refine Zg ?_;clear hS;intro b1 wx1 hS;refine Zav ?_;refine QY (St _ _ _ _) 8 ((0,true)::(1,true)::(2,true)::(3,true)::(4,false)::(5,true)::(6,false)::(7,true)::[]) Yc Yc (hS.drew) ?_;replace hS:=hS.drew;refine Zc7 ?_;refine Zac ?_;refine Zbu ?_;refine Zac ?_;refine ZW ?_;refine Qgc (sz:=4) (bts:=56) hS rfl rfl rfl rfl Ya Ya rfl ?_;clear hS;intro g w2 cs hcs hS;refine Zdo ?_;refine ZgF ?_;refine ZW ?_;refine Zs ?_;refine Calls.mono (Qep 0 0 zs (some ⟨g,0,none⟩) k k _) ?_;rintro _ w3 ⟨rfl,hb3⟩;refine Za ?_;replace hS:=hS.grow hb3;refine Zdo ?_;refine Za1 ?_;refine Zd4 ?_;refine Qg Tryz.func57 rfl Yb ?_;exact ⟨rfl,hS.drop.drop⟩
end
section
variable {M:List Nat} {w0:World} {H:List (Nat×Obj)} {F0:List (World→Prop)} {b:Nat} {P:List LB} {pA:Option Addr} {pc vars fuel every:Nat}
theorem Qor (z:HC) (P:List LB):(P.map LB.cl).filter (fun c=>decide (Qhi c=z))=(P.filter (QkW z)).map LB.cl:=by
 rw [List.filter_map];rfl
theorem QpT (x:XS) (a:Nat) (z:HC) (w:World) (hbd:XBd x) (ha:a<x.ln.length) (hz:hat x.h.cs (lnk x.ln a).g=some z) (hlen:x.h.cs.length≤65536) (htr:x.h.tr.length≤1000000) (hP:∀p∈P,p.ok∧GOk p.cl) (hl:P.length≤24) (hs:XSt M w0 H F0 b P pA pc vars fuel every x w):
  Calls Tryz.prog 59 #[ptm b,.int .i64 (a:Nat)] w fun e w'=>e= .returned (.int .i64 (Qju (P.map LB.cl) a x).1)∧XSt M w0 H F0 b P pA pc vars fuel every (Qju (P.map LB.cl) a x).2 w':=by
 obtain ⟨d,F,hFF,hok,hS⟩:=hs;obtain ⟨hA,hc,hB,hd,LA,lc,O1,cs,CA,cc,O2,evs,EA,ec,O3⟩:=d
 have hgz:Qbc x.h (lnk x.ln a).g=z:=by unfold Qbc;rw [hz];rfl
 have hcx:Qju (P.map LB.cl) a x=match (P.filter (QkW z)).map LB.cl with
   |[]=>(5,x)
   |c::more=>QoE (Qig x.ch) a x.h.cs.length x.h.tr.length (c::more) x:=by
  unfold Qju;rw [hgz,Qor];cases P.filter (QkW z)<;>rfl
 obtain ⟨z0,z1,z2⟩:=Qa7.1 hz;obtain ⟨hb_,ho_,rfl⟩:∃b o,hA=some ⟨b,o,none⟩:=(hS.und hok.hh).1.some_ (by show 0<x.h.cs.length;omega);have hcell:∀{H'} w',St M w0 H' F w'→_:=fun w' hS=>((hS.und hok.hh).1).cell z2;obtain ⟨l0,l1,l2⟩:=Qfa x.ln a _ (Qek ha);have hrow1:Row 101 3 (.slice LA x.ln.length lc) x.ln.length (xlL x.ln) O1:=hok.row1;obtain ⟨gl,sp,rfl,rfl,hcap⟩:=hrow1.some_ Ya;have hll:∀{M2 H' F'} w',St M2 w0 H' F' w'→(gl,Obj.cells (xlL x.ln++sp).toArray 101)∈H'→_:=fun {M2 H' F'} w' (hS:St M2 w0 H' F' w') hm=>Row.cell (w:=w') hrow1 hS Yv rfl l0;have hln:=hbd.ln;refine Qo Tryz.func59 rfl Tryz.ntmps59 rfl ?_;refine Zl ?_;refine Zp ?_;refine Zf3 ?_;replace hS:=hS.drew;refine ZD ?_;refine Zan ?_;refine Z1 ?_;refine ZeE ?_;refine ZR ?_;refine ZeA ?_;refine ZeE ?_;refine ZD ?_;refine Za0 ?_;refine Z1 ?_;refine ZeE ?_;refine Za0 ?_
 first
  |refine Qd rfl (fun _ hS=>Qb (k:=3) hS rfl rfl rfl Ym Yf) rfl ?_
  |refine Qd rfl (fun _ hS=>Qb (k:=3) hS rfl rfl rfl Ym Ye) rfl ?_
  |refine Qd rfl (fun _ hS=>QaV rfl rfl rfl YW YW YW) rfl ?_
 refine ZY ?_;refine Zj ?_;refine Calls.mono (Qi6 (F0:=F) x z _ (fun p hp=>(hP p hp).1) hl ⟨_,F,fun _ h=>h,hok,hS⟩) ?_;rintro _ w3 ⟨A3,c3,F3,rfl,hF3,hL3,hq⟩;refine Za ?_;clear hS;obtain ⟨d4,F4,hF4,hok4,hS⟩:=hq;have hfl:=List.length_filter_le (QkW z) P;have hsub:∀p∈P.filter (QkW z),GOk p.cl:=fun p hp=>(hP p (List.mem_filter.1 hp).1).2;rw [hcx];generalize P.filter (QkW z)=L at*
 cases L with
 |nil=>
  refine Zw ?_;refine ZO ?_;refine Zk ?_;refine Z0 ?_;refine Qg Tryz.func59 rfl Yb ?_;exact ⟨rfl,d4,F4,fun φ h=>hF4 φ (hF3 φ (hFF φ h)),hok4,hS⟩
 |cons y R=>
  refine Zw ?_;refine ZO ?_;refine Zak ?_;refine Zp ?_;obtain ⟨hA5,hc5,hB5,hd5,LA5,lc5,O15,cs5,CA5,cc5,O25,evs5,EA5,ec5,O35⟩:=d4;refine Zf3 ?_;replace hS:=hS.drew;refine Za7 ?_;refine ZD ?_;refine Zan ?_;refine Z1 ?_;refine ZeE ?_;refine ZfY ?_;refine Zan ?_;refine Zbu ?_;refine ZeE ?_;refine ZfY ?_;refine Qd rfl (fun _ hS=>QB (cells:=[_,_,_,_]) (.cons Yb (.cons Yb (.cons Yb (.cons Yb .nil)))) rfl) rfl ?_;refine ZY ?_;refine Zj ?_;refine Calls.mono (QfQ _ (Qik _) x a x.h.cs.length x.h.tr.length (y::R) A3 c3 _ rfl hbd ha hsub Ya Ya Ya hL3 ⟨_,F4,hF4,hok4,hS⟩) ?_;rintro _ w6 ⟨rfl,hq⟩;refine ZM ?_;refine Qg Tryz.func59 rfl Yb ?_;exact ⟨rfl,hq.weaken fun φ h=>hF3 φ (hFF φ h)⟩
end
theorem Qgz (h:HH) (a most:Int):(Qbb h a most).1.ar.nodes≤65536∧(Qbb h a most).2.1≤65536:=by
 unfold Qbb
 have hm:Qi5 most≤65536:=by unfold Qi5;omega
 split
 ·exact ⟨by simp [Qd5,Ts.nodes],by simp⟩
 ·split
  ·exact ⟨by simp [Qd5,Ts.nodes],by simp⟩
  ·split
   ·exact ⟨by simp [Qd5,Ts.nodes],by simp⟩
   ·rename_i t l ht;have:=QdI _ _ _ _ ht;dsimp only at this⊢;omega
theorem Qgt (h:HH):∀(m v:Nat) (l:Int) (T:Ts) (l':Int),Qb3 h m v l=some (T,l')→T.nodes≤m*65537∧T.length=m
 |0,v,l,T,l',e=>by
  simp only [Qb3,Option.some.injEq,Prod.mk.injEq] at e;rw [←e.1];simp [Ts.nodes,Ts.length]
 |m+1,v,l,T,l',e=>by
  unfold Qb3 at e;split at e
  ·cases e
  ·cases h2:Qb3 h m (v+1) (l-((Qbb h (v:Nat) l).2.1:Nat)) with
   |none=>rw [h2] at e;cases e
   |some p=>
    obtain ⟨U,l2⟩:=p;rw [h2] at e;simp only [Option.some.injEq,Prod.mk.injEq] at e;have i:=Qgt h m (v+1) _ U l2 h2;have j:=Qgz h (v:Nat) l;rw [←e.1];simp only [Ts.nodes,Ts.length];omega
section
variable {M:List Nat} {w0:World} {H:List (Nat×Obj)} {F0:List (World→Prop)} {b:Nat} {P:List LB} {pA:Option Addr} {pc vars fuel every:Nat}
theorem QlU (x:XS) (w:World) (hbd:XBd x) (hv8:vars≤8) (hev:x.ev.length<12) (hs:XSt M w0 H F0 b P pA pc vars fuel every x w):
  Calls Tryz.prog 55 #[ptm b] w fun e w'=>e= .returned (.int .i64 (QcB vars x).1)∧XSt M w0 H F0 b P pA pc vars fuel every (QcB vars x).2 w':=by
 obtain ⟨d,F,hFF,hok,hS⟩:=hs;obtain ⟨hA,hc,hB,hd,LA,lc,O1,cs,CA,cc,O2,evs,EA,ec,O3⟩:=d;refine Qu Tryz.func55 rfl Tryz.ntmps55 rfl ?_;refine Zl ?_;refine Zag ?_;refine ZbE ?_;refine Qgc (sz:=4) (bts:=56) hS rfl rfl rfl rfl Ya Ya rfl ?_;clear hS;intro g w2 zs hzs hS;refine Zd ?_;refine Zx ?_;refine ZN ?_;refine Qy 16 4 (17::18::5::20::21::22::23::24::25::26::19::27::28::29::6::7::8::30::31::2::32::33::34::35::36::37::38::39::[]) (fun (m:Nat) v u w'=>∃(D':TA) (rs:List Value) (li:Int) (F':List (World→Prop)),D'.len+m=vars∧rs.length=m*4∧v= .int .i64 (D'.len:Nat)∧u= .int .i64 li∧200-65536*(D'.len:Int)≤li∧li≤200∧Qb3 x.h vars 0 200=(Qb3 x.h m D'.len li).map (fun p=>(D'.ts.app p.1,p.2))∧(∀φ∈F,φ∈F')∧Und F' (Qli D')∧St M w0 ((g,.cells (QfK D'++rs).toArray 63)::(b,mob P pA pc vars fuel every x ⟨hA,hc,hB,hd,LA,lc,O1,cs,CA,cc,O2,evs,EA,ec,O3⟩)::(O1++(O2++(O3++H)))) F' w') (fun m=>m) (vars) ?_ Yb Yb ?_
 ·exact ⟨.nil,zs,200,F,by simp [TA.len],hzs,rfl,rfl,by simp [TA.len],by omega,(by show Qb3 x.h vars 0 200=(Qb3 x.h vars 0 200).map _;cases Qb3 x.h vars 0 200<;>rfl),fun _ h=>h,fun _ _=>trivial,hS⟩
 clear hS;rintro m _ _ w6 jv ⟨D',rs,li,F',hDm,hrs,rfl,rfl,hli0,hli,hvm,hFF',hAR,hS⟩ ih;have hD4:=QmD D';have hok':=hok.mono hFF'
 cases m with
 |zero=>
  obtain rfl:rs=[]:=List.eq_nil_of_length_eq_zero (by simpa using hrs)
  have hvm2:Qb3 x.h vars 0 200=some (D'.ts,li):=by
   rw [hvm];show some (D'.ts.app .nil,li)=_;rw [Ts.app_nil]
  have hnd:=(Qgt _ _ _ _ _ _ hvm2).1;have hDl:D'.len=vars:=by omega
  have hArA:∀w',St M w0 ((g,.cells (QfK D'++[]).toArray 63)::(b,mob P pA pc vars fuel every x ⟨hA,hc,hB,hd,LA,lc,O1,cs,CA,cc,O2,evs,EA,ec,O3⟩)::(O1++(O2++(O3++H)))) F' w'→ArA (some ⟨g,0,none⟩) vars D' w':=fun w' hS=>by
   refine ⟨by omega,fun _=>⟨g,0,rfl,Qlz (hS.und hAR) fun j x hj=> ?_⟩⟩;rw [Qv (hS.own (g,_) (.head _)),Nat.zero_add,List.append_nil];exact hj
  have hrow3:Row 34 2 (.slice EA evs.length ec) evs.length (evL evs) O3:=hok'.row3
  have hlev:evs.length=x.ev.length:=by
   have:evs.map (fun e=>e.T.ts)=x.ev:=hok.he;rw [←this];simp
  refine ZL ?_;refine Zp ?_;replace hS:=hS.swap;refine QY (St _ w0 [_] []) 12 ((0,true)::(1,true)::(2,true)::(3,true)::(4,true)::(5,true)::(6,false)::(7,true)::(8,false)::(9,false)::(10,true)::(11,true)::[]) Yc Yc (hS.drew.bare1) ?_;replace hS:=hS.drew;refine ZD ?_;refine ZR ?_;refine Zf4 ?_;refine Zac ?_;refine ZD ?_;refine ZW ?_;have htid:=Qq6 D'.ts (.slice (some ⟨g,0,none⟩) vars vars) _ (by have:=(hArA _ hS.swap).sl;rw [hDl] at this;exact this) Ya;refine Zs ?_;refine Calls.mono htid ?_;rintro _ w7 ⟨v7,rfl,hsl,hbl⟩;refine Za ?_;obtain ⟨A7,c7,L7,rfl,hL7,hS'⟩:=hS.located hbl hsl;replace hS:=hS';clear hS';refine ZbX ?_;refine Qd rfl (fun _ hS=>QB (cells:=[_,_]) (.cons Yb (.cons Yb .nil)) rfl) rfl ?_;refine ZW ?_;refine Ze3 ?_;clear hS;intro b1 wx1 hS;refine ZbX ?_;refine ZW ?_;refine Qb9 (sz:=2) (bts:=32) hS Yb rfl rfl rfl rfl (hrow3) rfl rfl (.cons _ (Qi2 [_,_] _ _ _ _)) Ya Ya rfl ?_;clear hS;intro v8 O8 w9 hrow8 hS;obtain ⟨A8,c8,rfl⟩:=hrow8.form;replace hS:=hS.perm (Qi2 [_,_] _ _ _ _).symm
  have hans:QcB vars x=if x.ev.length+1=12 then (6,x.tell D'.ts) else QdE (x.tell D'.ts):=by
   unfold QcB;rw [hvm2]
  have hs2:∀w',St M w0 ((b,mob P pA pc vars fuel every (x.tell D'.ts) ⟨hA,hc,hB,hd,LA,lc,O1,cs,CA,cc,O2,evs++[⟨A7,c7,L7⟩],A8,c8,O8⟩)::(g,.cells (QfK D'++[]).toArray 63)::(O1++(O2++(O8++H)))) (ArA A7 c7 L7::F') w'→XSt M w0 H F0 b P pA pc vars fuel every (x.tell D'.ts) w':=fun w' hS=>by
   refine ⟨⟨hA,hc,hB,hd,LA,lc,O1,cs,CA,cc,O2,evs++[⟨A7,c7,L7⟩],A8,c8,O8⟩,_,fun φ h=> .tail _ (hFF' φ (hFF φ h)),?_,hS.swap.drop⟩;have ho:=hok'.mono (F':=ArA A7 c7 L7::F') fun φ h=> .tail _ h;refine ⟨ho.hh,ho.row1,ho.hc,ho.rc,ho.row2,?_,?_,?_,ho.rp⟩
   ·show (evs++[LE.mk A7 c7 L7]).map _=_;rw [List.map_append,show evs.map (fun e=>e.T.ts)=x.ev from ho.he];simp [hL7,XS.tell]
   ·intro e he;rcases List.mem_append.1 he with he|he
    ·exact ho.re e he
    ·obtain rfl:e=⟨A7,c7,L7⟩:=by simpa using he
     exact Und.head
   ·show Row _ _ (.slice A8 (evs++[LE.mk A7 c7 L7]).length c8) (evs++[LE.mk A7 c7 L7]).length (evL (evs++[LE.mk A7 c7 L7])) _;rw [Qtf,List.length_append];exact hrow8
  have hb2:XBd (x.tell D'.ts):=⟨hbd.ln,hbd.cn,hbd.ch⟩
  have hlen1:(evs++[LE.mk A7 c7 L7]).length=evs.length+1:=by simp
  by_cases h12:x.ev.length+1=12
  ·rw [if_pos h12] at hans;rw [hans];refine ZbX ?_;refine ZbT ?_;refine Zf4 ?_;refine ZcU ?_;clear hS;intro wx2 hS;refine Zao ?_;refine ZB ?_;refine Qa (Qf (off:=10) rfl rfl) rfl ?_;refine ZcO ?_;refine Zk ?_;refine Z0 ?_;refine Qg Tryz.func55 rfl Yb ?_;exact ⟨rfl,hs2 _ (by dsimp only [mob,mcs];rw [hlen1];exact hS)⟩
  ·rw [if_neg h12] at hans;rw [hans];refine ZbX ?_;refine ZbT ?_;refine Zf4 ?_;refine ZcU ?_;clear hS;intro wx2 hS;refine Zao ?_;refine ZB ?_;refine Qa (Qf (off:=10) rfl rfl) rfl ?_;refine ZcO ?_;refine Zak ?_;refine Za8 ?_;refine Calls.mono (QdP _ _ hb2 (hs2 _ (by dsimp only [mob,mcs];rw [hlen1];exact hS))) ?_;rintro _ w9 ⟨rfl,hq⟩;refine ZM ?_;refine Qg Tryz.func55 rfl Yb ?_;exact ⟨rfl,hq⟩
 |succ m=>
  obtain ⟨r0,r1,r2,r3,rs,rfl⟩:∃r0 r1 r2 r3 rs',rs=[r0,r1,r2,r3]++rs':=by
   match rs,hrs with
   |r0::r1::r2::r3::rs',_=>exact ⟨r0,r1,r2,r3,rs',rfl⟩
   |[],h=>simp at h
   |[_],h=>simp at h;omega
   |[_,_],h=>simp at h;omega
   |[_,_,_],h=>simp at h;omega
  have hvs:Qb3 x.h (m+1) D'.len li=if (Qbb x.h (D'.len:Nat) li).2.2≠0 then none else match Qb3 x.h m (D'.len+1) (li-((Qbb x.h (D'.len:Nat) li).2.1:Nat)) with
   |none=>none
   |some (T,l'')=>some (.cons (Qbb x.h (D'.len:Nat) li).1.k (Qbb x.h (D'.len:Nat) li).1.n (Qbb x.h (D'.len:Nat) li).1.s (Qbb x.h (D'.len:Nat) li).1.ar T,l''):=rfl
  have htn:=(Qgz x.h (D'.len:Nat) li).2;refine Zax ?_;refine ZaG ?_;refine Zaf ?_;refine ZK ?_;refine Zab ?_;refine Calls.mono (Qo8 x.h (D'.len:Nat) li hA hB hc hd _ hok'.hh hS) ?_;rintro _ w7 ⟨u2,F2,rfl,hu2,hF2,hru2,hS'⟩;refine Za ?_;replace hS:=hS';clear hS';by_cases he:(Qbb x.h (D'.len:Nat) li).2.2=0
  ·rw [if_neg (fun h => h he)] at hvs;refine ZbH ?_;refine ZG ?_;clear hS;intro b1 wx1 hS;refine Zb ?_;clear hS;intro wx2 hS;refine Zbi ?_;refine Zo ?_;refine Zz ?_;refine Zt ?_;refine ZaB ?_;refine Zar ?_;refine ZgZ ?_;clear hS;intro w8 hS;refine Zd2 ?_;refine Zgg ?_;refine Zap ?_;refine ih (m) _ _ _ _ ?_ ?_ Yb Yb Yc
   ·omega
   ·refine ⟨D'.app (.cons u2.k u2.n u2.s u2.A u2.c u2.ar .nil),rs,li-((Qbb x.h (D'.len:Nat) li).2.1:Nat),F2,by rw [TA.len_app];simp only [TA.len];omega,by simp at hrs;omega,by rw [TA.len_app];rfl,rfl,by rw [TA.len_app];simp only [TA.len];omega,by omega,?_,fun φ h=>hF2 φ (hFF' φ h),?_,?_⟩
    ·rw [hvm,hvs,TA.app_ts,TA.len_app];show Option.map _ (match Qb3 x.h m (D'.len+1) _ with|none=>none|some (T,l'')=>_)=Option.map _ (Qb3 x.h m (D'.len+1) _)
     cases Qb3 x.h m (D'.len+1) (li-((Qbb x.h (D'.len:Nat) li).2.1:Nat)) with
     |none=>rfl
     |some q=>
      obtain ⟨T,l2⟩:=q;show some (D'.ts.app _,l2)=some ((D'.ts.app (.cons u2.k u2.n u2.s u2.ar.ts .nil)).app T,l2);rw [Ts.app_assoc,←hu2];rfl
    ·exact fun w hw=>Qli.app (U:= .cons u2.k u2.n u2.s u2.A u2.c u2.ar .nil) ⟨hru2 w hw,trivial⟩ ((hAR.mono hF2) w hw)
    ·rw [Qf4,List.append_assoc];exact hS.drop
  ·rw [if_pos he] at hvs;rw [hvs] at hvm
   have e:QcB vars x=(4,x):=by unfold QcB;rw [hvm];rfl
   rw [e];refine ZbH ?_;refine ZG ?_;clear hS;intro b1 wx1 hS;refine Zb ?_;clear hS;intro wx2 hS;refine Zbi ?_;refine Zo ?_;refine Z0 ?_;refine Qg Tryz.func55 rfl Yb ?_;exact ⟨rfl,_,F2,fun φ h=>hF2 φ (hFF' φ (hFF φ h)),hok'.mono hF2,hS.drop.drop⟩
end
theorem QmK {S:List Bool} {i:Nat} (h:S[i]?=some false):(S.set i true).count false+1=S.count false:=by
 induction S generalizing i with
 |nil=>simp at h
 |cons a r ih=>
  cases i with
  |zero=>simp at h;subst h;simp
  |succ i=>
   have:=ih (i:=i) YY;simp only [List.set_cons_succ,List.count_cons];omega
abbrev Qg8 (V:List Nat):List Value:=Qn (V.map fun (i:Nat)=>(i:Int))
def Qts (L:List XL):Prop:=∀l∈L,l.nx= -1∨(0≤l.nx∧l.nx<L.length)
section
variable {M:List Nat} {w0:World} {H T:List (Nat×Obj)} {F:List (World→Prop)} {b:Nat} {cz:List Value} {ct:TypeId}
theorem Qin (L:List XL) (i:Int) (S:List Bool) (V:List Nat) (f:Nat) (sb zb mb lb:Nat) (VA:Option Addr) (vc:Nat) (Ol:List (Nat×Obj)) (gl:Nat) (sp cs1 cs2:List Value) (lcap:Nat) (w:World) (hL:Qts L) (hS1:S.length=L.length) (hl:L.length≤1000000) (hcs:cs1.length=7) (hgl:(gl,Obj.cells (xlL L++sp).toArray 101)∈T) (hLp:0<L.length)
  (hi:i= -1∨(0≤i∧i<L.length)) (hf:S.count false<f) (hV:V.length+S.count false≤L.length) (hrow:Row 3 1 (.slice VA V.length vc) V.length (Qg8 V) Ol)
  (hS:St M w0 ((sb,.cells #[.slice (some ⟨zb,0,none⟩) L.length L.length] 202)::(zb,.cells (QU S).toArray 4)::(mb,.cells #[ptm b] 50)::(lb,.cells #[.slice VA V.length vc] 54)::(b,.cells (cs1++ .slice (some ⟨gl,0,none⟩) L.length lcap::cs2).toArray 61)::(Ol++T)) F w):
  Calls Tryz.prog 147 #[.int .i64 i,.pointer (some ⟨sb,0,none⟩),.pointer (some ⟨mb,0,none⟩),.pointer (some ⟨lb,0,none⟩)] w fun e w'=>e= .returned (.tuple #[])∧∃(VA':Option Addr) (vc':Nat) (Ol':List (Nat×Obj)),(Qav L f i (S,V)).1.length=L.length∧(Qav L f i (S,V)).2.length+(Qav L f i (S,V)).1.count false≤L.length∧Row 3 1 (.slice VA' (Qav L f i (S,V)).2.length vc') (Qav L f i (S,V)).2.length (Qg8 (Qav L f i (S,V)).2) Ol'∧
   St M w0 ((sb,.cells #[.slice (some ⟨zb,0,none⟩) L.length L.length] 202)::(zb,.cells (QU (Qav L f i (S,V)).1).toArray 4)::(mb,.cells #[ptm b] 50)::(lb,.cells #[.slice VA' (Qav L f i (S,V)).2.length vc'] 54)::(b,.cells (cs1++ .slice (some ⟨gl,0,none⟩) L.length lcap::cs2).toArray 61)::(Ol'++T)) F w':=by
 obtain ⟨c0,c1,c2,c3,c4,c5,c6,rfl⟩:∃c0 c1 c2 c3 c4 c5 c6,cs1=[c0,c1,c2,c3,c4,c5,c6]:=by
  match cs1,hcs with
  |[c0,c1,c2,c3,c4,c5,c6],_=>exact ⟨c0,c1,c2,c3,c4,c5,c6,rfl⟩
 refine Qem Tryz.func147 rfl Tryz.ntmps147 rfl ?_;refine Zcv ?_;refine Qr 0 (5::6::7::8::9::10::11::12::13::22::23::24::25::26::27::28::14::15::16::17::18::19::20::21::[]) (fun (y:List Bool×List Nat) v w'=>∃(j:Int) (f':Nat) (VA:Option Addr) (vc:Nat) (Ol:List (Nat×Obj)),v= .int .i64 j∧y.1.length=L.length∧(j= -1∨(0≤j∧j<L.length))∧y.1.count false<f'∧y.2.length+y.1.count false≤L.length∧Qav L f i (S,V)=Qav L f' j y∧Row 3 1 (.slice VA y.2.length vc) y.2.length (Qg8 y.2) Ol∧St M w0 ((sb,.cells #[.slice (some ⟨zb,0,none⟩) L.length L.length] 202)::(zb,.cells (QU y.1).toArray 4)::(mb,.cells #[ptm b] 50)::(lb,.cells #[.slice VA y.2.length vc] 54)::(b,.cells ([c0,c1,c2,c3,c4,c5,c6]++ .slice (some ⟨gl,0,none⟩) L.length lcap::cs2).toArray 61)::(Ol++T)) F w') (fun y=>y.1.count false) ((S,V)) ?_ Yb ?_
 ·exact ⟨i,f,VA,vc,Ol,rfl,hS1,hi,hf,hV,rfl,hrow,hS⟩
 clear hS hrow hV hf hi hS1;rintro ⟨S1,V1⟩ _ w2 jv ⟨j,f',VA1,vc1,Ol1,rfl,hS1,hi,hf,hV,hch,hrow,hS⟩ ih;dsimp only at hS1 hf hV hrow hS
 obtain ⟨f',rfl⟩:∃k,f'=k+1:=⟨f'-1,by omega⟩
 have hun:Qav L (f'+1) j (S1,V1)=if j= -1 then (S1,V1) else if S1[j.toNat]?=some true then (S1,V1) else Qav L f' (lnk L j.toNat).nx (S1.set j.toNat true,V1++[j.toNat]):=rfl
 by_cases hj:j= -1
 ·rw [hch,hun,if_pos hj];refine Zq ?_;refine Zo ?_;refine ZbK ?_;refine Zr ?_;refine ZaR ?_;refine Qbl Tryz.func147 rfl ?_;exact ⟨rfl,VA1,vc1,Ol1,hS1,hV,hrow,hS⟩
 ·have hj0:0≤j∧j<L.length:=hi.resolve_left hj
  obtain ⟨v,hv⟩:∃v,S1[j.toNat]?=some v:=⟨S1[j.toNat]'Ya,List.getElem?_eq_getElem _⟩
  have hsv:∀{M2 H' F'} w',St M2 w0 H' F' w'→(zb,Obj.cells (QU S1).toArray 4)∈H'→w'.cell? ⟨zb,0+j.toNat*1,none⟩=some (.bool v):=fun {M2 H' F'} w' (hS:St M2 w0 H' F' w') hm=>by
   rw [Qv (hS.own _ hm)];simp [QU,hv]
  cases v with
  |true=>
   rw [hch,hun,if_neg hj,if_pos hv];refine Zq ?_;refine Zo ?_;refine ZA ?_;refine Zhe ?_;refine Zi ?_;refine ZA ?_;refine ZS ?_;refine Zi ?_;refine Zhe ?_;refine Zcm ?_;refine ZaR ?_;refine Qbl Tryz.func147 rfl ?_;exact ⟨rfl,VA1,vc1,Ol1,hS1,hV,hrow,hS⟩
  |false=>
   have hput:=QfC S1 j.toNat true Ya;have hcnt:=QmK hv;obtain ⟨l0,l1,l2⟩:=Qfa L j.toNat _ (Qek (L:=L) (a:=j.toNat) Ya)
   have hll:∀{M2 H' F'} w',St M2 w0 H' F' w'→(gl,Obj.cells (xlL L++sp).toArray 101)∈H'→w'.cell? ⟨gl,0+j.toNat*3+2,none⟩=some (.int .i64 (lnk L j.toNat).nx):=fun {M2 H' F'} w' (hS:St M2 w0 H' F' w') hm=>by
    rw [Qv (hS.own _ hm),Nat.zero_add,List.getElem?_append_left]
    ·exact l2
    ·rw [Qgq];omega
   refine Zq ?_;refine Zo ?_;refine ZA ?_;refine ZcC ?_;refine Zi ?_;refine ZA ?_;refine ZS ?_;refine Zi ?_;refine ZcC ?_;refine ZbF ?_;refine Zbd ?_;refine Zgb ?_;refine Zf ?_;refine ZcC ?_;refine ZcG ?_;refine Zex ?_;clear hS;intro w5 hS;refine Zc ?_;refine Zaz ?_;refine ZcC ?_;refine Ze ?_;refine Zby ?_;clear hS;intro b1 wx1 hS;refine Qb9 (sz:=1) (bts:=8) hS Yb rfl rfl rfl rfl (hrow) rfl rfl (.cons _ (List.perm_append_comm_assoc [_,_,_,_,_] Ol1 T)) Ya Ya rfl ?_;clear hS;intro v8 O8 w8 hrow8 hS;obtain ⟨A8,c8,rfl⟩:=hrow8.form;replace hS:=hS.perm (List.perm_append_comm_assoc O8 [_,_,_,_,_] T);refine Zy ?_;clear hS;intro wx2 hS;refine Zc ?_;refine Zfo ?_;refine ZcC ?_;refine ZB ?_;refine ZeB ?_;refine ZcC ?_;refine Ze ?_;refine Z6 ?_;refine Zam ?_;refine ZcC ?_;refine Zd ?_;have hnx:=hL _ (List.mem_of_getElem? (Qek (L:=L) (a:=j.toNat) Ya));refine ih ((S1.set j.toNat true,V1++[j.toNat])) _ _ _ ?_ ?_ Yb Yc
   ·show (S1.set j.toNat true).count false<S1.count false;omega
   ·refine ⟨_,f',A8,c8,O8,rfl,by simpa using hS1,hnx,by show (S1.set j.toNat true).count false<f';omega,by show (V1++[j.toNat]).length+(S1.set j.toNat true).count false≤_;simp only [List.length_append,List.length_cons,List.length_nil];omega,?_,?_,?_⟩
    ·rw [hch,hun,if_neg hj,if_neg (by rw [hv];simp)]
    ·have:Qg8 (V1++[j.toNat])=Qg8 V1++[.int .i64 j]:=by simp [Qg8,Qn,Int.toNat_of_nonneg hj0.1]
     show Row _ 1 (.slice A8 (V1++[j.toNat]).length c8) (V1++[j.toNat]).length (Qg8 (V1++[j.toNat])) O8;rw [this,List.length_append];exact hrow8
    ·show St M w0 (_::_::_::(lb,.cells #[.slice A8 (V1++[j.toNat]).length c8] _)::_) F _;rw [List.length_append];exact hS
end
theorem St.freezeRow {M:List Nat} {w0 w:World} {H O:List (Nat×Obj)} {F:List (World→Prop)} {el sz len c:Nat} {A:Option Addr} {xs:List Value} (hr:Row el sz (.slice A len c) len xs O) (hS:St M w0 (O++H) F w):
  ∃F',(∀φ∈F,φ∈F')∧Und F' (Qz sz xs A len c)∧St M w0 H F' w:=by
 obtain ⟨F',h1,h2,h3⟩:=St.freezeL hS;refine ⟨F',h1,fun w' hw'=>⟨hr.len_,hr.cap,fun hl=> ?_⟩,h3⟩;obtain ⟨g,sp,rfl,rfl,_⟩:=hr.some_ hl;refine ⟨g,0,rfl,fun j u hu=> ?_⟩
 have hjl:j<xs.length:=by
  rcases Nat.lt_or_ge j xs.length with hh|hh
  ·exact hh
  ·rw [List.getElem?_eq_none hh] at hu;cases hu
 rw [Qv (h2 _ (.head _) w' hw'),Nat.zero_add,List.getElem?_append_left hjl];exact hu
section
variable {M:List Nat} {w0:World} {H:List (Nat×Obj)} {F0:List (World→Prop)} {b:Nat} {P:List LB} {pA:Option Addr} {pc vars fuel every:Nat}
theorem QpQ (x:XS) (w:World) (hbd:XBd x) (hL:Qts x.ln) (hLp:0<x.ln.length) (hf:x.first= -1∨(0≤x.first∧x.first<x.ln.length)) (hs:XSt M w0 H F0 b P pA pc vars fuel every x w):
  Calls Tryz.prog 94 #[ptm b] w fun e w'=>∃(A:Option Addr) (c:Nat) (F1:List (World→Prop)),e= .returned (.slice A (QbH x).length c)∧(∀φ∈F0,φ∈F1)∧Und F1 (Qz 1 (Qg8 (QbH x)) A (QbH x).length c)∧XSt M w0 H F1 b P pA pc vars fuel every x w':=by
 obtain ⟨d,F,hFF,hok,hS⟩:=hs;obtain ⟨hA,hc,hB,hd,LA,lc,O1,cs,CA,cc,O2,evs,EA,ec,O3⟩:=d;have hrow1:Row 101 3 (.slice LA x.ln.length lc) x.ln.length (xlL x.ln) O1:=hok.row1;obtain ⟨gl,sp,rfl,rfl,hcap⟩:=hrow1.some_ hLp;have hln:=hbd.ln;have hcn:=hbd.cn;have hcs:cs.map LX.xc=x.ch:=hok.hc
 have hlc:cs.length=x.ch.length:=by rw [←hcs];simp
 have hrow2:Row 151 4 (.slice CA cs.length cc) cs.length (xcL cs.reverse) O2:=hok.row2;have hct:(List.replicate x.ln.length false).count false<x.ln.length+1:=by simp
 refine Qu Tryz.func94 rfl Tryz.ntmps94 rfl ?_;refine Zg ?_;clear hS;intro b1 wx1 hS;refine ZdL ?_;refine Zen ?_;clear hS;intro b2 wx2 hS;refine ZcM ?_;refine Zm ?_;refine ZB ?_;refine ZeB ?_;refine ZcO ?_;refine QcG (k:=x.ln.length) (bts:=1) (z:= .bool false) hS Yb Yb rfl rfl rfl rfl Ya Ya rfl ?_;clear hS;intro zb w2 hS;refine Zen ?_;clear hS;intro b3 wx3 hS;refine Zy ?_;clear hS;intro wx4 hS;refine ZcM ?_;refine Qa (QfN Qjy (Qsl Yb Yb Yb)) rfl ?_;refine Zau ?_;refine Zm ?_;refine Zee ?_;refine Zm ?_;rw [show List.replicate x.ln.length (Value.bool false)=QU (List.replicate x.ln.length false) by simp [QU]] at hS;replace hS:=hS.perm (.cons _ (.cons _ (.swap _ _ _)));refine Zet ?_;refine Calls.mono (Qin (T:=([(gl,.cells (xlL x.ln++sp).toArray 101)]++(O2++(O3++H)))) x.ln x.first (List.replicate x.ln.length false) [] (x.ln.length+1) b3 zb b1 b2 none 0 [] gl sp [.slice hA x.h.cs.length hc,.slice hB x.h.tr.length hd,.slice pA P.length pc,.int .i64 (vars:Nat),.int .i64 (fuel:Nat),.int .i64 (x.goals:Nat),.int .i64 (every:Nat)] [.int .i64 x.first,.slice CA cs.length cc,.slice EA evs.length ec] lc _ hL Yd Ya rfl Yd hLp hf hct Yd Row.nil_ hS) ?_;rintro _ w5 ⟨rfl,VA1,vc1,Ol1,hn1,hn2,hrow,hS'⟩;refine Za ?_;replace hS:=hS';clear hS'
 have hlv:QbH x=(QbP x.ln (cs.reverse.map LX.xc) (Qav x.ln (x.ln.length+1) x.first (List.replicate x.ln.length false,[]))).2:=by
  unfold QbH;rw [←hcs,List.map_reverse]
 generalize hp0:Qav x.ln (x.ln.length+1) x.first (List.replicate x.ln.length false,[])=p0 at*;refine Z8 ?_;refine Zf ?_;refine Zm ?_;refine ZB ?_;refine ZbY ?_;refine Zm ?_;refine ZN ?_;refine Qr 26 (27::28::29::7::30::31::32::33::34::[]) (fun (R:List LX) v w'=>∃(D:List LX) (p:List Bool×List Nat) (VA:Option Addr) (vc:Nat) (Ol:List (Nat×Obj)),cs.reverse=D++R∧v= .int .i64 (D.length:Nat)∧p.1.length=x.ln.length∧p.2.length+p.1.count false≤x.ln.length∧QbP x.ln (cs.reverse.map LX.xc) p0=QbP x.ln (R.map LX.xc) p∧Row 3 1 (.slice VA p.2.length vc) p.2.length (Qg8 p.2) Ol∧St M w0 ((b3,.cells #[.slice (some ⟨zb,0,none⟩) x.ln.length x.ln.length] 202)::(zb,.cells (QU p.1).toArray 4)::(b1,.cells #[ptm b] 50)::(b2,.cells #[.slice VA p.2.length vc] 54)::(b,.cells (([.slice hA x.h.cs.length hc,.slice hB x.h.tr.length hd,.slice pA P.length pc,.int .i64 (vars:Nat),.int .i64 (fuel:Nat),.int .i64 (x.goals:Nat),.int .i64 (every:Nat)]:List Value)++(Value.slice (some ⟨gl,0,none⟩) x.ln.length lc::([.int .i64 x.first,.slice CA cs.length cc,.slice EA evs.length ec]:List Value))).toArray 61)::(Ol++([(gl,.cells (xlL x.ln++sp).toArray 101)]++(O2++(O3++H))))) F w') (fun R=>R.length) (cs.reverse) ?_ Yb ?_
 ·exact ⟨[],p0,VA1,vc1,Ol1,rfl,rfl,hn1,hn2,rfl,hrow,hS⟩
 clear hS hrow hn1 hn2;rintro R _ w6 jv ⟨D,p,VA2,vc2,Ol2,hDR,rfl,hn1,hn2,hch,hrow,hS⟩ ih
 have hlen:cs.length=D.length+R.length:=by
  have:=congrArg List.length hDR;simpa using this
 cases R with
 |nil=>
  simp only [List.length_nil] at hlen
  have e:QbH x=p.2:=by rw [hlv,hch];rfl
  rw [e];refine ZL ?_;refine Zf ?_;refine Zm ?_;refine Zd ?_;refine Qg Tryz.func94 rfl Yb ?_;obtain ⟨F',h1,h2,h3⟩:=St.freezeRow (H:=(b,mob P pA pc vars fuel every x ⟨hA,hc,hB,hd,some ⟨gl,0,none⟩,lc,[(gl,.cells (xlL x.ln++sp).toArray 101)],cs,CA,cc,O2,evs,EA,ec,O3⟩)::([(gl,.cells (xlL x.ln++sp).toArray 101)]++(O2++(O3++H)))) hrow (hS.drop.drop.drop.drop.perm List.perm_middle.symm);exact ⟨VA2,vc2,F',rfl,fun φ h=>h1 φ (hFF φ h),h2,_,F',fun _ h=>h,hok.mono h1,h3⟩
 |cons c R=>
  simp only [List.length_cons] at hlen;have hcm:c∈cs:=List.mem_reverse.1 Y9;have hca:c.at_<x.ln.length:=(hbd.ch c.xc (by rw [←hcs];exact List.mem_map.2 ⟨c,hcm,rfl⟩)).1;obtain ⟨k0,k1,k2,k3⟩:=QiL cs.reverse D.length c Y9;obtain ⟨gc,sp2,rfl,rfl,hcap2⟩:=hrow2.some_ Ya;have hcl:∀{M2 H' F'} w',St M2 w0 H' F' w'→(gc,Obj.cells (xcL cs.reverse++sp2).toArray 151)∈H'→_:=fun {M2 H' F'} w' (hS:St M2 w0 H' F' w') hm=>And.intro (Row.cell (w:=w') hrow2 hS Yv rfl k0) (And.intro (Row.cell (w:=w') hrow2 hS Yv rfl k1) (And.intro (Row.cell (w:=w') hrow2 hS Yv rfl k2) (Row.cell (w:=w') hrow2 hS Yv rfl k3)))
  have hct2:p.1.count false<x.ln.length+1:=by have:=List.count_le_length (a:=false) (l:=p.1);omega
  refine Zb2 ?_;refine Zar ?_;refine ZeD ?_;refine ZG ?_;clear hS;intro b4 wx5 hS;refine Zb ?_;clear hS;intro wx6 hS;refine Zd2 ?_;refine Z3 ?_;refine ZeC ?_;refine Zet ?_;refine Calls.mono (Qin (T:=([(gl,.cells (xlL x.ln++sp).toArray 101)]++([(gc,.cells (xcL cs.reverse++sp2).toArray 151)]++(O3++H)))) x.ln (c.at_:Nat) p.1 p.2 (x.ln.length+1) b3 zb b1 b2 VA2 vc2 Ol2 gl sp [.slice hA x.h.cs.length hc,.slice hB x.h.tr.length hd,.slice pA P.length pc,.int .i64 (vars:Nat),.int .i64 (fuel:Nat),.int .i64 (x.goals:Nat),.int .i64 (every:Nat)] [.int .i64 x.first,.slice (some ⟨gc,0,none⟩) cs.length cc,.slice EA evs.length ec] lc _ hL hn1 Ya rfl Yd hLp (.inr ⟨by omega,by omega⟩) hct2 hn2 hrow hS.drop) ?_;rintro _ w7 ⟨rfl,VA3,vc3,Ol3,hm1,hm2,hrow3,hS'⟩;refine Za ?_;replace hS:=hS';clear hS';refine Zay ?_;refine ih (R) _ _ _ ?_ ?_ Yb Yc
  ·simp
  ·exact ⟨D++[c],Qav x.ln (x.ln.length+1) (c.at_:Nat) p,VA3,vc3,Ol3,by rw [hDR];simp,by simp,hm1,hm2,hch,hrow3,hS⟩
end
end Go.Proofs.YthliapbflkfdiacGreatDoor
