/- RefW5, RefW6, RefW7, MinMax, RefP1, RefP2: texts that follow one another, laid into one file. -/
import Derived.Test.YthliapbflkfdiacGreatDoorZ0
import Derived.Test.YthliapbflkfdiacGreatDoorG17
import Derived.Test.YthliapbflkfdiacGreatDoorG6
import Derived.Test.YthliapbflkfdiacGreatDoorG0
import Derived.Test.YthliapbflkfdiacGreatDoorG5
import Derived.Lib.ItoaLen
import Derived.Lib.ItoaMem
import Derived.Ground.NamesProg
import Derived.Shelf.Strings.OnBuilder
namespace Go.Proofs.YthliapbflkfdiacGreatDoor
open Go.RowKit Go.Shelf
set_option linter.unusedVariables false
set_option linter.unusedSimpArgs false
set_option maxRecDepth 100000
set_option maxHeartbeats 1000000
theorem Qln:∀d,d≤100→Qhh d
 |0,h=>QnP 0 h fun e he=>by omega
 |d+1,h=>QnP (d+1) h fun e he=>by
  obtain rfl:d=e:=by omega
  exact Qln d Ya
theorem QpC:Qhh 24:=Qln 24 Yf
theorem QoE (p:PS) (L V:Value) (VH:List (Nat×Obj)) (M:List Nat) (w0 w:World) (H:List (Nat×Obj)) (F:List (World→Prop)) (b:Nat) (φ:World→Prop) (hφ:φ∈F)
  (hl:p.l.length≤2000) (hl2:p.vars.length+p.l.length≤4000) (hL:Sx φ L p.l) (hV:QkN p.vars V VH) (hS:St M w0 ((b,psr L V p.bad)::(VH++H)) F w):
  Calls Tryz.prog 82 #[ptr b] w fun e w'=>∃v L' V' VH',e= .returned v∧Sx φ L' (QJ p).2.l∧QkN (QJ p).2.vars V' VH'∧
   St M w0 ((b,psr L' V' (QJ p).2.bad)::(VH'++H)) ((fun w=>Sl w (fun _=>True) v (QaI (QJ p).1))::F) w':=by
 have hf:=Qbu 24
 refine Qg Tryz.func82 rfl Tryz.ntmps82 rfl ?_
 refine Zg ?_
 refine ZP ?_
 refine Calls.mono (QpC p L V VH M w0 _ H F b φ hφ hl hl2 hL hV hS) ?_
 rintro _ w1 ⟨v,L1,V1,VH1,rfl,hL1,hV1,hS'⟩
 refine Za ?_
 replace hS:=hS'
 clear hS'
 obtain ⟨A1,c1,rfl,_⟩:=(hS.fact (.head _)).form
 have hles:=hf p
 have hfew:=Qcm 24 p
 have hi:QJ p=([(Ql 24 p).1]++(QL (Ql 24) (Ql 24 p).2.l.length (Ql 24 p).2).1,(QL (Ql 24) (Ql 24 p).2.l.length (Ql 24 p).2).2.close [46]):=rfl
 generalize Ql 24 p=r1 at*
 obtain ⟨nd,p1⟩:=r1
 dsimp only at*
 refine ZaO ?_
 clear hS
 intro b1 wx1 hS
 refine Zd9 ?_
 have hS0:=(St.sink (L:=(b,psr L1 V1 p1.bad)::VH1) hS).conv (ψ:=fun w=>Cs w (fun _=>True) (QaI [nd]) [.int .i64 nd.k,.int .i64 nd.n,sv nd.s,.slice A1 nd.ar.length c1]) fun w h=>⟨_,[],rfl,h,rfl⟩
 clear hS
 refine Qp 3 (7::8::9::10::11::12::13::14::15::16::17::18::19::20::[]) (fun (x:List Nd×PS) v w'=>∃L V VH O xs,Sx φ L x.2.l∧QkN x.2.vars V VH∧Row 63 4 v x.1.length xs O∧St M w0 ((b,psr L V x.2.bad)::(VH++(O++H))) ((fun w=>Cs w (fun _=>True) (QaI x.1) xs)::F) w'∧x.1.length+x.2.l.length≤2001∧x.2.l.length≤2000∧x.2.vars.length+x.2.l.length≤4000∧QJ p=(x.1++(QL (Ql 24) x.2.l.length x.2).1,(QL (Ql 24) x.2.l.length x.2).2.close [46])) (fun x=>x.2.l.length) (([nd],p1)) ?_ Yb ?_
 ·exact ⟨L1,V1,VH1,_,_,hL1,hV1,Row.built rfl Yf,hS0,by show 1+p1.l.length≤_;omega,by show p1.l.length≤_;omega,by show p1.vars.length+p1.l.length≤_;omega,hi⟩
 clear hS0 hi hV1 hL1
 rintro ⟨D,p4⟩ v2 w6 jv6 ⟨L4,V4,VH4,O5,xs,hL4,hV4,hR5,hS,hD1,hD2,hD3,hi⟩ ih
 dsimp only at hL4 hV4 hR5 hS hD1 hD2 hD3 hi
 obtain ⟨l4,vars4,bad4⟩:=p4
 dsimp only at hL4 hV4 hR5 hS hD1 hD2 hD3 hi
 obtain ⟨Ao,co,rfl⟩:=hR5.form
 have hfin:∀(L:Value) (bd:Bool) (w':World),St M w0 ((b,psr L V4 bd)::(VH4++(O5++H))) ((fun w=>Cs w (fun _=>True) (QaI D) xs)::F) w'→St M w0 ((b,psr L V4 bd)::(VH4++H)) ((fun w=>Sl w (fun _=>True) (.slice Ao D.length co) (QaI D))::F) w':=by
  intro L bd w' h
  have h2:=h.perm (List.perm_append_comm_assoc ((b,psr L V4 bd)::VH4) O5 H)
  have hR6:=hR5
  rw [←Qdk D] at hR6⊢
  exact St.shut hR6 h2
 cases bad4 with
 |true=>
  have hst:=QbU (f:=Ql 24) (p:=⟨l4,vars4,true⟩) Yd
  dsimp only at hst
  rw [hst] at hi
  have ecl:PS.close ⟨l4,vars4,true⟩ [46]=⟨l4,vars4,true⟩:=rfl
  simp only [List.append_nil,ecl] at hi
  rw [hi]
  refine Za3 ?_
  refine ZL ?_
  refine Zai ?_
  refine Zbk ?_
  refine ZfL ?_
  refine Zal ?_
  refine Zdt ?_
  clear hS
  intro wx2 hS
  refine Zcn ?_
  refine Qd Tryz.func82 rfl Yb ?_
  exact ⟨_,L4,V4,VH4,rfl,hL4,hV4,hfin _ _ _ hS⟩
 |false=>
  cases hcm:PS.has ⟨l4,vars4,false⟩ [44] with
  |true=>
   have hst:=Qe5 hf (p:=⟨l4,vars4,false⟩) ⟨rfl,hcm⟩
   have hrl4:=(Qer hcm).1
   dsimp only [PS.pop] at hrl4 hst
   have htk:=Qbk ⟨l4,vars4,false⟩ [44] _ _ _ hL4 (.tail _ hφ) hS
   rw [hcm] at htk
   simp only [if_true,PS.pop] at htk
   refine Za3 ?_
   refine ZdG ?_
   refine Ze ?_
   refine Calls.mono (htk) ?_
   rintro _ w7 ⟨L5,rfl,hL5,hS'⟩
   refine Za ?_
   replace hS:=hS'
   clear hS'
   refine Zav ?_
   refine ZbF ?_
   refine ZaS ?_
   refine Ze ?_
   refine Calls.mono (QpC ⟨l4.tail,vars4,false⟩ L5 _ VH4 M w0 _ _ _ b φ (.tail _ hφ) (by show l4.tail.length≤_;omega) (by show vars4.length+l4.tail.length≤_;omega) hL5 hV4 hS) ?_
   rintro _ w8 ⟨v,L6,V6,VH6,rfl,hL6,hV6,hS'⟩
   refine Za ?_
   replace hS:=hS'
   clear hS' htk
   obtain ⟨A6,c6,rfl,_⟩:=(hS.fact (.head _)).form
   have hles6:=hf ⟨l4.tail,vars4,false⟩
   have hfew6:=Qcm 24 ⟨l4.tail,vars4,false⟩
   dsimp only at hles6 hfew6
   generalize Ql 24 ⟨l4.tail,vars4,false⟩=r6 at*
   obtain ⟨nd6,p6⟩:=r6
   dsimp only at*
   refine ZaO ?_
   clear hS
   intro b2 wx2 hS
   refine Qar (sz:=4) (bts:=56) hS Yb rfl rfl rfl rfl (hR5) rfl rfl (.cons _ (List.perm_append_comm_assoc (_::VH6) O5 H)) Ya Ya rfl ?_
   clear hS
   intro v9 O9 w9 hR9 hS
   replace hS:=(hS.perm (List.perm_append_comm_assoc O9 (_::VH6) H)).conv2 (ψ:=fun w=>Cs w (fun _=>True) (QaI (D++[nd6])) (xs++[.int .i64 nd6.k,.int .i64 nd6.n,sv nd6.s,.slice A6 nd6.ar.length c6])) fun w h1 h2=>by
    rw [Qix];exact Cs.app h2 ⟨_,[],rfl,h1,rfl⟩
   obtain ⟨A9,c9,rfl⟩:=hR9.form
   refine Za1 ?_
   refine ih ((D++[nd6],p6)) _ _ _ ?_ ?_ Yb Yc
   ·show p6.l.length<l4.length;omega
   ·refine ⟨L6,V6,VH6,O9,_,hL6,hV6,?_,hS,?_,?_,?_,?_⟩
    ·simp only [List.length_append,List.length_cons,List.length_nil];exact hR9
    ·simp only [List.length_append,List.length_cons,List.length_nil];omega
    ·show p6.l.length≤_;omega
    ·show p6.vars.length+p6.l.length≤_;omega
    ·rw [hi,hst];simp
  |false=>
   have hst:=QbU (f:=Ql 24) (p:=⟨l4,vars4,false⟩) (by simp [hcm])
   dsimp only at hst
   rw [hst] at hi
   simp only [List.append_nil] at hi
   have htk:=Qbk ⟨l4,vars4,false⟩ [44] _ _ _ hL4 (.tail _ hφ) hS
   rw [hcm] at htk
   simp only [Bool.false_eq_true,if_false] at htk
   refine Za3 ?_
   refine ZdG ?_
   refine Ze ?_
   refine Calls.mono (htk) ?_
   rintro _ w7 ⟨L5,rfl,hL5,hS'⟩
   refine Za ?_
   replace hS:=hS'
   clear hS'
   refine Zbk ?_
   refine ZfL ?_
   refine ZN ?_
   have htk2:=Qbk ⟨l4,vars4,false⟩ [46] _ _ _ hL5 (.tail _ hφ) hS
   cases hcl:PS.has ⟨l4,vars4,false⟩ [46] with
   |true=>
    have ecl:PS.close ⟨l4,vars4,false⟩ [46]=⟨l4.tail,vars4,false⟩:=by unfold PS.close;rw [if_neg Yd,if_pos hcl];rfl
    rw [ecl] at hi
    rw [hi]
    rw [hcl] at htk2
    simp only [if_true,PS.pop] at htk2
    refine Ze ?_
    refine Calls.mono (htk2) ?_
    rintro _ w8 ⟨L6,rfl,hL6,hS'⟩
    refine Za ?_
    replace hS:=hS'
    clear hS'
    refine ZfO ?_
    clear hS
    intro wx2 hS
    refine Zcn ?_
    refine Qd Tryz.func82 rfl Yb ?_
    exact ⟨_,L6,V4,VH4,rfl,hL6,hV4,hfin _ _ _ hS⟩
   |false=>
    have ecl:PS.close ⟨l4,vars4,false⟩ [46]=⟨l4,vars4,true⟩:=by unfold PS.close;rw [if_neg Yd,if_neg (by simp [hcl])];rfl
    rw [ecl] at hi
    rw [hi]
    rw [hcl] at htk2
    simp only [Bool.false_eq_true,if_false] at htk2
    refine Ze ?_
    refine Calls.mono (htk2) ?_
    rintro _ w8 ⟨L6,rfl,hL6,hS'⟩
    refine Za ?_
    replace hS:=hS'
    clear hS'
    refine ZfO ?_
    clear hS
    intro wx2 hS
    refine Zcn ?_
    refine Qd Tryz.func82 rfl Yb ?_
    exact ⟨_,L6,V4,VH4,rfl,hL6,hV4,hfin _ _ _ hS⟩
def Qz1 (f:PS→Nd×PS):Prop:=∀p,(f p).1.ar.nodes+(f p).2.l.length≤p.l.length
theorem Qia {f:PS→Nd×PS} (hf:Qz1 f):∀(n:Nat) (p:PS),(QaI (QL f n p).1).nodes+(QL f n p).2.l.length≤p.l.length
 |0,p=>by simp [QL,QaI,Ts.nodes]
 |n+1,p=>by
  unfold QL
  split
  ·rename_i h
   have h1:=(Qer h.2).1
   have h2:=hf p.pop
   have h3:=Qia hf n (f p.pop).2
   simp only [QaI,Ts.nodes]
   omega
  ·simp [QaI,Ts.nodes]
theorem Qb5 {f:PS→Nd×PS} (hf:Qz1 f) (t:Str) (p:PS):(QaI (QO f t p).1).nodes+(QO f t p).2.l.length≤p.l.length+1:=by
 have h1:=Qia hf (f p).2.l.length (f p).2
 have h2:=hf p
 have h3:=QiT (QL f (f p).2.l.length (f p).2).2 t
 simp only [QO,QaI,Ts.nodes]
 omega
theorem QbT:∀d,Qz1 (Ql d)
 |0,p=>by simp [Ql,Nd.zero,Ts.nodes,PS.spoil]
 |d+1,p=>by
  unfold Ql
  split
  ·simp [Nd.zero,Ts.nodes,PS.spoil]
  ·simp [Nd.zero,Ts.nodes,PS.spoil]
  ·rename_i c r q hl
   have h1:p.pop.l.length+1=p.l.length:=by simp [PS.pop,hl]
   split
   ·simp only [Ts.nodes];omega
   split
   ·simp only [Ts.nodes];rw [(QqZ _ _).1];omega
   split
   ·simp only [Ts.nodes];omega
   split
   ·simp [Nd.zero,Ts.nodes,PS.spoil]
   split
   ·rename_i hp
    have h2:=Qb5 (QbT d) [41] p.pop.pop
    have h3:=(Qer hp).1
    simp only;omega
   ·simp only [Ts.nodes];omega
theorem Qhl:∀(n:Nat) (l:Str),(QcZ n l).length≤l.length
 |0,l=>by simp [QcZ]
 |n+1,[]=>by simp [QcZ]
 |n+1,c::r=>by
  unfold QcZ
  split
  ·have:=Qhl n r;simp;omega
  split
  ·simp
  ·rename_i h
   have:=Qhl n ((c::r).drop (Qz (c::r)))
   rw [List.length_drop] at this
   simp at this⊢;omega
theorem Qi4 (l:Str):(Qbj l).length≤l.length:=Qhl _ _
theorem QzV (p:PS):(QaI (Q5 p).1).nodes≤p.l.length+1:=by
 unfold Q5
 split
 ·have h1:=Qb5 (QbT 24) [46] p.pop
  have h2:=QfV p
  unfold QJ
  omega
 ·simp [QaI,Ts.nodes]
section
variable {M:List Nat} {w0:World} {H:List (Nat×Obj)} {F:List (World→Prop)}
theorem QjJ (l:Str) (w:World) (hl0:l.length≤1125899906842624) (hS:St M w0 H F w):
  Calls Tryz.prog 47 #[sv l] w fun e w'=>∃v,e= .returned (.tuple #[v,.int .i64 (QF l).2])∧St M w0 H ((fun w=>SlC w (fun _=>True) v (QF l).1)::F) w':=by
 have hno:∀w,SlC w (fun _=>True) (.slice none 0 0) []:=fun w=>⟨none,0,rfl,Nat.le_refl _,fun h=>by cases h⟩
 have hnil:∀w:World,Sl w (fun _=>True) (.slice none 0 0) .nil:=fun w=>⟨none,0,rfl,Nat.le_refl _,fun h=>by cases h⟩
 by_cases h2000:2000<l.length
 ·have e:QF l=([],3):=by unfold QF;rw [if_pos h2000]
  rw [e]
  refine Qg Tryz.func47 rfl Tryz.ntmps47 rfl ?_
  refine Zaa ?_
  refine ZF ?_
  refine Zba ?_
  refine Zw ?_
  refine Zt ?_
  refine Zaa ?_
  refine Zc7 ?_
  exact ⟨_,rfl,hS.learn fun w _=>hno w⟩
 have hwl:=Qi4 l
 refine Qg Tryz.func47 rfl Tryz.ntmps47 rfl ?_
 refine Zaa ?_
 refine ZF ?_
 refine Zba ?_
 refine Zb4 ?_
 refine ZG ?_
 refine Calls.mono (Qnd l _ Ya hS) ?_
 rintro _ w1 ⟨v1,O1,rfl,hR1,hS'⟩
 refine Za ?_
 obtain ⟨φ,hL1,hS⟩:=St.shutS hR1 hS'
 clear hS' hR1
 obtain ⟨A1,c1,rfl,hc1⟩:=hL1.form
 refine Qa (QD (cells:=[_,_,_]) (.cons Yb .nil) rfl) rfl ?_
 refine ZaX ?_
 clear hS
 intro b1 wx1 hS
 refine Zia ?_
 refine Qp 5 (14::15::16::17::18::19::20::21::22::23::24::25::6::26::27::28::29::30::31::32::33::34::35::36::37::38::39::40::41::42::43::44::45::46::47::48::49::50::51::52::53::54::55::56::57::58::59::60::61::62::63::64::2::3::65::66::67::68::[]) (fun (x:List Cl×PS) v w'=>∃L V VH O xs,Sx φ L x.2.l∧QkN x.2.vars V VH∧Row 65 6 v x.1.length xs O∧St M w0 ((b1,psr L V false)::(VH++(O++H))) ((fun w=>QbR w x.1 xs)::φ::F) w'∧x.2.bad=false∧x.1.length+x.2.l.length≤2000∧QaD (PS.start l).l.length (PS.start l)=(QaD x.2.l.length x.2).map (x.1++·)) (fun x=>x.2.l.length) (([],PS.start l)) ?_ Yb ?_
 ·exact ⟨_,_,[],[],[],hL1,Row.nil_,Row.nil_,hS.learn (fun _ _=>rfl),rfl,by show 0+(Qbj l).length≤_;omega,by simp⟩
 clear hS hL1
 rintro ⟨D,p0⟩ v2 w2 jv ⟨L2,V2,VH2,O2,xs2,hL2,hV2,hR2,hS,hbad,hD1,hi⟩ ih
 obtain ⟨l0,vars0,bad0⟩:=p0
 dsimp only at hL2 hV2 hR2 hS hbad hD1 hi
 subst hbad
 obtain ⟨A2,c2,rfl,hc2⟩:=hL2.form
 obtain ⟨Av,cv,rfl⟩:=hV2.form
 obtain ⟨Ao,co,rfl⟩:=hR2.form
 cases l0 with
 |nil=>
  have hz:=Qgd (p:=⟨[],vars0,false⟩) rfl
  dsimp only at hz
  rw [hz] at hi
  simp only [Option.map_some,List.append_nil] at hi
  by_cases h24:24<D.length
  ·have e:QF l=([],3):=by unfold QF;rw [if_neg h2000,hi];simp only [if_pos h24]
   rw [e]
   refine Zem ?_
   refine ZaJ ?_
   refine Zbp ?_
   refine ZcR ?_
   refine Zt ?_
   refine Zaa ?_
   refine Zc7 ?_
   exact ⟨_,rfl,(St.dropL (L:=O2) (St.dropL (L:=VH2) hS.drop)).unlearn.unlearn.learn fun w _=>hno w⟩
  ·have e:QF l=(D,0):=by unfold QF;rw [if_neg h2000,hi];simp only [if_neg h24]
   rw [e]
   refine Zem ?_
   refine ZaJ ?_
   refine Zbp ?_
   refine ZcR ?_
   refine Zo ?_
   refine Zee ?_
   refine Zc7 ?_
   refine Za ?_
   have hq:=St.shutC hR2 (St.dropL (L:=VH2) hS.drop)
   exact hq.forget fun ψ hψ=>by
    rcases List.mem_cons.1 hψ with rfl|hψ
    ·exact .head _
    ·exact .tail _ (.tail _ hψ)
 |cons x0 r0=>
  have hne:(PS.mk (x0::r0) vars0 false).l≠[]:=by simp
  simp only [List.length_cons] at hc2
  have hlt0:(x0::r0).length=r0.length+1:=rfl
  have hcl:Qv ⟨x0::r0,vars0,false⟩=(⟨(Ql 24 ⟨x0::r0,[],false⟩).1.k,(Ql 24 ⟨x0::r0,[],false⟩).1.n,⟨(Ql 24 ⟨x0::r0,[],false⟩).1.s.toArray⟩,(Ql 24 ⟨x0::r0,[],false⟩).1.ar,QaI (Q5 (Ql 24 ⟨x0::r0,[],false⟩).2).1,((Q5 (Ql 24 ⟨x0::r0,[],false⟩).2).2.vars.length:Nat)⟩,(Q5 (Ql 24 ⟨x0::r0,[],false⟩).2).2):=rfl
  have hles:=Qbu 24 ⟨x0::r0,[],false⟩
  have hfew:=Qcm 24 ⟨x0::r0,[],false⟩
  have hfn:=QbT 24 ⟨x0::r0,[],false⟩
  dsimp only at hles hfew hfn
  simp only [List.length_nil,Nat.zero_add] at hfew
  refine Zem ?_
  refine ZaJ ?_
  refine Zea ?_
  refine Z0 ?_
  refine Z7 ?_
  refine Zy ?_
  clear hS
  intro wx2 hS
  refine Za4 ?_
  replace hS:=St.dropMid (L:=VH2) hS
  refine Ze ?_
  refine Calls.mono (QpC ⟨x0::r0,[],false⟩ _ _ [] M w0 _ (O2++H) _ b1 φ (.tail _ (.head _)) (by show (x0::r0).length≤_;omega) (by show 0+(x0::r0).length≤_;omega) hL2 Row.nil_ hS) ?_
  rintro _ w3 ⟨u,L3,V3,VH3,rfl,hL3,hV3,hS'⟩
  refine Za ?_
  replace hS:=hS'
  clear hS'
  obtain ⟨A3,c3,rfl,_⟩:=(hS.fact (.head _)).form
  generalize Ql 24 ⟨x0::r0,[],false⟩=r3 at*
  obtain ⟨nd,p1⟩:=r3
  obtain ⟨l1,vars1,bad1⟩:=p1
  dsimp only at*
  have hbn:=QzV ⟨l1,vars1,bad1⟩
  dsimp only at hbn
  obtain ⟨Av3,cv3,rfl⟩:=hV3.form
  refine Qa (QD (cells:=[_,_,_,_,_,_]) (.cons Yb .nil) rfl) rfl ?_
  refine Zcf ?_
  clear hS
  intro b2 wx3 hS
  refine Zc ?_
  clear hS
  intro wx4 hS
  refine ZfP ?_
  refine ZL ?_
  refine Zf ?_
  cases bad1 with
  |true=>
   have hbd:Q5 ⟨l1,vars1,true⟩=([],⟨l1,vars1,true⟩):=rfl
   refine Z4 ?_
   refine ZQ ?_
   refine Zd6 ?_
   refine Zel ?_
   refine Zam ?_
   refine Zal ?_
   refine Zdt ?_
   clear hS
   intro wx5 hS
   refine Zet ?_
   refine ZfC ?_
   clear hS
   intro wx6 hS
   refine ZfP ?_
   refine Zal ?_
   refine ZaT ?_
   refine Zc7 ?_
   have e:QF l=([],1):=by
    unfold QF
    have hz:=Qa6 hne (by rw [hcl,hbd];exact .inl rfl)
    dsimp only at hz
    rw [if_neg h2000,hi,hz]
    rfl
   rw [e]
   exact ⟨_,rfl,((St.dropL (L:=O2) (St.dropL (L:=VH3) hS.drop.drop)).forget (F':=F) fun ψ hψ=>by simp [hψ]).learn fun w _=>hno w⟩
  |false=>
   cases hcm:PS.has ⟨l1,vars1,false⟩ [58,45] with
   |true=>
    have hbd:Q5 ⟨l1,vars1,false⟩=QJ ⟨l1.tail,vars1,false⟩:=by unfold Q5;rw [if_pos ⟨rfl,hcm⟩];rfl
    have htk:=Qbk ⟨l1,vars1,false⟩ [58,45] _ _ _ hL3 (.tail _ (.tail _ (.head _))) hS.swap
    rw [hcm] at htk
    simp only [if_true,PS.pop] at htk
    have hrl:=(Qer hcm).1
    dsimp only [PS.pop] at hrl
    have hgn:=Qb5 (QbT 24) [46] ⟨l1.tail,vars1,false⟩
    have hgn2:(QaI (QJ ⟨l1.tail,vars1,false⟩).1).nodes≤l1.tail.length+1:=by unfold QJ;dsimp only at hgn;omega
    clear hgn
    refine ZH ?_
    refine Ze ?_
    refine Calls.mono (htk) ?_
    rintro _ w4 ⟨L5,rfl,hL5,hS'⟩
    refine Za ?_
    replace hS:=hS'
    clear hS'
    replace hS:=hS.swap
    refine Zav ?_
    refine Zx ?_
    refine Zj ?_
    refine Calls.mono (QoE ⟨l1.tail,vars1,false⟩ L5 _ VH3 M w0 _ _ _ b1 φ (.tail _ (.tail _ (.head _))) (by show l1.tail.length≤_;omega) (by show vars1.length+l1.tail.length≤_;omega) hL5 hV3 hS.sink1) ?_
    rintro _ w5 ⟨v,L7,V7,VH7,rfl,hL7,hV7,hS'⟩
    refine Za ?_
    replace hS:=hS'.raise1
    clear hS' htk
    obtain ⟨A7,c7,rfl,_⟩:=(hS.fact (.head _)).form
    generalize QJ ⟨l1.tail,vars1,false⟩=q7 at*
    obtain ⟨Bl,l7,vars7,bad7⟩:=q7
    dsimp only at*
    obtain ⟨Av7,cv7,rfl⟩:=hV7.form
    cases bad7 with
    |true=>
     refine Za0 ?_
     refine Zy ?_
     clear hS
     intro wx5 hS
     refine Zet ?_
     refine ZfC ?_
     clear hS
     intro wx6 hS
     refine ZfP ?_
     refine Zal ?_
     refine ZaT ?_
     refine Zc7 ?_
     have e:QF l=([],1):=by
      unfold QF
      have hz:=Qa6 hne (by rw [hcl,hbd];exact .inl rfl)
      dsimp only at hz
      rw [if_neg h2000,hi,hz]
      rfl
     rw [e]
     exact ⟨_,rfl,((St.dropL (L:=O2) (St.dropL (L:=VH7) hS.drop.drop)).forget (F':=F) fun ψ hψ=>by simp [hψ]).learn fun w _=>hno w⟩
    |false=>
     refine Za0 ?_
     refine Zy ?_
     clear hS
     intro wx5 hS
     refine Zet ?_
     refine ZfC ?_
     clear hS
     intro wx6 hS
     refine ZfP ?_
     refine Z3 ?_
     refine ZcF ?_
     refine Zm ?_
     have hg:=Qff ⟨nd.k,nd.n,⟨nd.s.toArray⟩,nd.ar,(QaI Bl),(vars7.length:Nat)⟩ _ _ _ (hS.fact (.tail _ (.head _))) (hS.fact (.head _)) (by simp only;omega) (by simp only;omega)
     refine Zj ?_
     refine Calls.mono hg ?_
     rintro _ w8 ⟨rfl,hb8⟩
     refine Za ?_
     replace hS:=hS.grow hb8
     cases hok:cB ⟨nd.k,nd.n,⟨nd.s.toArray⟩,nd.ar,(QaI Bl),(vars7.length:Nat)⟩ with
     |false=>
      refine ZbH ?_
      refine ZaT ?_
      refine Zc7 ?_
      have e:QF l=([],1):=by
       unfold QF
       have hz:=Qa6 hne (by rw [hcl,hbd];exact .inr hok)
       dsimp only at hz
       rw [if_neg h2000,hi,hz]
       rfl
      rw [e]
      exact ⟨_,rfl,((St.dropL (L:=O2) (St.dropL (L:=VH7) hS.drop.drop)).forget (F':=F) fun ψ hψ=>by simp [hψ]).learn fun w _=>hno w⟩
     |true=>
      have hclt:l7.length<(x0::r0).length:=by
       have:=QcD ⟨x0::r0,vars0,false⟩ (by rw [hcl,hbd])
       rw [hcl,hbd] at this
       exact this
      have hst:=QcC hne (by rw [hcl,hbd];dsimp only;intro h;rcases h with h|h;cases h;rw [hok] at h;cases h)
      rw [hcl,hbd] at hst
      dsimp only at hst
      refine Zbm ?_
      refine Zx ?_
      refine ZcF ?_
      refine Zhx ?_
      clear hS
      intro b3 wx7 hS
      refine Qar (sz:=6) (bts:=88) hS Yb rfl rfl rfl rfl (hR2) rfl rfl (.cons _ (List.perm_append_comm_assoc (_::_::VH7) O2 H)) Ya Ya rfl ?_
      clear hS
      intro v9 O9 w9 hR9 hS
      replace hS:=(hS.perm (List.perm_append_comm_assoc O9 (_::_::VH7) H)).conv2 (ψ:=fun w=>Sl w (fun _=>True) (.slice A3 nd.ar.length c3) nd.ar∧Sl w (fun _=>True) (.slice A7 ((QaI Bl):Ts).length c7) (QaI Bl)) fun w h1 h2=>⟨h2,h1⟩
      replace hS:=hS.conv2 (ψ:=fun w=>QbR w (D++[⟨nd.k,nd.n,⟨nd.s.toArray⟩,nd.ar,(QaI Bl),(vars7.length:Nat)⟩]) (xs2++[.int .i64 nd.k,.int .i64 nd.n,sv nd.s,.slice A3 nd.ar.length c3,.slice A7 ((QaI Bl):Ts).length c7,.int .i64 (vars7.length:Nat)])) fun w h1 h2=>h2.app ⟨_,_,[],rfl,h1.1,h1.2,rfl⟩
      obtain ⟨A9,c9,rfl⟩:=hR9.form
      refine Za1 ?_
      refine ih ((D++[⟨nd.k,nd.n,⟨nd.s.toArray⟩,nd.ar,(QaI Bl),(vars7.length:Nat)⟩],⟨l7,vars7,false⟩)) _ _ _ ?_ ?_ Yb Yc
      ·exact hclt
      ·refine ⟨L7,_,VH7,O9,_,hL7,hV7,?_,hS.drop,rfl,?_,?_⟩
       ·simp only [List.length_append,List.length_cons,List.length_nil];exact hR9
       ·simp only [List.length_append,List.length_cons,List.length_nil];omega
       ·rw [hi,hst];simp [Option.map_map,Function.comp_def]
   |false=>
    have hbd0:Q5 ⟨l1,vars1,false⟩=([],PS.close ⟨l1,vars1,false⟩ [46]):=by unfold Q5;rw [if_neg (by simp [hcm])]
    have htk:=Qbk ⟨l1,vars1,false⟩ [58,45] _ _ _ hL3 (.tail _ (.tail _ (.head _))) hS.swap
    rw [hcm] at htk
    simp only [Bool.false_eq_true,if_false] at htk
    refine ZH ?_
    refine Ze ?_
    refine Calls.mono (htk) ?_
    rintro _ w4 ⟨L5,rfl,hL5,hS'⟩
    refine Za ?_
    replace hS:=hS'
    clear hS'
    replace hS:=hS.swap
    refine ZQ ?_
    refine Zd6 ?_
    refine Zel ?_
    refine Zam ?_
    refine ZN ?_
    have htk2:=Qbk ⟨l1,vars1,false⟩ [46] _ _ _ hL5 (.tail _ (.tail _ (.head _))) hS.swap
    cases hcl2:PS.has ⟨l1,vars1,false⟩ [46] with
    |false=>
     have hbd:Q5 ⟨l1,vars1,false⟩=([],⟨l1,vars1,true⟩):=by rw [hbd0];unfold PS.close;rw [if_neg Yd,if_neg (by simp [hcl2])];rfl
     rw [hcl2] at htk2
     simp only [Bool.false_eq_true,if_false] at htk2
     refine Ze ?_
     refine Calls.mono (htk2) ?_
     rintro _ w5 ⟨L7,rfl,hL7,hS'⟩
     refine Za ?_
     replace hS:=hS'
     clear hS'
     replace hS:=hS.swap
     refine ZfO ?_
     clear hS
     intro wx5 hS
     refine Zet ?_
     refine ZfC ?_
     clear hS
     intro wx6 hS
     refine ZfP ?_
     refine Zal ?_
     refine ZaT ?_
     refine Zc7 ?_
     have e:QF l=([],1):=by
      unfold QF
      have hz:=Qa6 hne (by rw [hcl,hbd];exact .inl rfl)
      dsimp only at hz
      rw [if_neg h2000,hi,hz]
      rfl
     rw [e]
     exact ⟨_,rfl,((St.dropL (L:=O2) (St.dropL (L:=VH3) hS.drop.drop)).forget (F':=F) fun ψ hψ=>by simp [hψ]).learn fun w _=>hno w⟩
    |true=>
     have hbd:Q5 ⟨l1,vars1,false⟩=([],⟨l1.tail,vars1,false⟩):=by rw [hbd0];unfold PS.close;rw [if_neg Yd,if_pos hcl2];rfl
     rw [hcl2] at htk2
     simp only [if_true,PS.pop] at htk2
     have hnn:(QaI ([]:List Nd)).nodes=0:=rfl
     refine Ze ?_
     refine Calls.mono (htk2) ?_
     rintro _ w5 ⟨L7,rfl,hL7,hS'⟩
     refine Za ?_
     replace hS:=hS'
     clear hS'
     replace hS:=hS.swap.learn (φ:=fun w=>Sl w (fun _=>True) (.slice none 0 0) (QaI [])) fun w _=>hnil w
     refine ZfO ?_
     clear hS
     intro wx5 hS
     refine Zet ?_
     refine ZfC ?_
     clear hS
     intro wx6 hS
     refine ZfP ?_
     refine Z3 ?_
     refine ZcF ?_
     refine Zm ?_
     have hg:=Qff ⟨nd.k,nd.n,⟨nd.s.toArray⟩,nd.ar,(QaI []),(vars1.length:Nat)⟩ _ _ _ (hS.fact (.tail _ (.head _))) (hS.fact (.head _)) (by simp only;omega) (by simp only;omega)
     refine Zj ?_
     refine Calls.mono hg ?_
     rintro _ w8 ⟨rfl,hb8⟩
     refine Za ?_
     replace hS:=hS.grow hb8
     cases hok:cB ⟨nd.k,nd.n,⟨nd.s.toArray⟩,nd.ar,(QaI []),(vars1.length:Nat)⟩ with
     |false=>
      refine ZbH ?_
      refine ZaT ?_
      refine Zc7 ?_
      have e:QF l=([],1):=by
       unfold QF
       have hz:=Qa6 hne (by rw [hcl,hbd];exact .inr hok)
       dsimp only at hz
       rw [if_neg h2000,hi,hz]
       rfl
      rw [e]
      exact ⟨_,rfl,((St.dropL (L:=O2) (St.dropL (L:=VH3) hS.drop.drop)).forget (F':=F) fun ψ hψ=>by simp [hψ]).learn fun w _=>hno w⟩
     |true=>
      have hclt:l1.tail.length<(x0::r0).length:=by
       have:=QcD ⟨x0::r0,vars0,false⟩ (by rw [hcl,hbd])
       rw [hcl,hbd] at this
       exact this
      have hst:=QcC hne (by rw [hcl,hbd];dsimp only;intro h;rcases h with h|h;cases h;rw [hok] at h;cases h)
      rw [hcl,hbd] at hst
      dsimp only at hst
      refine Zbm ?_
      refine Zx ?_
      refine ZcF ?_
      refine Zhx ?_
      clear hS
      intro b3 wx7 hS
      refine Qar (sz:=6) (bts:=88) hS Yb rfl rfl rfl rfl (hR2) rfl rfl (.cons _ (List.perm_append_comm_assoc (_::_::VH3) O2 H)) Ya Ya rfl ?_
      clear hS
      intro v9 O9 w9 hR9 hS
      replace hS:=(hS.perm (List.perm_append_comm_assoc O9 (_::_::VH3) H)).conv2 (ψ:=fun w=>Sl w (fun _=>True) (.slice A3 nd.ar.length c3) nd.ar∧Sl w (fun _=>True) (.slice none ((QaI []):Ts).length 0) (QaI [])) fun w h1 h2=>⟨h2,h1⟩
      replace hS:=hS.conv2 (ψ:=fun w=>QbR w (D++[⟨nd.k,nd.n,⟨nd.s.toArray⟩,nd.ar,(QaI []),(vars1.length:Nat)⟩]) (xs2++[.int .i64 nd.k,.int .i64 nd.n,sv nd.s,.slice A3 nd.ar.length c3,.slice none ((QaI []):Ts).length 0,.int .i64 (vars1.length:Nat)])) fun w h1 h2=>h2.app ⟨_,_,[],rfl,h1.1,h1.2,rfl⟩
      obtain ⟨A9,c9,rfl⟩:=hR9.form
      refine Za1 ?_
      refine ih ((D++[⟨nd.k,nd.n,⟨nd.s.toArray⟩,nd.ar,(QaI []),(vars1.length:Nat)⟩],⟨l1.tail,vars1,false⟩)) _ _ _ ?_ ?_ Yb Yc
      ·exact hclt
      ·refine ⟨L7,_,VH3,O9,_,hL7,hV3,?_,hS.drop,rfl,?_,?_⟩
       ·simp only [List.length_append,List.length_cons,List.length_nil];exact hR9
       ·simp only [List.length_append,List.length_cons,List.length_nil];omega
       ·rw [hi,hst];simp [Option.map_map,Function.comp_def]
end
section
variable {M:List Nat} {w0:World} {H:List (Nat×Obj)} {F:List (World→Prop)}
theorem Qmi (l:Str) (w:World) (hl0:l.length≤1125899906842624) (hS:St M w0 H F w):
  Calls Tryz.prog 48 #[sv l] w fun e w'=>∃v,e= .returned (.tuple #[v,.int .i64 ((Qbo l).2.1:Nat),.int .i64 (Qbo l).2.2])∧St M w0 H ((fun w=>Sl w (fun _=>True) v (Qbo l).1)::F) w':=by
 have hnil:∀w:World,Sl w (fun _=>True) (.slice none 0 0) .nil:=fun w=>⟨none,0,rfl,Nat.le_refl _,fun h=>by cases h⟩
 by_cases h2000:2000<l.length
 ·have e:Qbo l=(.nil,0,3):=by unfold Qbo;rw [if_pos h2000]
  rw [e]
  refine Qg Tryz.func48 rfl Tryz.ntmps48 rfl ?_
  refine Zk ?_
  refine ZaH ?_
  refine ZF ?_
  refine Zba ?_
  refine Zw ?_
  refine Zb0 ?_
  refine ZaH ?_
  refine ZgD ?_
  exact ⟨_,rfl,hS.learn fun w _=>hnil w⟩
 have hwl:=Qi4 l
 refine Qg Tryz.func48 rfl Tryz.ntmps48 rfl ?_
 refine Zk ?_
 refine ZaH ?_
 refine ZF ?_
 refine Zba ?_
 refine Zb4 ?_
 refine ZG ?_
 refine Calls.mono (Qnd l _ Ya hS) ?_
 rintro _ w1 ⟨v1,O1,rfl,hR1,hS'⟩
 refine Za ?_
 obtain ⟨φ,hL1,hS⟩:=St.shutS hR1 hS'
 clear hS' hR1
 obtain ⟨A1,c1,rfl,hc1⟩:=hL1.form
 refine Qa (QD (cells:=[_,_,_]) (.cons Yb .nil) rfl) rfl ?_
 refine ZaX ?_
 clear hS
 intro b1 wx1 hS
 refine Zd ?_
 refine ZG ?_
 refine Calls.mono (QoE (PS.start l) _ _ [] M w0 _ H _ b1 φ (.head _) (by show (Qbj l).length≤_;omega) (by show 0+(Qbj l).length≤_;omega) hL1 Row.nil_ hS) ?_
 rintro _ w3 ⟨v,L3,V3,VH3,rfl,hL3,hV3,hS'⟩
 refine Za ?_
 replace hS:=hS'
 clear hS'
 obtain ⟨A3,c3,rfl,_⟩:=(hS.fact (.head _)).form
 have hgn:=Qb5 (QbT 24) [46] (PS.start l)
 have hgn2:(QaI (QJ (PS.start l)).1).nodes≤2001:=by
  unfold QJ
  have:(PS.start l).l.length=(Qbj l).length:=rfl
  omega
 clear hgn
 have e0:Qbo l=if (QJ (PS.start l)).2.bad=true∨(QJ (PS.start l)).2.l≠[]∨qB ((QJ (PS.start l)).2.vars.length:Nat) (QaI (QJ (PS.start l)).1)=false then (.nil,0,1) else (QaI (QJ (PS.start l)).1,(QJ (PS.start l)).2.vars.length,0):=by unfold Qbo;rw [if_neg h2000]
 generalize QJ (PS.start l)=g at*
 obtain ⟨Bl,l7,vars7,bad7⟩:=g
 dsimp only at*
 obtain ⟨Av7,cv7,rfl⟩:=hV3.form
 obtain ⟨A7,c7,rfl,hc7⟩:=hL3.form
 have hout:∀(w':World) (X:Nat×Obj),St M w0 (X::(VH3++H)) ((fun w=>Sl w (fun _=>True) (.slice A3 (QaI Bl).length c3) (QaI Bl))::φ::F) w'→St M w0 H ((fun w=>Sl w (fun _=>True) (.slice none 0 0) .nil)::F) w':=fun w' X h=>
  ((St.dropL (L:=VH3) h.drop).forget (F':=F) fun ψ hψ=>by simp [hψ]).learn fun w _=>hnil w
 cases bad7 with
 |true=>
  rw [if_pos (.inl rfl)] at e0
  rw [e0]
  refine Zd ?_
  refine Za3 ?_
  refine Zdh ?_
  refine ZQ ?_
  refine Zdh ?_
  refine Z4 ?_
  refine Zcl ?_
  refine ZaH ?_
  refine ZgD ?_
  exact ⟨_,rfl,hout _ _ hS⟩
 |false=>
  cases l7 with
  |cons x r=>
   rw [if_pos (.inr (.inl Yd))] at e0
   rw [e0]
   have hlt:(x::r).length=r.length+1:=rfl
   refine Zd ?_
   refine Za3 ?_
   refine Zco ?_
   refine ZaK ?_
   refine Zb8 ?_
   refine ZQ ?_
   refine Zdh ?_
   refine Z4 ?_
   refine Zcl ?_
   refine ZaH ?_
   refine ZgD ?_
   exact ⟨_,rfl,hout _ _ hS⟩
  |nil=>
   have hq:=Qgh (vars7.length:Nat) (QaI Bl) _ _ (hS.fact (.head _)) Ya
   cases hqb:qB (vars7.length:Nat) (QaI Bl) with
   |false=>
    rw [if_pos (.inr (.inr hqb))] at e0
    rw [e0]
    rw [hqb] at hq
    refine Zd ?_
    refine Za3 ?_
    refine Zco ?_
    refine ZaK ?_
    refine Zb8 ?_
    refine Zaw ?_
    refine Z3 ?_
    refine Zbu ?_
    refine ZcO ?_
    refine ZbK ?_
    refine Ze ?_
    refine Calls.mono (hq) ?_
    rintro _ w4 ⟨rfl,hb4⟩
    refine Za ?_
    replace hS:=hS.grow hb4
    refine ZbH ?_
    refine Zcl ?_
    refine ZaH ?_
    refine ZgD ?_
    exact ⟨_,rfl,hout _ _ hS⟩
   |true=>
    rw [if_neg (by simp [hqb])] at e0
    rw [e0]
    rw [hqb] at hq
    refine Zd ?_
    refine Za3 ?_
    refine Zco ?_
    refine ZaK ?_
    refine Zb8 ?_
    refine Zaw ?_
    refine Z3 ?_
    refine Zbu ?_
    refine ZcO ?_
    refine ZbK ?_
    refine Ze ?_
    refine Calls.mono (hq) ?_
    rintro _ w4 ⟨rfl,hb4⟩
    refine Za ?_
    replace hS:=hS.grow hb4
    refine Zbm ?_
    refine Zp ?_
    refine Zjl ?_
    replace hS:=hS.drew
    refine ZK ?_
    refine Zbj ?_
    refine ZbB ?_
    refine Zc3 ?_
    refine Zdz ?_
    refine ZgD ?_
    refine Za ?_
    exact (St.dropL (L:=VH3) hS.drop).forget fun ψ hψ=>by
     rcases List.mem_cons.1 hψ with rfl|hψ
     ·exact .head _
     ·exact .tail _ (.tail _ hψ)
end
section
variable {P:Program} {n:Nat} {e:Env} {w:World} {ty:TypeId} {pos:String} {after:Array Edge} {dst:Option Nat} {x y:Operand} {t t2:TypeId}
theorem Qwx {a c m:Int} {ts:Array TypeId} (hx:ev n e x= .int .i64 a) (hy:ev n e y= .int .i64 c) (hm:m=if a<c then c else a):
  (execOp (ev n e) ⟨dst,.call ⟨.builtin .max, #[x,y],ts⟩,ty,pos,after,none⟩).run P w= .ok (.value (.int .i64 m)) w:=by
 subst hm
 simp only [execOp,resolve,List.map_toArray,List.map_cons,List.map_nil,hx,hy,bind,pure,Sem.bind,invoke,builtin,Builtin.max_,List.foldlM,Builtin.max2]
 by_cases h:a<c
 ·rw [if_pos h];simp [h,Sem.run,Sem.bind];try rfl
 ·rw [if_neg h];simp [h,Sem.run,Sem.bind];try rfl
theorem QiE {a c m:Int} {ts:Array TypeId} (hx:ev n e x= .int .i64 a) (hy:ev n e y= .int .i64 c) (hm:m=if c<a then c else a):
  (execOp (ev n e) ⟨dst,.call ⟨.builtin .min, #[x,y],ts⟩,ty,pos,after,none⟩).run P w= .ok (.value (.int .i64 m)) w:=by
 subst hm
 simp only [execOp,resolve,List.map_toArray,List.map_cons,List.map_nil,hx,hy,bind,pure,Sem.bind,invoke,builtin,Builtin.min_,List.foldlM,Builtin.min2]
 by_cases h:c<a
 ·rw [if_pos h];simp [h,Sem.run,Sem.bind];try rfl
 ·rw [if_neg h];simp [h,Sem.run,Sem.bind];try rfl
theorem QqR {a c:Int} (hx:ev n e x= .int .i64 a) (hy:ev n e y= .int .i64 c) (h0:0<c) (ha:0≤a):
  (execOp (ev n e) ⟨dst,.binOp .rem t x y t2,ty,pos,after,none⟩).run P w= .ok (.value (.int .i64 (a%c))) w:=by
 have h1:¬c=0:=by omega
 have h2:Op.intDiv .rem .i64 a c=pure (.int .i64 (a.tmod c)):=by unfold Op.intDiv;rw [if_neg h1]
 have h3:(execOp (ev n e) ⟨dst,.binOp .rem t x y t2,ty,pos,after,none⟩).run P w=((Op.intDiv .rem .i64 a c).bind fun r=>pure (.value r)).run P w:=by simp only [execOp,hx,hy];rfl
 rw [h3,h2,Int.tmod_eq_emod_of_nonneg ha];rfl
end
section
variable {P:Program} {n:Nat} {e:Env} {w:World} {ty:TypeId} {pos:String} {after:Array Edge} {dst:Option Nat} {x y:Operand} {t t2:TypeId}
theorem Qym {a:Int} (hx:ev n e x= .int .i64 a) (h1: -9223372036854775808≤-a) (h2: -a≤9223372036854775807):
  (execOp (ev n e) ⟨dst,.unOp .neg t x,ty,pos,after,none⟩).run P w= .ok (.value (.int .i64 (-a))) w:=by
 have:(execOp (ev n e) ⟨dst,.unOp .neg t x,ty,pos,after,none⟩).run P w= .ok (.value (.int .i64 (IntKind.i64.wrap (0-a)))) w:=by simp only [execOp,hx];rfl
 rw [this,Int.zero_sub,QdH h1 h2]
theorem QnE {a:Int} (hx:ev n e x= .int .i64 a) (hy:ev n e y= .int .i64 10) (h1: -9223372036854775808≤a) (h2:a≤9223372036854775807):
  (execOp (ev n e) ⟨dst,.binOp .quo t x y t2,ty,pos,after,none⟩).run P w= .ok (.value (.int .i64 (a.tdiv 10))) w:=by
 have:(execOp (ev n e) ⟨dst,.binOp .quo t x y t2,ty,pos,after,none⟩).run P w= .ok (.value (.int .i64 (IntKind.i64.wrap (a.tdiv 10)))) w:=by simp only [execOp,hx,hy];rfl
 have h3: -9223372036854775808≤a.tdiv 10∧a.tdiv 10≤9223372036854775807:=by
  by_cases h:a<0
  ·obtain ⟨k,rfl⟩:∃k:Nat,a= -(k:Int):=⟨a.natAbs,by omega⟩
   rw [Int.neg_tdiv,Int.tdiv_eq_ediv_of_nonneg Ya];omega
  ·rw [Int.tdiv_eq_ediv_of_nonneg Ya];omega
 rw [this,QdH h3.1 h3.2]
theorem QnD {a:Int} (hx:ev n e x= .int .i64 a) (hy:ev n e y= .int .i64 10):
  (execOp (ev n e) ⟨dst,.binOp .rem t x y t2,ty,pos,after,none⟩).run P w= .ok (.value (.int .i64 (a.tmod 10))) w:=by simp only [execOp,hx,hy];rfl
end
theorem QsT (m:Nat) (h:m<10):(([48,49,50,51,52,53,54,55,56,57]:Str).take (((m:Nat):Int)+1).toNat).drop ((m:Nat):Int).toNat=[UInt8.ofNat (48+m)]:=by
 have hh:∀i:Fin 10,(([48,49,50,51,52,53,54,55,56,57]:Str).take (((i.val:Nat):Int)+1).toNat).drop ((i.val:Nat):Int).toNat=[UInt8.ofNat (48+i.val)]:=by decide+kernel
 exact hh ⟨m,h⟩
theorem Qex (n:Int) (h0: -10<n) (h1:n<10) (w:World):Calls Tryz.prog 37 #[.int .i64 n] w fun e w'=>e= .returned (sv (Lib.itoa n))∧w'=w:=by
 have hS:=St.start w
 obtain ⟨m,hm⟩:∃m:Nat,(m:Int)=if n< -n then -n else n:=⟨n.natAbs,by split<;>omega⟩
 have hm10:m<10:=by split at hm<;>omega
 have hd:=QsT m hm10
 have hit:Lib.itoa n=if n<0 then 45::[UInt8.ofNat (48+m)] else [UInt8.ofNat (48+m)]:=by
  unfold Lib.itoa
  by_cases h:n<0
  ·rw [if_pos h,if_pos h,show n.natAbs=m by split at hm<;>omega,Lib.decDigits_one hm10]
  ·rw [if_neg h,if_neg h,show n.toNat=m by split at hm<;>omega,Lib.decDigits_one hm10]
 refine Qg Tryz.func37 rfl Tryz.ntmps37 rfl ?_
 refine Zac ?_
 refine Zw ?_
 refine ZN ?_
 refine Zs ?_
 refine Zdq ?_
 by_cases hn:n<0
 ·rw [if_pos hn] at hit
  rw [hit]
  refine Z2 ?_
  refine Zu ?_
  refine ZfQ ?_
  refine ZW ?_
  refine ZfQ ?_
  refine Zv ?_
  refine Zhp ?_
  refine Zdx ?_
  refine Zb ?_
  rw [hd]
  refine Z2 ?_
  refine Zl ?_
  refine ZhB ?_
  refine Zd ?_
  refine ZhC ?_
  exact ⟨rfl,rfl⟩
 ·rw [if_neg hn] at hit
  rw [hit]
  refine Z2 ?_
  refine Zu ?_
  refine ZfQ ?_
  refine ZW ?_
  refine ZfQ ?_
  refine Zv ?_
  refine Zhp ?_
  refine Zdx ?_
  refine Zb ?_
  rw [hd]
  refine ZbM ?_
  refine Zak ?_
  refine ZhC ?_
  exact ⟨rfl,rfl⟩
theorem Qu4 (n:Int) (h:n≤-10∨10≤n):Lib.itoa n=Lib.itoa (n.tdiv 10)++Lib.itoa (if n.tmod 10< -(n.tmod 10) then -(n.tmod 10) else n.tmod 10):=by
 rcases h with h|h
 ·obtain ⟨k,rfl⟩:∃k:Nat,n= -(k:Int):=⟨n.natAbs,by omega⟩
  have hk:10≤k:=by omega
  have e1:(-(k:Int)).tdiv 10= -((k/10:Nat):Int):=by rw [Int.neg_tdiv,Int.tdiv_eq_ediv_of_nonneg Ya];simp
  have e2:(-(k:Int)).tmod 10= -((k%10:Nat):Int):=by rw [Int.neg_tmod,Int.tmod_eq_emod_of_nonneg Ya];simp
  rw [e1,e2]
  have e3:(if -((k%10:Nat):Int)< --((k%10:Nat):Int) then--((k%10:Nat):Int) else -((k%10:Nat):Int))=((k%10:Nat):Int):=by split<;>omega
  rw [e3,Lib.itoa_neg k Ya,Lib.itoa_neg (k/10) Ya,Lib.itoa_nonneg,Lib.decDigits,dif_neg Ya,Lib.decDigits_one (Nat.mod_lt _ Ya)]
  simp
 ·obtain ⟨k,rfl⟩:∃k:Nat,n=(k:Int):=⟨n.natAbs,by omega⟩
  have e1:(k:Int).tdiv 10=((k/10:Nat):Int):=by rw [Int.tdiv_eq_ediv_of_nonneg Ya];simp
  have e2:(k:Int).tmod 10=((k%10:Nat):Int):=by rw [Int.tmod_eq_emod_of_nonneg Ya];simp
  rw [e1,e2]
  have e3:(if ((k%10:Nat):Int)< -((k%10:Nat):Int) then -((k%10:Nat):Int) else ((k%10:Nat):Int))=((k%10:Nat):Int):=by split<;>omega
  rw [e3,Lib.itoa_nonneg,Lib.itoa_nonneg,Lib.itoa_nonneg,Lib.decDigits,dif_neg Ya,Lib.decDigits_one (Nat.mod_lt _ Ya)]
theorem Qkh:∀(m:Nat) (n:Int),n.natAbs≤m→-9223372036854775808≤n→n≤9223372036854775807→∀w:World,Calls Tryz.prog 37 #[.int .i64 n] w fun e w'=>e= .returned (sv (Lib.itoa n))∧w'=w:=by
 intro m
 induction m with
 |zero=>intro n hm _ _ w;exact Qex n Ya Ya w
 |succ m ih=>
  intro n hm h0 h1 w
  by_cases hs: -10<n∧n<10
  ·exact Qex n hs.1 hs.2 w
  have hs':n≤-10∨10≤n:=by omega
  have hst:=Qu4 n hs'
  have hq:(n.tdiv 10).natAbs≤m∧-9223372036854775808≤n.tdiv 10∧n.tdiv 10≤9223372036854775807:=by
   rcases hs' with h|h
   ·obtain ⟨k,rfl⟩:∃k:Nat,n= -(k:Int):=⟨n.natAbs,by omega⟩
    rw [show (-(k:Int)).tdiv 10= -((k/10:Nat):Int) by rw [Int.neg_tdiv,Int.tdiv_eq_ediv_of_nonneg Ya];simp];omega
   ·rw [Int.tdiv_eq_ediv_of_nonneg Ya];omega
  have hd: -10<n.tmod 10∧n.tmod 10<10:=by
   have h3:=Int.emod_lt_of_pos n (show (0:Int)<10 by omega)
   have h4:=Int.emod_nonneg n (show (10:Int)≠0 by omega)
   rw [Int.tmod_eq_emod]
   split<;>omega
  have hl1:=Lib.itoa_length_le (n.tdiv 10) hq.2.1 hq.2.2
  generalize hdm:(if n.tmod 10< -(n.tmod 10) then -(n.tmod 10) else n.tmod 10)=dm at hst
  have hdm': -10<dm∧dm<10:=by rw [←hdm];split<;>omega
  have hl2:=Lib.itoa_length_le dm Ya Ya
  have hi1:=ih (n.tdiv 10) hq.1 hq.2.1 hq.2.2
  have hi2:=Qex dm hdm'.1 hdm'.2
  have hdm2:=hdm.symm
  rw [hst]
  generalize Lib.itoa (n.tdiv 10)=L1 at hl1 hi1
  generalize Lib.itoa dm=L2 at hl2 hi2
  have hS:=St.start w
  refine Qg Tryz.func37 rfl Tryz.ntmps37 rfl ?_
  by_cases hn:n<0
  ·refine Zac ?_
   refine Zw ?_
   refine Zai ?_
   refine ZC ?_
   refine Zl ?_
   refine Zjq ?_
   refine Zap ?_
   refine Qa (QnE rfl rfl Ya Ya) rfl ?_
   refine Zj ?_
   refine Calls.mono (hi1 _) ?_
   rintro _ w1 ⟨rfl,rfl⟩
   refine Za ?_
   refine ZW ?_
   refine ZfQ ?_
   refine Zj ?_
   refine Calls.mono (hi2 _) ?_
   rintro _ w2 ⟨rfl,rfl⟩
   refine Za ?_
   refine ZhB ?_
   refine Zd ?_
   refine ZhC ?_
   exact ⟨rfl,rfl⟩
  ·refine Zac ?_
   refine Zw ?_
   refine ZN ?_
   refine Zs ?_
   refine ZC ?_
   refine Zl ?_
   refine Zjq ?_
   refine Zap ?_
   refine Qa (QnE rfl rfl Ya Ya) rfl ?_
   refine Zj ?_
   refine Calls.mono (hi1 _) ?_
   rintro _ w1 ⟨rfl,rfl⟩
   refine Za ?_
   refine ZW ?_
   refine ZfQ ?_
   refine Zj ?_
   refine Calls.mono (hi2 _) ?_
   rintro _ w2 ⟨rfl,rfl⟩
   refine Za ?_
   refine ZhB ?_
   refine Zd ?_
   refine ZhC ?_
   exact ⟨rfl,rfl⟩
end Go.Proofs.YthliapbflkfdiacGreatDoor
namespace Go.Proofs
open Go.Shelf
def Tryz.lays156_ren:Go.Shelf.Ren:=⟨fun|156=>39|165=>70|166=>66|169=>69|240=>107|241=>111|276=>164|277=>167|n=>n,fun|31=>37|9=>9|3=>3|4=>4|0=>0|20=>20|72=>118|76=>122|70=>115|37=>116|75=>120|127=>167|164=>223|5=>5|80=>124|n=>n,fun|n=>n⟩
theorem Tryz.lays156:Go.Proofs.Lays.n156 Tryz.prog Tryz.lays156_ren:={
 mixed:=by kernel_rfl
 f156:=Tryz.func39.trans (congrArg some (by kernel_rfl))
 f165:=Tryz.func70.trans (congrArg some (by kernel_rfl))
 f166:=Tryz.func66.trans (congrArg some (by kernel_rfl))
 f169:=Tryz.func69.trans (congrArg some (by kernel_rfl))
 f240:=Tryz.func107.trans (congrArg some (by kernel_rfl))
 f241:=Tryz.func111.trans (congrArg some (by kernel_rfl))
 f276:=Tryz.func164.trans (congrArg some (by kernel_rfl))
 f277:=Tryz.func167.trans (congrArg some (by kernel_rfl))
 t0:=Tryz.underlying0
 a0:=Tryz.isAgg0
 z0:=Tryz.sizeOf0
 v0:=Tryz.zeroValue0
 t3:=Tryz.underlying3
 a3:=Tryz.isAgg3
 z3:=Tryz.sizeOf3
 v3:=Tryz.zeroValue3
 t4:=Tryz.underlying4
 a4:=Tryz.isAgg4
 z4:=Tryz.sizeOf4
 v4:=Tryz.zeroValue4
 t9:=Tryz.underlying9
 a9:=Tryz.isAgg9
 z9:=Tryz.sizeOf9
 v9:=Tryz.zeroValue9
 t20:=Tryz.underlying20
 a20:=Tryz.isAgg20
 z20:=Tryz.sizeOf20
 v20:=Tryz.zeroValue20
 t31:=Tryz.underlying37
 a31:=Tryz.isAgg37
 z31:=Tryz.sizeOf37
 v31:=Tryz.zeroValue37
 t37:=Tryz.underlying116
 a37:=Tryz.isAgg116
 z37:=Tryz.sizeOf116
 v37:=Tryz.zeroValue116
 t70:=Tryz.underlying115
 a70:=Tryz.isAgg115
 z70:=Tryz.sizeOf115
 v70:=Tryz.zeroValue115
 t72:=Tryz.underlying118
 a72:=Tryz.isAgg118
 z72:=Tryz.sizeOf118
 v72:=Tryz.zeroValue118
 t75:=Tryz.underlying120
 a75:=Tryz.isAgg120
 z75:=Tryz.sizeOf120
 v75:=Tryz.zeroValue120
 t76:=Tryz.underlying122
 a76:=Tryz.isAgg122
 z76:=Tryz.sizeOf122
 v76:=Tryz.zeroValue122
 t127:=Tryz.underlying167
 a127:=Tryz.isAgg167
 z127:=Tryz.sizeOf167
 v127:=Tryz.zeroValue167
 t164:=Tryz.underlying223
 a164:=Tryz.isAgg223
 z164:=Tryz.sizeOf223
 v164:=Tryz.zeroValue223 }
end Go.Proofs
namespace Go.Proofs.YthliapbflkfdiacGreatDoor
open Go.RowKit
set_option linter.unusedVariables false
set_option maxRecDepth 100000
set_option maxHeartbeats 1000000
theorem QlG:Builder.Extra Tryz.prog Tryz.lays156_ren where
 sizeBuilder:=by kernel_rfl
 liesBuilder:=by kernel_rfl
 t5:=Tryz.underlying5
 a5:=Tryz.isAgg5
 z5:=Tryz.sizeOf5
 v5:=Tryz.zeroValue5
 infoByte:=by kernel_rfl
 cellsByte:=by kernel_rfl
 sizeByte:=by kernel_rfl
 neB5:=by decide
theorem Qrn {M:List Nat} {w0 w:World} {H O:List (Nat×Obj)} {F:List (World→Prop)} {el:Nat} {A:Option Addr} {c:Nat} (xs:List Str) (hx:0<xs.length) (hrow:Row el 1 (.slice A xs.length c) xs.length (xs.map sv) O) (hn:xs.length≤1048576) (hl:(Lib.join xs [44]).length≤1073741824) (hS:St M w0 (O++H) F w):
  Calls Tryz.prog 39 #[.slice A xs.length c,sv [44]] w fun e w'=>e= .returned (sv (Lib.join xs [44]))∧Below w.heap.size w w':=by
 have hcap:=hrow.cap
 obtain ⟨g,sp,rfl,rfl,_⟩:=hrow.some_ hx
 have hb:=hS.own _ (List.mem_cons_self ..)
 have e1:(xs.map fun l=>(⟨l.toArray⟩:ByteArray)).map (·.data.toList)=xs:=by
  rw [List.map_map];exact List.map_id xs
 have e2:(⟨#[44]⟩:ByteArray).data.toList=[44]:=rfl
 have h:=Any.strings_Join Tryz.lays156 QlG g 0 c (xs.map fun l=>(⟨l.toArray⟩:ByteArray)) ⟨#[44]⟩ w (fun j x hj=> ?_) (Qc0 hb) (by simpa using (by omega:xs.length≤140737488355328)) (by simpa using hcap) (by rw [e1,e2];omega)
 ·rw [e1,e2,List.length_map] at h
  exact h
 ·rw [Qs hb,Nat.zero_add]
  rw [List.getElem?_map] at hj
  cases hxj:xs[j]? with
  |none=>rw [hxj] at hj;cases hj
  |some l=>
   rw [hxj] at hj
   simp only [Option.map_some,Option.some.injEq] at hj
   subst hj
   rw [List.getElem?_append_left (by have:=List.getElem?_eq_some_iff.1 hxj;simp;exact this.1),List.getElem?_map,hxj]
   rfl
def ptM (k n:Int) (s:Str) (a:Ts):Str:=QaO k n s++if QcR k a then 40::(QeI false a++[41]) else []
def QcF:Ts→List Str
 | .nil=>[]
 | .cons k n s a r=>ptM k n s.data.toList a::QcF r
theorem QnW (T:Ts):(QcF T).length=T.length:=by
 induction T with
 |nil=>rfl
 |cons k n s a r _ ih=>simp only [QcF,List.length_cons,Ts.length,ih]
theorem QnX (T U:Ts):QcF (T.app U)=QcF T++QcF U:=by
 induction T with
 |nil=>rfl
 |cons k n s a r _ ih=>simp only [Ts.app,QcF,ih,List.cons_append]
theorem Qsy (T:Ts):Lib.joinTail [44] (QcF T)=QeI true T:=by
 induction T with
 |nil=>rfl
 |cons k n s a r _ ih=>
  have:Lib.joinTail [44] (QcF (.cons k n s a r))=[44]++ptM k n s.data.toList a++Lib.joinTail [44] (QcF r):=by simp [Lib.joinTail,QcF]
  rw [this,ih]
  simp [QeI,ptM]
theorem Qlv (T:Ts):Lib.join (QcF T) [44]=QeI false T:=by
 cases T with
 |nil=>rfl
 |cons k n s a r=>
  rw [QcF,Lib.join_cons,Qsy]
  simp [QeI,ptM]
theorem Qul {D r:Ts} {k n:Int} {s:ByteArray} {a:Ts} (c:Bool):(ptM k n s.data.toList a).length≤(QeI c (D.app (.cons k n s a r))).length:=by
 induction D generalizing c with
 |nil=>simp [Ts.app,QeI,ptM];omega
 |cons k' n' s' a' r' _ ih=>
  have:=ih true
  simp only [Ts.app,QeI,List.length_append]
  omega
end Go.Proofs.YthliapbflkfdiacGreatDoor
