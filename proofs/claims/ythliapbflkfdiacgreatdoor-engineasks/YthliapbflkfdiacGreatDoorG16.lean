/- RefW2, RefW3: texts that follow one another, laid into one file. -/
import Derived.Test.YthliapbflkfdiacGreatDoorZ0
import Derived.Test.YthliapbflkfdiacGreatDoorG15
import Derived.Test.YthliapbflkfdiacGreatDoorG2
namespace Go.Proofs.YthliapbflkfdiacGreatDoor
open Go.RowKit Go.Shelf
set_option linter.unusedVariables false
set_option linter.unusedSimpArgs false
set_option maxRecDepth 100000
set_option maxHeartbeats 1000000
theorem Qjd (l:Str) (w:World):Calls Tryz.prog 214 #[sv l,sv [45]] w fun e w'=>e= .returned (sv (Qdt l))∧w'=w:=by
 cases hp:([45]:Str).isPrefixOf l with
 |true=>
  have hl:1≤l.length:=by
   cases l with
   |nil=>simp [List.isPrefixOf] at hp
   |cons c r=>simp
  have e1:Qdt l=l.drop 1:=by
   cases l with
   |nil=>rfl
   |cons c r=>simp [List.isPrefixOf] at hp;subst hp;rfl
  refine Qh Tryz.func214 rfl Tryz.ntmps214 rfl ?_
  refine Zg ?_
  refine ZT ?_
  refine Ze ?_
  refine Calls.mono (QdO l [45] _) ?_
  rintro _ w1 ⟨rfl,rfl⟩
  refine Za ?_
  rw [hp]
  refine Zt ?_
  refine Zu ?_
  refine Zba ?_
  refine Zhv ?_
  refine Zd ?_
  refine Qd Tryz.func214 rfl Yb ?_
  exact ⟨by rw [e1];rfl,rfl⟩
 |false=>
  have e1:Qdt l=l:=by
   unfold Qdt
   split
   ·simp [List.isPrefixOf] at hp
   ·rfl
  refine Qh Tryz.func214 rfl Tryz.ntmps214 rfl ?_
  refine Zg ?_
  refine ZT ?_
  refine Ze ?_
  refine Calls.mono (QdO l [45] _) ?_
  rintro _ w1 ⟨rfl,rfl⟩
  refine Za ?_
  rw [hp]
  refine Zo ?_
  refine Zak ?_
  refine Qd Tryz.func214 rfl Yb ?_
  exact ⟨by rw [e1],rfl⟩
theorem Qky (l:Str) (w:World):Calls Tryz.prog 183 #[sv l,sv [45]] w fun e w'=>e= .returned (sv (Qdt l))∧w'=w:=by
 refine Qh Tryz.func183 rfl Tryz.ntmps183 rfl ?_
 refine Zg ?_
 refine Zbc ?_
 refine Calls.mono (Qjd l _) ?_
 rintro _ w1 ⟨rfl,rfl⟩
 refine ZD ?_
 refine Qd Tryz.func183 rfl Yb ?_
 exact ⟨rfl,rfl⟩
theorem QhP (d:Str) (c:UInt8):Qg2 (d++[c])=10*Qg2 d+(c-48).toNat:=by simp [Qg2,List.foldl_append]
theorem QhQ:∀(n:Nat) (d:Str),d.length=n→9*Qg2 d+255≤255*10^n:=by
 intro n
 induction n with
 |zero=>intro d h;rw [List.eq_nil_of_length_eq_zero h];decide
 |succ n ih=>
  intro d h
  rcases List.eq_nil_or_concat d with rfl|⟨e,c,rfl⟩
  ·simp at h
  have h1:=ih e (by simpa using h)
  have h2:(c-48).toNat<256:=(c-48).toNat_lt
  rw [List.concat_eq_append,QhP,Nat.pow_succ]
  omega
theorem Qgu (l:Str) (w:World):Calls Tryz.prog 131 #[sv l] w fun e w'=>e= .returned (.tuple #[.int .i64 ((Qbd l).getD 0),.bool (Qbd l).isSome])∧Below w.heap.size w w':=by
 have hbl:(Qdt l).length≤l.length:=by unfold Qdt;split<;>simp
 have hS:=St.start w
 by_cases h1:Qdt l=[]
 ·have ev:Qbd l=none:=by simp [Qbd,h1]
  rw [ev]
  refine ZgB ?_
  refine Zaa ?_
  refine ZP ?_
  refine ZgC ?_
  rintro _ w1 ⟨rfl,rfl⟩
  refine Za ?_
  rw [h1]
  refine Zh3 ?_
  refine Zal ?_
  refine ZQ ?_
  refine ZaQ ?_
  refine Zft ?_
  refine ZaT ?_
  refine ZcG ?_
  exact ⟨rfl,hS.ext.below⟩
 by_cases h13:13<(Qdt l).length
 ·have ev:Qbd l=none:=by simp [Qbd,h13]
  rw [ev]
  generalize hd:Qdt l=d at*
  have hde:(d==[])=false:=by cases d with|nil=>exact absurd rfl h1|cons _ _=>rfl
  refine ZgB ?_
  refine Zaa ?_
  refine ZP ?_
  refine ZgC ?_
  rintro _ w1 ⟨rfl,rfl⟩
  refine Za ?_
  rw [hd]
  refine Zh3 ?_
  refine Zf ?_
  rw [hde]
  refine ZH ?_
  refine Zdv ?_
  refine Zw ?_
  refine ZQ ?_
  refine ZaQ ?_
  refine Zft ?_
  refine ZaT ?_
  refine ZcG ?_
  exact ⟨rfl,hS.ext.below⟩
 have htail:∀w1:World,St [] w [] [] w1→True:=fun _ _=>trivial
 have hc:∀x,Qeq (Qdt l)=x→x=48→l≠[48]→Qbd l=none:=fun x e1 e2 e3=>by simp [Qbd,e1,e2,e3]
 have hv:(Qeq (Qdt l)=48→l=[48])→Qbd l=if 1099511627776<Qg2 (Qdt l) then none else some (if Qdt l=l then (Qg2 (Qdt l):Int) else -(Qg2 (Qdt l):Int)):=fun e=>by
  unfold Qbd
  simp only
  rw [if_neg]
  rintro (h|h|⟨h,h'⟩)
  ·exact h1 h
  ·exact h13 h
  ·exact h' (e h)
 have hbd:=QhQ _ (Qdt l) rfl
 have hpow:∀k,k≤13→(10:Nat)^k≤10000000000000:=fun k hk=>by
  have:=Nat.pow_le_pow_right (n:=10) Yf hk
  simpa using this
 generalize hd:Qdt l=d at*
 cases d with
 |nil=>exact absurd rfl h1
 |cons x q=>
  have hhx:Qeq (x::q)=x:=rfl
  rw [hhx] at hv
  by_cases h48:x=48
  ·by_cases hl48:l=[48]
   ·rw [hv fun _ => hl48]
    have hln:(l !=[48])=false:=by simp [hl48]
    subst h48
    refine ZgB ?_
    refine Zaa ?_
    refine ZP ?_
    refine ZgC ?_
    rintro _ w1 ⟨rfl,rfl⟩
    refine Za ?_
    rw [hd]
    refine Zh7 ?_
    refine Zdv ?_
    refine Zw ?_
    refine Zaw ?_
    refine Zfn ?_
    refine Zr ?_
    refine Zm ?_
    refine ZN ?_
    refine ZaZ ?_
    refine ZaI ?_
    refine Zdq ?_
    rw [hln]
    refine ZbM ?_
    refine Zac ?_
    refine Zjo ?_
    have hB:Below w1.heap.size w1 (Lib.bytesWorld w1 5 ⟨(48::q:Str).toArray⟩):=⟨rfl,rfl,rfl,by rw [Lib.bytesWorld_size];omega,fun k hk=>Lib.bytesWorld_at_old w1 _ _ k hk⟩
    have hcell:∀(E:Str) (y:UInt8) (Q:Str),48::q=E++y::Q→(Lib.bytesWorld w1 5 ⟨(48::q:Str).toArray⟩).cell? ⟨w1.heap.size,0+(((E.length:Nat):Int)).toNat*1,none⟩=some (.int .u8 y.toNat):=by
     intro E y Q e
     have h0:0+(((E.length:Nat):Int)).toNat*1=E.length:=by omega
     have h2:(48::q:Str).length=E.length+(Q.length+1):=by rw [e];simp
     rw [h0,Lib.bytesWorld_cell w1 _ _ E.length (by rw [Qba];omega),Qey,e]
     simp
    have hcap:grownCap w1 (48::q:Str).length 0 5=grownCap w1 (48::q:Str).length 0 5:=rfl
    generalize Lib.bytesWorld w1 5 ⟨(48::q:Str).toArray⟩=W at*
    rw [Qba]
    generalize grownCap w1 (48::q:Str).length 0 5=gc at*
    refine ZX ?_
    refine Qx 5 29 (30::31::32::7::33::34::35::36::37::38::39::[]) (fun (Q:Str) n i w'=>w'=W∧∃E,48::q=E++Q∧n= .int .i64 (Qg2 E:Nat)∧i= .int .i64 (E.length:Nat)) (fun Q=>Q.length) (48::q) ?_ Yb Yb ?_
    ·exact ⟨rfl,[],rfl,rfl,rfl⟩
    rintro Q n3 i3 w3 jv3 ⟨rfl,E,hE,rfl,rfl⟩ ih
    have hlE:(48::q:Str).length=E.length+Q.length:=by rw [hE,List.length_append]
    have hbE:=QhQ _ E rfl
    have hpE:=hpow E.length Ya
    cases Q with
    |cons y Q=>
     have hcy:=hcell E y Q hE
     have hlt2:=hlE
     simp only [List.length_cons (a:=y)] at hlt2
     have hy:=(y-48).toNat_lt
     simp only [List.length_cons] at hlE
     refine ZfI ?_
     refine Zfo ?_
     first
      |refine Qa (QtX rfl rfl Ya Ya) rfl ?_
      |refine Qa (rfl) rfl ?_
     refine Zf ?_
     refine Zbf ?_
     refine Zhy ?_
     refine Zv ?_
     refine Zax ?_
     refine ih (Q) _ _ _ _ ?_ ?_ Yb Yb Yc
     ·simp
     ·exact ⟨rfl,E++[y],by rw [hE];simp,by rw [QhP];simp,by simp⟩
    |nil=>
     rw [List.append_nil] at hE
     subst hE
     by_cases hbig:1099511627776<Qg2 (48::q)
     ·rw [if_pos hbig]
      refine Zeg ?_
      refine Zw ?_
      refine Zt ?_
      refine Zaa ?_
      refine ZcG ?_
      exact ⟨rfl,hB⟩
     ·rw [if_neg hbig]
      by_cases hdl:48::q=l
      ·have hnn:(48::q !=l)=false:=by simp [hdl]
       rw [if_pos hdl]
       refine Zeg ?_
       refine Zb4 ?_
       refine ZT ?_
       refine ZfA ?_
       rw [hnn]
       refine ZbM ?_
       refine Zee ?_
       refine ZcG ?_
       exact ⟨rfl,hB⟩
      ·have hnn:(48::q !=l)=true:=by simp [hdl]
       rw [if_neg hdl]
       refine Zeg ?_
       refine Zb4 ?_
       refine ZT ?_
       refine ZfA ?_
       rw [hnn]
       refine Z2 ?_
       refine Zx ?_
       refine Zih ?_
       refine Zap ?_
       refine Zn ?_
       refine ZcG ?_
       refine ⟨?_,hB⟩
       show Ending.returned (.tuple #[.int .i64 (IntKind.i64.wrap (0-((Qg2 (48::q):Nat):Int))),.bool true])=_
       rw [QdH Ya Ya,Int.zero_sub]
       rfl
   ·have hln:(l !=[48])=true:=by simp [hl48]
    rw [hc x rfl h48 hl48]
    subst h48
    refine ZgB ?_
    refine Zaa ?_
    refine ZP ?_
    refine ZgC ?_
    rintro _ w1 ⟨rfl,rfl⟩
    refine Za ?_
    rw [hd]
    refine Zh7 ?_
    refine Zdv ?_
    refine Zw ?_
    refine Zaw ?_
    refine Zfn ?_
    refine Zr ?_
    refine Zm ?_
    refine ZN ?_
    refine ZaZ ?_
    refine ZaI ?_
    refine Zdq ?_
    rw [hln]
    refine Z2 ?_
    refine Zaa ?_
    refine ZcG ?_
    exact ⟨rfl,hS.ext.below⟩
  ·have h48':x.toNat≠48:=fun h=>h48 (Ql8 (n:=48) h)
   rw [hv fun h=>absurd h h48]
   refine ZgB ?_
   refine Zaa ?_
   refine ZP ?_
   refine ZgC ?_
   rintro _ w1 ⟨rfl,rfl⟩
   refine Za ?_
   rw [hd]
   refine Zh7 ?_
   refine Zdv ?_
   refine Zw ?_
   refine Zaw ?_
   refine Zfn ?_
   refine Zr ?_
   refine Zm ?_
   refine ZiZ ?_
   refine ZC ?_
   refine Zac ?_
   refine Zjo ?_
   have hB:Below w1.heap.size w1 (Lib.bytesWorld w1 5 ⟨(x::q:Str).toArray⟩):=⟨rfl,rfl,rfl,by rw [Lib.bytesWorld_size];omega,fun k hk=>Lib.bytesWorld_at_old w1 _ _ k hk⟩
   have hcell:∀(E:Str) (y:UInt8) (Q:Str),x::q=E++y::Q→(Lib.bytesWorld w1 5 ⟨(x::q:Str).toArray⟩).cell? ⟨w1.heap.size,0+(((E.length:Nat):Int)).toNat*1,none⟩=some (.int .u8 y.toNat):=by
    intro E y Q e
    have h0:0+(((E.length:Nat):Int)).toNat*1=E.length:=by omega
    have h2:(x::q:Str).length=E.length+(Q.length+1):=by rw [e];simp
    rw [h0,Lib.bytesWorld_cell w1 _ _ E.length (by rw [Qba];omega),Qey,e]
    simp
   have hcap:grownCap w1 (x::q:Str).length 0 5=grownCap w1 (x::q:Str).length 0 5:=rfl
   generalize Lib.bytesWorld w1 5 ⟨(x::q:Str).toArray⟩=W at*
   rw [Qba]
   generalize grownCap w1 (x::q:Str).length 0 5=gc at*
   refine ZX ?_
   refine Qx 5 29 (30::31::32::7::33::34::35::36::37::38::39::[]) (fun (Q:Str) n i w'=>w'=W∧∃E,x::q=E++Q∧n= .int .i64 (Qg2 E:Nat)∧i= .int .i64 (E.length:Nat)) (fun Q=>Q.length) (x::q) ?_ Yb Yb ?_
   ·exact ⟨rfl,[],rfl,rfl,rfl⟩
   rintro Q n3 i3 w3 jv3 ⟨rfl,E,hE,rfl,rfl⟩ ih
   have hlE:(x::q:Str).length=E.length+Q.length:=by rw [hE,List.length_append]
   have hbE:=QhQ _ E rfl
   have hpE:=hpow E.length Ya
   cases Q with
   |cons y Q=>
    have hcy:=hcell E y Q hE
    have hlt2:=hlE
    simp only [List.length_cons (a:=y)] at hlt2
    have hy:=(y-48).toNat_lt
    simp only [List.length_cons] at hlE
    refine ZfI ?_
    refine Zfo ?_
    first
     |refine Qa (QtX rfl rfl Ya Ya) rfl ?_
     |refine Qa (rfl) rfl ?_
    refine Zf ?_
    refine Zbf ?_
    refine Zhy ?_
    refine Zv ?_
    refine Zax ?_
    refine ih (Q) _ _ _ _ ?_ ?_ Yb Yb Yc
    ·simp
    ·exact ⟨rfl,E++[y],by rw [hE];simp,by rw [QhP];simp,by simp⟩
   |nil=>
    rw [List.append_nil] at hE
    subst hE
    by_cases hbig:1099511627776<Qg2 (x::q)
    ·rw [if_pos hbig]
     refine Zeg ?_
     refine Zw ?_
     refine Zt ?_
     refine Zaa ?_
     refine ZcG ?_
     exact ⟨rfl,hB⟩
    ·rw [if_neg hbig]
     by_cases hdl:x::q=l
     ·have hnn:(x::q !=l)=false:=by simp [hdl]
      rw [if_pos hdl]
      refine Zeg ?_
      refine Zb4 ?_
      refine ZT ?_
      refine ZfA ?_
      rw [hnn]
      refine ZbM ?_
      refine Zee ?_
      refine ZcG ?_
      exact ⟨rfl,hB⟩
     ·have hnn:(x::q !=l)=true:=by simp [hdl]
      rw [if_neg hdl]
      refine Zeg ?_
      refine Zb4 ?_
      refine ZT ?_
      refine ZfA ?_
      rw [hnn]
      refine Z2 ?_
      refine Zx ?_
      refine Zih ?_
      refine Zap ?_
      refine Zn ?_
      refine ZcG ?_
      refine ⟨?_,hB⟩
      show Ending.returned (.tuple #[.int .i64 (IntKind.i64.wrap (0-((Qg2 (x::q):Nat):Int))),.bool true])=_
      rw [QdH Ya Ya,Int.zero_sub]
      rfl
abbrev psr (L V:Value) (bad:Bool):Obj:= .cells [L,V,.bool bad].toArray 138
section
variable {M:List Nat} {w0:World} {H:List (Nat×Obj)} {F:List (World→Prop)} {b:Nat} {φ:World→Prop}
theorem QoF (p:PS) (L V:Value) (w:World) (hL:Sx φ L p.l) (hφ:φ∈F) (hS:St M w0 ((b,psr L V p.bad)::H) F w):
  Calls Tryz.prog 130 #[ptr b] w fun e w'=>e= .returned (sv (p.l.headD []))∧w'=w:=by
 obtain ⟨l,vars,bad⟩:=p
 cases l with
 |nil=>
  obtain ⟨A,c,rfl,hc⟩:=hL.form
  refine Qg Tryz.func130 rfl Tryz.ntmps130 rfl ?_
  refine Zdr ?_
  refine Zew ?_
  refine Zr ?_
  refine Z6 ?_
  refine Qd Tryz.func130 rfl Yb ?_
  exact ⟨rfl,rfl⟩
 |cons x r=>
  obtain ⟨A,c,rfl,hc⟩:=hL.form
  obtain ⟨_,_,b1,o1,rfl,hcell⟩:=hL.head
  have hc0:=hcell w (hS.fact hφ)
  have hc1:w.cell? ⟨b1,o1+(0:Int).toNat*1,none⟩=some (sv x):=hc0
  simp only [List.length_cons] at hc
  refine Qg Tryz.func130 rfl Tryz.ntmps130 rfl ?_
  refine Zdr ?_
  refine Zew ?_
  refine Zan ?_
  refine ZcS ?_
  refine ZI ?_
  refine Zq ?_
  refine Zd ?_
  refine Qd Tryz.func130 rfl Yb ?_
  exact ⟨rfl,rfl⟩
theorem Qbk (p:PS) (t:Str) (L V:Value) (w:World) (hL:Sx φ L p.l) (hφ:φ∈F) (hS:St M w0 ((b,psr L V p.bad)::H) F w):
  Calls Tryz.prog 81 #[ptr b,sv t] w fun e w'=>∃L',e= .returned (.bool (p.has t))∧Sx φ L' (if p.has t then p.pop else p).l∧St M w0 ((b,psr L' V p.bad)::H) F w':=by
 obtain ⟨l,vars,bad⟩:=p
 cases l with
 |nil=>
  obtain ⟨A,c,rfl,hc⟩:=hL.form
  refine Qh Tryz.func81 rfl Tryz.ntmps81 rfl ?_
  refine Zdr ?_
  refine Zq ?_
  refine ZaJ ?_
  refine Zdh ?_
  refine Z4 ?_
  refine ZC ?_
  refine Zg ?_
  refine Qd Tryz.func81 rfl Yb ?_
  exact ⟨_,rfl,hL,hS⟩
 |cons x r=>
  obtain ⟨A,c,rfl,hc⟩:=hL.form
  obtain ⟨_,_,b1,o1,rfl,hcell⟩:=hL.head
  have hc0:=hcell w (hS.fact hφ)
  have hc1:w.cell? ⟨b1,o1+(0:Int).toNat*1,none⟩=some (sv x):=hc0
  simp only [List.length_cons] at hc
  have hx:(x==t)=(PS.mk (x::r) vars bad).has t:=by simp [PS.has]
  cases hh:(PS.mk (x::r) vars bad).has t with
  |true=>
   rw [hh] at hx
   refine Qh Tryz.func81 rfl Tryz.ntmps81 rfl ?_
   refine Zdr ?_
   refine Zq ?_
   refine ZaJ ?_
   refine Zco ?_
   refine ZaK ?_
   refine ZI ?_
   refine Zh1 ?_
   refine ZH ?_
   refine ZZ ?_
   refine Zdq ?_
   rw [hx]
   refine Z2 ?_
   refine Zu ?_
   refine ZdE ?_
   clear hS
   intro wx1 hS
   refine Zbw ?_
   refine Qd Tryz.func81 rfl Yb ?_
   exact ⟨_,rfl,hL.tail,hS⟩
  |false=>
   rw [hh] at hx
   refine Qh Tryz.func81 rfl Tryz.ntmps81 rfl ?_
   refine Zdr ?_
   refine Zq ?_
   refine ZaJ ?_
   refine Zco ?_
   refine ZaK ?_
   refine ZI ?_
   refine Zh1 ?_
   refine ZH ?_
   refine ZZ ?_
   refine Zdq ?_
   rw [hx]
   refine ZbM ?_
   refine Zg ?_
   refine Qd Tryz.func81 rfl Yb ?_
   exact ⟨_,rfl,hL,hS⟩
end
end Go.Proofs.YthliapbflkfdiacGreatDoor
