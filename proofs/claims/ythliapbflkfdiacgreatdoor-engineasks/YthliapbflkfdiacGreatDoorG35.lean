/- HWalk5, HWalk6, HWalk7: texts that follow one another, laid into one file. -/
import Derived.Test.YthliapbflkfdiacGreatDoorZ0
import Derived.Test.YthliapbflkfdiacGreatDoorG34
import Derived.Test.YthliapbflkfdiacGreatDoorG28
namespace Go.Proofs.YthliapbflkfdiacGreatDoor
open Go.RowKit
set_option linter.unusedVariables false
set_option linter.unusedSimpArgs false
set_option maxRecDepth 100000
set_option maxHeartbeats 1000000
abbrev Qq0 (b:Nat):Value:= .pointer (some ⟨b,0,none⟩)
abbrev uob (g n c:Nat) (B:Option Addr) (m d w:Nat) (lg:Bool):Obj:= .cells [.slice (some ⟨g,0,none⟩) n c,.slice B m d,.int .i64 (w:Nat),.bool lg].toArray 254
abbrev cob (L:List HC) (sp:List Value):Obj:= .cells (Qav L++sp).toArray 104
def Qis (M:List Nat) (w0:World) (H:List (Nat×Obj)) (F:List (World→Prop)) (ub g c:Nat) (sp:List Value) (u:HU) (w:World):Prop:=
 ∃(B:Option Addr) (d:Nat) (O:List (Nat×Obj)),Rw 3 1 (.slice B u.tr.length d) u.tr.length (Qr u.tr) O∧St M w0 ((ub,uob g u.cs.length c B u.tr.length d u.w u.lg)::(g,cob u.cs sp)::(O++H)) F w
section
variable {M:List Nat} {w0:World} {H:List (Nat×Obj)} {F:List (World→Prop)} {ub g c:Nat} {sp:List Value}
theorem QqL (u:HU) (w:World) (hw:u.w≤100000) (hs:Qis M w0 H F ub g c sp u w):
  Calls Tryz.prog 219 #[Qq0 ub] w fun e w'=>e= .returned (.tuple #[])∧Qis M w0 H F ub g c sp u.step w':=by
 obtain ⟨B,d,O,hrow,hS⟩:=hs
 refine Qg Tryz.func219 rfl Tryz.ntmps219 rfl ?_
 by_cases h4:400<u.w+1
 ·refine Zb5 ?_
  refine Zv ?_
  refine Zdj ?_
  clear hS
  intro wx1 hS
  refine Zbv ?_
  refine Zam ?_
  refine Zw ?_
  refine Za5 ?_
  refine ZR ?_
  refine Zat ?_
  refine Zy ?_
  clear hS
  intro wx2 hS
  refine Zb ?_
  refine QN Tryz.func219 rfl ?_
  exact ⟨rfl,B,d,O,hrow,by simp only [HU.step,decide_eq_true h4,Bool.or_true];exact hS⟩
 ·refine Zb5 ?_
  refine Zv ?_
  refine Zdj ?_
  clear hS
  intro wx1 hS
  refine Zbv ?_
  refine Zam ?_
  refine Zb4 ?_
  refine QN Tryz.func219 rfl ?_
  exact ⟨rfl,B,d,O,hrow,by simp only [HU.step,decide_eq_false h4,Bool.or_false];exact hS⟩
theorem Qjc (u:HU) (a:Int) (w:World) (hl:u.cs.length≤65536) (hc:u.cs.length≤c) (hs:Qis M w0 H F ub g c sp u w):
  Calls Tryz.prog 220 #[Qq0 ub,.int .i64 a] w fun e w'=>e= .returned (.int .i64 (u.look a).1)∧Qis M w0 H F ub g c sp (u.look a).2 w':=by
 obtain ⟨B,d,O,hrow,hS⟩:=hs
 refine Qh Tryz.func220 rfl Tryz.ntmps220 rfl ?_
 cases hg:u.lg with
 |true=>
  rw [hg] at hS
  have e0:u.look a=(-1,u):=by unfold HU.look;rw [if_pos hg]
  rw [e0]
  refine Zg ?_
  refine Zbl ?_
  refine Z6 ?_
  refine ZiB ?_
  exact ⟨rfl,B,d,O,hrow,by rw [hg];exact hS⟩
 |false=>
  rw [hg] at hS
  have e0:u.look a=(Qw u.cs a,⟨u.cs,u.tr,u.w,decide (Qw u.cs a<0)⟩):=by unfold HU.look;rw [if_neg (by rw [hg];decide)]
  rw [e0]
  have hfl:∀{o H' F'} w',St M w0 ((ub,o)::(g,cob u.cs sp)::H') F' w'→QG 3 (Qav u.cs) (some ⟨g,0,none⟩) u.cs.length c w':=fun w' hS=>QG.own (hS.own (g,_) (.tail _ (.head _))) (Qaz _) hc
  by_cases hn:Qw u.cs a<0
  ·rw [decide_eq_true hn]
   refine Zg ?_
   refine Zbl ?_
   refine Zo ?_
   refine ZaR ?_
   refine Zau ?_
   refine Za6 ?_
   refine Calls.mono (Qmv u.cs _ B c u.tr.length d a _ (hfl _ hS) Ya) ?_
   rintro _ w3 ⟨rfl,hb3⟩
   refine Za ?_
   replace hS:=hS.grow hb3
   refine Zdx ?_
   refine Za5 ?_
   refine ZR ?_
   refine Zat ?_
   refine Zy ?_
   clear hS
   intro wx1 hS
   refine Zcn ?_
   refine ZiB ?_
   exact ⟨rfl,B,d,O,hrow,hS⟩
  ·rw [decide_eq_false hn]
   refine Zg ?_
   refine Zbl ?_
   refine Zo ?_
   refine ZaR ?_
   refine Zau ?_
   refine Za6 ?_
   refine Calls.mono (Qmv u.cs _ B c u.tr.length d a _ (hfl _ hS) Ya) ?_
   rintro _ w3 ⟨rfl,hb3⟩
   refine Za ?_
   replace hS:=hS.grow hb3
   refine Zep ?_
   refine Zak ?_
   refine ZiB ?_
   exact ⟨rfl,B,d,O,hrow,hS⟩
theorem Qjb (u:HU) (a:Int) (x:HC) (w:World) (hx:hat u.cs a=some x) (hs:Qis M w0 H F ub g c sp u w):
  Calls Tryz.prog 221 #[Qq0 ub,.int .i64 a] w fun e w'=>e= .returned (.bool (decide (x.k=0)))∧Qis M w0 H F ub g c sp u w':=by
 obtain ⟨B,d,O,hrow,hS⟩:=hs
 obtain ⟨h0,h1,hg⟩:=QbP.1 hx
 have hcc:∀{o H' F'} w',St M w0 ((ub,o)::(g,cob u.cs sp)::H') F' w'→_:=fun w' hS=>(QG.own (cap:=u.cs.length) (hS.own (g,_) (.tail _ (.head _))) (Qaz u.cs) (Nat.le_refl _)).cell hg
 refine Qh Tryz.func221 rfl Tryz.ntmps221 rfl ?_
 by_cases hk:x.k=0
 ·rw [decide_eq_true hk]
  refine Zg ?_
  refine ZeO ?_
  refine Zar ?_
  refine ZB ?_
  refine Zr ?_
  refine Zd ?_
  refine Qd Tryz.func221 rfl Yb ?_
  exact ⟨rfl,B,d,O,hrow,hS⟩
 ·rw [decide_eq_false hk]
  refine Zg ?_
  refine ZeO ?_
  refine Zar ?_
  refine ZB ?_
  refine Zr ?_
  refine Zd ?_
  refine Qd Tryz.func221 rfl Yb ?_
  exact ⟨rfl,B,d,O,hrow,hS⟩
theorem Qnp (u:HU) (a:Int) (x:HC) (w:World) (hx:hat u.cs a=some x) (hs:Qis M w0 H F ub g c sp u w):
  Calls Tryz.prog 240 #[Qq0 ub,.int .i64 a] w fun e w'=>e= .returned (.int .i64 (QU x))∧Qis M w0 H F ub g c sp u w':=by
 obtain ⟨B,d,O,hrow,hS⟩:=hs
 obtain ⟨h0,h1,hg⟩:=QbP.1 hx
 have hcc:∀{o H' F'} w',St M w0 ((ub,o)::(g,cob u.cs sp)::H') F' w'→_:=fun w' hS=>(QG.own (cap:=u.cs.length) (hS.own (g,_) (.tail _ (.head _))) (Qaz u.cs) (Nat.le_refl _)).cell hg
 refine Qh Tryz.func240 rfl Tryz.ntmps240 rfl ?_
 refine Zg ?_
 refine ZeO ?_
 refine Zig ?_
 refine Zj ?_
 refine Calls.mono (QrL x _) ?_
 rintro _ w3 ⟨rfl,hb3⟩
 refine Za ?_
 replace hS:=hS.grow hb3
 refine Zd ?_
 refine Qd Tryz.func240 rfl Yb ?_
 exact ⟨rfl,B,d,O,hrow,hS⟩
theorem Qno (u:HU) (a x:Int) (y:HC) (w:World) (hy:hat u.cs a=some y) (ht:u.tr.length≤1000000) (hs:Qis M w0 H F ub g c sp u w):
  Calls Tryz.prog 222 #[Qq0 ub,.int .i64 a,.int .i64 x] w fun e w'=>e= .returned (.tuple #[])∧Qis M w0 H F ub g c sp (u.bind a x) w':=by
 obtain ⟨B,d,O,hrow,hS⟩:=hs
 obtain ⟨h0,h1,hg⟩:=QbP.1 hy
 have hput:=QmI u.cs sp a.toNat x Ya
 refine QQ Tryz.func222 rfl Tryz.ntmps222 rfl ?_
 refine ZaR ?_
 refine Zar ?_
 refine ZB ?_
 refine ZW ?_
 refine ZaD ?_
 refine Z7 ?_
 refine ZjU ?_
 clear hS
 intro w6 hS
 refine Zb ?_
 refine ZaS ?_
 refine ZcL ?_
 refine Z7 ?_
 refine Zeb ?_
 refine ZaC ?_
 clear hS
 intro b1 wx1 hS
 refine QiK (L:=[a]) hS Yb Yi rfl rfl rfl (QG.own (sp:=[]) (hS.own (_,_) (.head _)) rfl (Nat.le_refl _)) hrow (List.perm_append_comm_assoc [_,_,_] O _) Yg rfl ?_
 clear hS
 intro v7 O7 w7 hrow7 hS
 obtain ⟨B7,d7,rfl,_⟩:=hrow7.form
 replace hS:=(hS.perm (List.perm_append_comm_assoc O7 [_,_,_] _)).drop
 refine ZcL ?_
 refine Z7 ?_
 refine Zy ?_
 clear hS
 intro wx2 hS
 refine Zb ?_
 refine QN Tryz.func222 rfl ?_
 refine ⟨rfl,B7,d7,O7,?_,?_⟩
 ·simp only [HU.bind,List.length_append,Qr,List.map_append] at hrow7⊢;exact hrow7
 ·simp only [HU.bind,List.length_append,Qcr];exact hS
def Qqm (n f:Nat):Prop:=∀(M:List Nat) (w0:World) (H:List (Nat×Obj)) (F:List (World→Prop)) (ub g c:Nat) (sp:List Value) (a b:Int) (u:HU) (w:World),
 GU n u→n≤65536→n≤c→400≤u.w+f→u.w≤20000→f≤401→-1≤b→b≤100000→Qis M w0 H F ub g c sp u w→
  Calls Tryz.prog 239 #[Qq0 ub,.int .i64 a,.int .i64 b] w fun e w'=>e= .returned (.bool (Qdw a f b u).1)∧Qis M w0 H F ub g c sp (Qdw a f b u).2 w'
theorem QtN {u:HU} (h:400≤u.w):u.step.lg=true:=by simp only [HU.step,decide_eq_true (show 400<u.w+1 by omega),Bool.or_true]
theorem Qis.lgS {u:HU} {w:World} {b:Bool} (h:Qis M w0 H F ub g c sp u w) (hb:u.lg=b):∃(B:Option Addr) (d:Nat) (O:List (Nat×Obj)),Rw 3 1 (.slice B u.tr.length d) u.tr.length (Qr u.tr) O∧St M w0 ((ub,uob g u.cs.length c B u.tr.length d u.w b)::(g,cob u.cs sp)::(O++H)) F w:=by
 obtain ⟨B,d,O,h1,h2⟩:=h
 rw [hb] at h2
 exact ⟨B,d,O,h1,h2⟩
theorem Qq4 (n f:Nat) (ih:∀f',f=f'+1→Qqm n f'):Qqm n f:=by
 intro M w0 H F ub g c sp a b u w hG hn hc hkf hk hf hb0 hb1 hs
 have hsl:(Qdw a f b u).1=(Qdw a f b u).1:=rfl
 refine QQ Tryz.func239 rfl Tryz.ntmps239 rfl ?_
 refine Zfx ?_
 refine Calls.mono (QqL u _ Ya hs) ?_
 rintro _ w2 ⟨rfl,hs2⟩
 refine Za ?_
 refine Zbt ?_
 refine Ze ?_
 refine Calls.mono (Qjc u.step b _ (by rw [hG.step.len];exact hn) (by rw [hG.step.len];exact hc) hs2) ?_
 rintro _ w3 ⟨rfl,hs3⟩
 refine Za ?_
 have hG3:=hG.step.look b
 have hcs3:(u.step.look b).2.cs=u.cs:=(QeG u.step b).2.1
 have hw3:(u.step.look b).2.w=u.w+1:=(QeG u.step b).1
 cases hlg:(u.step.look b).2.lg with
 |true=>
  have e0:Qdw a f b u=(false,(u.step.look b).2):=by
   cases f with
   |zero=>rfl
   |succ f=>simp only [Qdw];rw [if_pos hlg]
  rw [e0]
  obtain ⟨B,d,O,hrow,hS⟩:=hs3.lgS hlg
  refine ZeM ?_
  refine Zat ?_
  refine ZB ?_
  refine Z6 ?_
  refine ZhO ?_
  exact ⟨rfl,B,d,O,hrow,by rw [hlg];exact hS⟩
 |false=>
  obtain ⟨f,rfl⟩:∃f',f=f'+1:=by
   cases f with
   |succ f=>exact ⟨f,rfl⟩
   |zero=>
    have:=(QdM hlg).1
    rw [QtN Ya] at this;cases this
  have ih:=ih f rfl
  obtain ⟨hl1,hp1,hp2⟩:=QdM hlg
  obtain ⟨x,hx,hxe⟩:=Qd6 hp2
  rw [←hp1] at hx
  replace hx:hat u.cs (u.step.look b).1=some x:=hx
  have hx3:hat (u.step.look b).2.cs (u.step.look b).1=some x:=by rw [hcs3];exact hx
  obtain ⟨hx0,hx1,_⟩:=QbP.1 hx
  rw [hG.len] at hx1
  have e0:Qdw a (f+1) b u=if a=(u.step.look b).1 then (true,(u.step.look b).2) else QmY (Qdw a f) (QaZ u.cs (u.step.look b).1) ((u.step.look b).1+1) (u.step.look b).2:=by
   simp only [Qdw];rw [if_neg (by rw [hlg];decide)]
  rw [e0]
  have hw4:=hG3.wk hlg
  have hgA:=(Qj6 (a:=(u.step.look b).1) hG.good).1
  have hA:QU x=((QaZ u.cs (u.step.look b).1:Nat):Int):=by
   have:QaZ u.cs (u.step.look b).1=(QU x).toNat:=by unfold QaZ;rw [hx]
   rw [this]
   have:=Q4 (QaM hG.good hx)
   unfold QU
   split<;>omega
  generalize hq:(u.step.look b).1=q at*
  obtain ⟨B,d,O,hrow,hS⟩:=hs3.lgS hlg
  by_cases haq:a=q
  ·rw [if_pos haq]
   refine ZeM ?_
   refine Zat ?_
   refine ZB ?_
   refine Zo ?_
   refine ZT ?_
   refine Zr ?_
   refine Z6 ?_
   refine ZhO ?_
   exact ⟨rfl,B,d,O,hrow,by rw [hlg];exact hS⟩
  ·rw [if_neg haq]
   refine ZeM ?_
   refine Zat ?_
   refine ZB ?_
   refine Zo ?_
   refine ZT ?_
   refine Zan ?_
   refine ZT ?_
   refine Ze ?_
   refine Calls.mono (Qnp (u.step.look b).2 q x _ hx3 ⟨B,d,O,hrow,by rw [hlg];exact hS⟩) ?_
   rintro _ w4 ⟨rfl,hs4⟩
   refine Za ?_
   rw [hA]
   clear hS hrow
   refine Zfd ?_
   refine Qp 23 (24::25::7::26::27::28::29::30::31::32::6::33::[]) (fun (m:Nat) v w'=>∃(i:Nat) (u':HU),i+m=QaZ u.cs q∧v= .int .i64 (i:Nat)∧GU n u'∧u'.cs=u.cs∧u.w+1≤u'.w∧u'.w≤401+4*f+i∧QmY (Qdw a f) (QaZ u.cs q) (q+1) (u.step.look b).2=QmY (Qdw a f) m (q+1+(i:Nat)) u'∧Qis M w0 H F ub g c sp u' w') (fun m=>m) (QaZ u.cs q) ?_ Yb ?_
   ·exact ⟨0,(u.step.look b).2,by omega,rfl,hG3,hcs3,by omega,by omega,by simp,hs4⟩
   clear hs4 hs3
   rintro m _ w5 jv ⟨i,u',hi,rfl,hG',hcs',hwl,hwu,hany,hs'⟩ ihl
   cases m with
   |zero=>
    refine Zdw ?_
    refine ZhO ?_
    rw [hany]
    exact ⟨rfl,hs'⟩
   |succ m=>
    have hou:=Qn1 (n:=n) a f (q+1+(i:Nat)) u' hG'.good hG'.wk
    have hle:=hou.le
    have hlt:=hou.lt
    have htl:=hG'.trl
    have hstep:QmY (Qdw a f) (m+1) (q+1+(i:Nat)) u'=if (Qdw a f (q+1+(i:Nat)) u').1=true then Qdw a f (q+1+(i:Nat)) u' else QmY (Qdw a f) m (q+1+(i:Nat)+1) (Qdw a f (q+1+(i:Nat)) u').2:=rfl
    refine Zbd ?_
    refine Zgi ?_
    refine Zbb ?_
    refine ZaY ?_
    refine Calls.mono (ih M w0 H F ub g c sp a (q+1+(i:Nat)) u' _ hG' hn hc Ya Ya Ya Ya Ya hs') ?_
    rintro _ w6 ⟨rfl,hs6⟩
    refine Za ?_
    cases hr:(Qdw a f (q+1+(i:Nat)) u').1 with
    |true=>
     refine Z6 ?_
     refine ZhO ?_
     rw [hany,hstep,if_pos hr,hr]
     exact ⟨rfl,hs6⟩
    |false=>
     refine Zo ?_
     refine Z9 ?_
     refine ihl m _ _ _ ?_ ?_ Yb Yc
     ·omega
     ·refine ⟨i+1,(Qdw a f (q+1+(i:Nat)) u').2,by omega,by simp,⟨by rw [hou.cs];exact hG'.len,by rw [hou.cs];exact hG'.good,hou.wk,by rw [hou.tr];omega⟩,by rw [hou.cs];exact hcs',by omega,by omega,?_,hs6⟩
      rw [hany,hstep,if_neg (by rw [hr];decide)]
      congr 1
      omega
theorem Qq5 (n:Nat):∀f,Qqm n f
 |0=>Qq4 n 0 fun f' h=>by omega
 |f+1=>Qq4 n (f+1) fun f' h=>by
  obtain rfl:f=f':=by omega
  exact Qq5 n f
theorem QlV (n:Nat) (a b:Int) (y:HC) (u:HU) (w:World) (hG:GU n u) (hn:n≤65536) (hc:n≤c) (hlg:u.lg=false) (hy:hat u.cs a=some y) (hb0:0≤b) (hb1:b<n) (hs:Qis M w0 H F ub g c sp u w):
  Calls Tryz.prog 223 #[Qq0 ub,.int .i64 a,.int .i64 b] w fun e w'=>e= .returned (.bool (Qqf a b u).1)∧Qis M w0 H F ub g c sp (Qqf a b u).2 w':=by
 have hw:=hG.wk hlg
 have hou:=Qn1 (n:=n) a 401 b u hG.good hG.wk
 have htl:=hG.trl
 have e0:Qqf a b u=if (Qdw a 401 b u).1=true∨(Qdw a 401 b u).2.lg=true then (false,(Qdw a 401 b u).2) else (true,(Qdw a 401 b u).2.bind a b):=rfl
 rw [e0]
 refine QQ Tryz.func223 rfl Tryz.ntmps223 rfl ?_
 refine Zg ?_
 refine ZT ?_
 refine Zef ?_
 refine Calls.mono (Qq5 n 401 M w0 H F ub g c sp a b u _ hG hn hc Ya Ya Ya Ya Ya hs) ?_
 rintro _ w3 ⟨rfl,hs3⟩
 refine Za ?_
 cases ho:(Qdw a 401 b u).1 with
 |true=>
  rw [if_pos (.inl rfl)]
  refine ZaQ ?_
  refine Zb7 ?_
  refine ZiC ?_
  exact ⟨rfl,hs3⟩
 |false=>
  cases hl:(Qdw a 401 b u).2.lg with
  |true=>
   rw [if_pos (.inr rfl)]
   obtain ⟨B,d,O,hrow,hS⟩:=hs3.lgS hl
   refine Zco ?_
   refine Zf2 ?_
   refine ZB ?_
   refine Zb7 ?_
   refine ZiC ?_
   exact ⟨rfl,B,d,O,hrow,by rw [hl];exact hS⟩
  |false=>
   rw [if_neg Yf]
   obtain ⟨B,d,O,hrow,hS⟩:=hs3.lgS hl
   refine Zco ?_
   refine Zf2 ?_
   refine ZB ?_
   refine ZC ?_
   refine ZeL ?_
   refine Calls.mono (Qno (Qdw a 401 b u).2 a b y _ (by rw [hou.cs];exact hy) (by rw [hou.tr];omega) ⟨B,d,O,hrow,by rw [hl];exact hS⟩) ?_
   rintro _ w4 ⟨rfl,hs4⟩
   refine Za ?_
   refine Zbw ?_
   refine ZiC ?_
   exact ⟨rfl,hs4⟩
end
def Qm0 (n f:Nat):Prop:=∀(M:List Nat) (w0:World) (H:List (Nat×Obj)) (F:List (World→Prop)) (ub g c:Nat) (sp:List Value) (a b:Int) (u:HU) (w:World),
 GU n u→u.lg=false→n≤65536→n≤c→400≤u.w+f→f≤401→Qis M w0 H F ub g c sp u w→
  Calls Tryz.prog 196 #[Qq0 ub,.int .i64 a,.int .i64 b] w fun e w'=>e= .returned (.bool (Qdz f a b u).1)∧Qis M w0 H F ub g c sp (Qdz f a b u).2 w'
section
variable {M:List Nat} {w0:World} {H:List (Nat×Obj)} {F:List (World→Prop)} {ub g c:Nat} {sp:List Value}
theorem Quk (n f:Nat) (ih:Qm0 n f) (a b:Int) (x y:HC) (u:HU) (w:World) (hG:GU n u) (hlg:u.lg=false) (hn:n≤65536) (hc:n≤c) (hkf:400≤u.w+f) (hf:f≤401) (hx:hat u.cs a=some x) (hy:hat u.cs b=some y) (hs:Qis M w0 H F ub g c sp u w):
  Calls Tryz.prog 224 #[Qq0 ub,.int .i64 a,.int .i64 b] w fun e w'=>e= .returned (.bool (QeE (Qdz f) a b u).1)∧Qis M w0 H F ub g c sp (QeE (Qdz f) a b u).2 w':=by
 have hw:=hG.wk hlg
 obtain ⟨hx0,hx1,hgx⟩:=QbP.1 hx
 obtain ⟨hy0,hy1,hgy⟩:=QbP.1 hy
 have hlen:=hG.len
 have hcx:∀{o H' F'} w',St M w0 ((ub,o)::(g,cob u.cs sp)::H') F' w'→_:=fun w' hS=>(QG.own (cap:=u.cs.length) (hS.own (g,_) (.tail _ (.head _))) (Qaz u.cs) (Nat.le_refl _)).cell hgx
 have hcy:∀{o H' F'} w',St M w0 ((ub,o)::(g,cob u.cs sp)::H') F' w'→_:=fun w' hS=>(QG.own (cap:=u.cs.length) (hS.own (g,_) (.tail _ (.head _))) (Qaz u.cs) (Nat.le_refl _)).cell hgy
 have hA:QU x=((QaZ u.cs a:Nat):Int):=by
  have:QaZ u.cs a=(QU x).toNat:=by unfold QaZ;rw [hx]
  rw [this]
  have:=Q4 (QaM hG.good hx)
  unfold QU
  split<;>omega
 have hgA:=(Qj6 (a:=a) hG.good).1
 obtain ⟨B,d,O,hrow,hS⟩:=hs.lgS hlg
 refine QQ Tryz.func224 rfl Tryz.ntmps224 rfl ?_
 refine Zej ?_
 refine Zp ?_
 refine ZhP ?_
 replace hS:=hS.drew
 refine Zaq ?_
 refine Zaz ?_
 refine ZjV ?_
 refine ZK ?_
 refine ZbT ?_
 refine ZjW ?_
 refine Zaq ?_
 refine Zaz ?_
 refine ZjV ?_
 refine ZK ?_
 refine ZbT ?_
 refine ZjW ?_
 refine Qe rfl (fun _ hS=>QnF rfl rfl) rfl ?_
 refine ZiT ?_
 by_cases hxy:x=y
 case neg=>
  have e0:QeE (Qdz f) a b u=(false,u):=by unfold QeE;rw [hx,hy,if_neg (by simpa using hxy)]
  rw [e0,decide_eq_false hxy]
  refine Z2 ?_
  refine Zg ?_
  refine ZiD ?_
  exact ⟨rfl,B,d,O,hrow,by rw [hlg];exact hS⟩
 have e0:QeE (Qdz f) a b u=Qkv (Qdz f) (QaZ u.cs a) (a+1) (b+1) u:=by unfold QeE;rw [hx,hy,if_pos (by rw [hxy])]
 rw [e0,decide_eq_true hxy]
 refine ZbM ?_
 refine ZT ?_
 refine Ze ?_
 refine Calls.mono (Qnp u a x _ hx ⟨B,d,O,hrow,by rw [hlg];exact hS⟩) ?_
 rintro _ w4 ⟨rfl,hs4⟩
 refine Za ?_
 rw [hA]
 clear hS hrow
 refine Zfd ?_
 refine Qp 28 (29::30::7::31::32::33::34::35::36::37::38::39::40::41::6::42::[]) (fun (m:Nat) v w'=>∃(i:Nat) (u':HU),i+m=QaZ u.cs a∧v= .int .i64 (i:Nat)∧GU n u'∧u'.lg=false∧u.w≤u'.w∧Qkv (Qdz f) (QaZ u.cs a) (a+1) (b+1) u=Qkv (Qdz f) m (a+1+(i:Nat)) (b+1+(i:Nat)) u'∧Qis M w0 H F ub g c sp u' w') (fun m=>m) (QaZ u.cs a) ?_ Yb ?_
 ·exact ⟨0,u,by omega,rfl,hG,hlg,Nat.le_refl _,by simp,hs4⟩
 clear hs4
 rintro m _ w5 jv ⟨i,u',hi,rfl,hG',hl',hwl,hall,hs'⟩ ihl
 cases m with
 |zero=>
  refine Zdw ?_
  refine ZiD ?_
  rw [hall]
  exact ⟨rfl,hs'⟩
 |succ m=>
  have huu:=Qnl (n:=n) f (a+1+(i:Nat)) (b+1+(i:Nat)) u' hG' hl'
  have hstep:Qkv (Qdz f) (m+1) (a+1+(i:Nat)) (b+1+(i:Nat)) u'=if (Qdz f (a+1+(i:Nat)) (b+1+(i:Nat)) u').1=true then Qkv (Qdz f) m (a+1+(i:Nat)+1) (b+1+(i:Nat)+1) (Qdz f (a+1+(i:Nat)) (b+1+(i:Nat)) u').2 else Qdz f (a+1+(i:Nat)) (b+1+(i:Nat)) u':=rfl
  refine Zbd ?_
  refine ZcA ?_
  refine Zbb ?_
  refine Zbb ?_
  refine Zbb ?_
  refine ZaY ?_
  refine Calls.mono (ih M w0 H F ub g c sp (a+1+(i:Nat)) (b+1+(i:Nat)) u' _ hG' hl' hn hc Ya hf hs') ?_
  rintro _ w6 ⟨rfl,hs6⟩
  refine Za ?_
  cases hr:(Qdz f (a+1+(i:Nat)) (b+1+(i:Nat)) u').1 with
  |true=>
   refine Z1 ?_
   refine Z9 ?_
   refine ihl m _ _ _ ?_ ?_ Yb Yc
   ·omega
   ·have hlt:=huu.lt
    refine ⟨i+1,(Qdz f (a+1+(i:Nat)) (b+1+(i:Nat)) u').2,by omega,by simp,huu.gu,huu.ok hr,by omega,?_,hs6⟩
    rw [hall,hstep,if_pos hr]
    congr 1<;>omega
  |false=>
   refine ZL ?_
   refine Z6 ?_
   refine ZiD ?_
   rw [hall,hstep,if_neg (by rw [hr];decide),hr]
   exact ⟨rfl,hs6⟩
theorem Qqv (n f:Nat) (ih:∀f',f=f'+1→Qm0 n f'):Qm0 n f:=by
 intro M w0 H F ub g c sp a b u w hG hlg hn hc hkf hf hs
 have hw:=hG.wk hlg
 refine QQ Tryz.func196 rfl Tryz.ntmps196 rfl ?_
 refine Zfx ?_
 refine Calls.mono (QqL u _ Ya hs) ?_
 rintro _ w2 ⟨rfl,hs2⟩
 refine Za ?_
 refine Zbt ?_
 refine Ze ?_
 refine Calls.mono (Qjc u.step a _ (by rw [hG.step.len];exact hn) (by rw [hG.step.len];exact hc) hs2) ?_
 rintro _ w3 ⟨rfl,hs3⟩
 refine Za ?_
 have hGa:=hG.step.look a
 refine ZW ?_
 refine Ze ?_
 refine Calls.mono (Qjc (u.step.look a).2 b _ (by rw [hGa.len];exact hn) (by rw [hGa.len];exact hc) hs3) ?_
 rintro _ w4 ⟨rfl,hs4⟩
 refine Za ?_
 have hwa:=QeG u.step a
 have hwb:=QeG (u.step.look a).2 b
 have hG2:GU n ((u.step.look a).2.look b).2:=hGa.look b
 have hw2:((u.step.look a).2.look b).2.w=u.w+1:=by rw [hwb.1,hwa.1];rfl
 have hcs2:((u.step.look a).2.look b).2.cs=u.cs:=by rw [hwb.2.1,hwa.2.1];rfl
 cases hl2:((u.step.look a).2.look b).2.lg with
 |true=>
  have e0:Qdz f a b u=(false,((u.step.look a).2.look b).2):=by
   cases f with
   |zero=>rfl
   |succ f=>simp only [Qdz];rw [if_pos hl2]
  rw [e0]
  obtain ⟨B,d,O,hrow,hS⟩:=hs4.lgS hl2
  refine Zn ?_
  refine Zaj ?_
  refine Zat ?_
  refine ZjX ?_
  refine Z6 ?_
  refine Ze7 ?_
  exact ⟨rfl,B,d,O,hrow,by rw [hl2];exact hS⟩
 |false=>
  obtain ⟨hla,hb1,hb2⟩:=QdM hl2
  obtain ⟨hls,ha1,ha2⟩:=QdM hla
  obtain ⟨f,rfl⟩:∃f',f=f'+1:=by
   cases f with
   |succ f=>exact ⟨f,rfl⟩
   |zero=>rw [QtN Ya] at hls;cases hls
  have ih:=ih f rfl
  rw [hwa.2.1] at hb1 hb2
  obtain ⟨x,hx,hxe⟩:=Qd6 ha2
  obtain ⟨y,hy,hye⟩:=Qd6 hb2
  rw [←ha1] at hx hxe
  rw [←hb1] at hy hye
  replace hx:hat u.cs (u.step.look a).1=some x:=hx
  replace hy:hat u.cs ((u.step.look a).2.look b).1=some y:=hy
  obtain ⟨x0,x1,_⟩:=QbP.1 hx
  obtain ⟨y0,y1,_⟩:=QbP.1 hy
  rw [hG.len] at x1 y1
  have htl:=hG2.trl
  have e0:Qdz (f+1) a b u=if x.k=0 then (if y.k=0 then (if (u.step.look a).1=((u.step.look a).2.look b).1 then (true,((u.step.look a).2.look b).2) else (true,((u.step.look a).2.look b).2.bind (max (u.step.look a).1 ((u.step.look a).2.look b).1) (min (u.step.look a).1 ((u.step.look a).2.look b).1))) else Qqf (u.step.look a).1 ((u.step.look a).2.look b).1 ((u.step.look a).2.look b).2)
    else if y.k=0 then Qqf ((u.step.look a).2.look b).1 (u.step.look a).1 ((u.step.look a).2.look b).2 else QeE (Qdz f) (u.step.look a).1 ((u.step.look a).2.look b).1 ((u.step.look a).2.look b).2:=by
   simp only [Qdz]
   rw [if_neg (by rw [hl2];decide),show QbE u.cs (u.step.look a).1=x.k by unfold QbE;rw [hx],show QbE u.cs ((u.step.look a).2.look b).1=y.k by unfold QbE;rw [hy]]
  rw [e0]
  have hx':hat ((u.step.look a).2.look b).2.cs (u.step.look a).1=some x:=by rw [hcs2];exact hx
  have hy':hat ((u.step.look a).2.look b).2.cs ((u.step.look a).2.look b).1=some y:=by rw [hcs2];exact hy
  clear hs3 hs2 e0 hwb hb1 ha1 hxe hye hx hy
  generalize ((u.step.look a).2.look b).2=v at*
  generalize ((u.step.look a).2.look b).1=q at*
  generalize (u.step.look a).1=p at*
  obtain ⟨B,d,O,hrow,hS⟩:=hs4.lgS hl2
  refine Zn ?_
  refine Zaj ?_
  refine Zat ?_
  refine ZjX ?_
  refine Zo ?_
  refine Zu ?_
  clear hs4
  have hs5:Qis M w0 H F ub g c sp v _:=⟨B,d,O,hrow,by rw [hl2];exact hS⟩
  clear hrow hS
  refine Ze ?_
  refine Calls.mono (Qjb v p x _ hx' hs5) ?_
  rintro _ w5 ⟨rfl,hs6⟩
  refine Za ?_
  clear hs5
  refine ZW ?_
  refine Ze ?_
  refine Calls.mono (Qjb v q y _ hy' hs6) ?_
  rintro _ w6 ⟨rfl,hs7⟩
  refine Za ?_
  by_cases hxk:x.k=0
  ·rw [if_pos hxk, decide_eq_true hxk]
   by_cases hyk:y.k=0
   ·rw [if_pos hyk,decide_eq_true hyk]
    by_cases hpq:p=q
    ·rw [if_pos hpq]
     refine Zn ?_
     refine ZbW ?_
     refine Zl ?_
     refine Z3 ?_
     refine Zf ?_
     refine Zad ?_
     refine ZT ?_
     refine ZfE ?_
     refine Zg ?_
     refine Ze7 ?_
     exact ⟨rfl,hs7⟩
    ·rw [if_neg hpq]
     have hbnd:=Qno (M:=M) (w0:=w0) (H:=H) (F:=F) (ub:=ub) (g:=g) (c:=c) (sp:=sp) v (max p q) (min p q)
     have hmx:max p q=(if p<q then q else p):=by omega
     have hmn:min p q=(if q<p then q else p):=by omega
     have hhat:∃z,hat v.cs (max p q)=some z:=by
      rcases Int.le_total p q with hle|hle
      ·rw [Int.max_eq_right hle];exact ⟨y,hy'⟩
      ·rw [Int.max_eq_left hle];exact ⟨x,hx'⟩
     obtain ⟨z,hz⟩:=hhat
     refine Zn ?_
     refine ZbW ?_
     refine Zl ?_
     refine Z3 ?_
     refine Zf ?_
     refine Zad ?_
     refine ZT ?_
     refine Zz ?_
     refine Za5 ?_
     refine ZW ?_
     refine Zhq ?_
     refine ZW ?_
     refine Qa (QiE rfl rfl Ye) rfl ?_
     refine ZaY ?_
     refine Calls.mono (hbnd z _ hz Ya hs7) ?_
     rintro _ w8 ⟨rfl,hs8⟩
     refine Za ?_
     refine Zbw ?_
     refine Ze7 ?_
     exact ⟨rfl,hs8⟩
   ·rw [if_neg hyk,decide_eq_false hyk]
    refine Zn ?_
    refine ZbW ?_
    refine Zl ?_
    refine Z3 ?_
    refine Zf ?_
    refine Zbi ?_
    refine ZbE ?_
    refine ZeL ?_
    refine Calls.mono (QlV n p q x v _ hG2 hn hc hl2 hx' y0 y1 hs7) ?_
    rintro _ w8 ⟨rfl,hs8⟩
    refine ZD ?_
    refine Ze7 ?_
    exact ⟨rfl,hs8⟩
  ·rw [if_neg hxk,decide_eq_false hxk]
   by_cases hyk:y.k=0
   ·rw [if_pos hyk,decide_eq_true hyk]
    refine Zn ?_
    refine ZbW ?_
    refine Zu ?_
    refine ZaV ?_
    refine Zbi ?_
    refine ZbV ?_
    refine Zl ?_
    refine ZbE ?_
    refine ZeL ?_
    refine Calls.mono (QlV n q p y v _ hG2 hn hc hl2 hy' x0 x1 hs7) ?_
    rintro _ w8 ⟨rfl,hs8⟩
    refine ZD ?_
    refine Ze7 ?_
    exact ⟨rfl,hs8⟩
   ·rw [if_neg hyk,decide_eq_false hyk]
    refine Zn ?_
    refine ZbW ?_
    refine Zu ?_
    refine ZaV ?_
    refine Zbi ?_
    refine ZbV ?_
    refine Zl ?_
    refine ZbV ?_
    refine Zb2 ?_
    refine ZeL ?_
    refine Calls.mono (Quk n f ih p q x y v _ hG2 hl2 hn hc Ya Ya hx' hy' hs7) ?_
    rintro _ w8 ⟨rfl,hs8⟩
    refine ZD ?_
    refine Ze7 ?_
    exact ⟨rfl,hs8⟩
theorem Qqw (n:Nat):∀f,Qm0 n f
 |0=>Qqv n 0 fun f' h=>by omega
 |f+1=>Qqv n (f+1) fun f' h=>by
  obtain rfl:f=f':=by omega
  exact Qqw n f
end
section
variable {M:List Nat} {w0:World} {H:List (Nat×Obj)} {F:List (World→Prop)}
theorem St.freezeG {g c:Nat} {L:List HC} {sp:List Value} {w:World} (hS:St M w0 ((g,cob L sp)::H) F w) (hc:L.length≤c):St M w0 H (QG 3 (Qav L) (some ⟨g,0,none⟩) L.length c::F) w:=by
 have ho:=hS.own (g,_) (.head _)
 refine hS.drop.learn fun w' hw=>QG.own (sp:=sp) (el:=104) ?_ (Qaz L) hc
 rw [hw.block g (Qc0 ho) fun hm=> ?_]
 ·exact ho
 ·obtain ⟨p,hp,e⟩:=List.mem_map.1 hm
  exact (List.pairwise_cons.1 hS.apart).1 p hp e.symm
theorem QzU {h:HH} {A3 B3:Option Addr} {c3 d3 ub:Nat} {O3 O4:List (Nat×Obj)} {w:World} (hr3:Rw 104 3 (.slice A3 h.cs.length c3) h.cs.length (Qav h.cs) O3) (hr4:Rw 3 1 (.slice B3 h.tr.length d3) h.tr.length (Qr h.tr) O4) (hp:0<h.cs.length)
  (hS:St M w0 ((ub,.cells [.slice A3 h.cs.length c3,.slice B3 h.tr.length d3,.int .i64 0,.bool false].toArray 254)::(O4++(O3++H))) F w):
  ∃ub' g c sp,Qq0 ub=Qq0 ub'∧h.cs.length≤c∧Qis M w0 H F ub' g c sp ⟨h.cs,h.tr,0,false⟩ w:=by
 obtain ⟨g,sp,rfl,rfl,_,hle,_⟩:=hr3.some_ hp
 exact ⟨ub,g,c3,sp,rfl,hle,B3,d3,O4,hr4,hS.perm (.cons _ (List.perm_append_comm_assoc O4 [_] _))⟩
theorem Qnk (h:HH) (a b:Int) (A B:Option Addr) (c d:Nat) (w:World) (hH:Und F (HFl h A c B d)) (hS:St M w0 H F w):
  Calls Tryz.prog 155 #[hv h A c B d,.int .i64 a,.int .i64 b] w (QzQ M w0 H F (Qaf h a b).1 fun A' c' B' d' e=>e= .returned (.tuple #[hv (Qaf h a b).1 A' c' B' d',.bool (Qaf h a b).2.1,.int .i64 (Qaf h a b).2.2])):=by
 have hL:Und F (QG 3 (Qav h.cs) A h.cs.length c):=hH.imp fun _ h=>h.1
 have hT:Und F (QG 1 (Qr h.tr) B h.tr.length d):=hH.imp fun _ h=>h.2
 refine QQ Tryz.func155 rfl Tryz.ntmps155 rfl ?_
 refine Zi ?_
 clear hS
 intro b1 wx1 hS
 refine ZbA ?_
 clear hS
 intro b2 wx2 hS
 refine Zn ?_
 refine Zao ?_
 refine Zau ?_
 refine Zgf ?_
 rintro _ w2 ⟨rfl,hb2⟩
 refine Za ?_
 replace hS:=hS.grow hb2
 cases hg:QS h with
 |false=>
  have e0:Qaf h a b=(h,false,1):=by unfold Qaf;rw [if_pos hg]
  rw [e0]
  refine Zcb ?_
  refine Zhj ?_
  clear hS
  intro wx3 hS
  refine ZeP ?_
  exact ⟨A,c,B,d,F,rfl,fun _ h=>h,hH,hS.drop.drop⟩
 |true=>
 obtain ⟨hl1,hl2⟩:=Qes hg
 refine Z1 ?_
 refine Zao ?_
 refine Zau ?_
 refine Za6 ?_
 refine Calls.mono (QbQ h.cs.length c A B h.tr.length d a _) ?_
 rintro _ w3 ⟨rfl,hb3⟩
 refine Za ?_
 replace hS:=hS.grow hb3
 cases ha:Qo h.cs a with
 |false=>
  have e0:Qaf h a b=(h,false,4):=by unfold Qaf;rw [if_neg (by rw [hg];decide),ha,if_pos Yd]
  rw [e0,show (decide (0≤a)&&decide (a<(h.cs.length:Nat)))=false from ha]
  refine ZL ?_
  refine ZaQ ?_
  refine Zgh ?_
  clear hS
  intro wx3 hS
  refine ZeP ?_
  exact ⟨A,c,B,d,F,rfl,fun _ h=>h,hH,hS.drop.drop⟩
 |true=>
 rw [show (decide (0≤a)&&decide (a<(h.cs.length:Nat)))=true from ha]
 refine ZL ?_
 refine Z3 ?_
 refine Zau ?_
 refine ZH ?_
 refine Ze ?_
 refine Calls.mono (QbQ h.cs.length c A B h.tr.length d b _) ?_
 rintro _ w4 ⟨rfl,hb4⟩
 refine Za ?_
 replace hS:=hS.grow hb4
 cases hb:Qo h.cs b with
 |false=>
  have e0:Qaf h a b=(h,false,4):=by unfold Qaf;rw [if_neg (by rw [hg];decide),ha,hb,if_pos Yd]
  rw [e0,show (decide (0≤b)&&decide (b<(h.cs.length:Nat)))=false from hb]
  refine ZbH ?_
  refine Zgh ?_
  clear hS
  intro wx3 hS
  refine ZeP ?_
  exact ⟨A,c,B,d,F,rfl,fun _ h=>h,hH,hS.drop.drop⟩
 |true=>
 rw [show (decide (0≤b)&&decide (b<(h.cs.length:Nat)))=true from hb]
 have hpos:0<h.cs.length:=by
  obtain ⟨x,hx⟩:=Qdh.1 ha
  have:=QdN hx;omega
 refine Zbm ?_
 refine Zp ?_
 refine QbW 9 (26::27::28::29::30::31::32::33::34::[]) (fun v w'=>∃ub g c' sp,v=Qq0 ub∧h.cs.length≤c'∧Qis M w0 ((b2,hob none 0 0 none 0 0)::(b1,hob A h.cs.length c B h.tr.length d)::H) F ub g c' sp ⟨h.cs,h.tr,0,false⟩ w') ?_ ?_
 ·intro hmeet
  refine QaS (St _ _ _ _) 10 (.read 0 (.read 1 (.read 3 (.read 4 (.pick 2 (.pick 5 (.read 6 (.read 7 (.pick 8 (.read 9 .tail) .none))) .none) .none))))) Yc Yc hS.drew ?_
  replace hS:=hS.drew
  refine ZcI ?_
  refine ZiE ?_
  refine Ziz ?_
  refine ZiE ?_
  refine ZfS ?_
  refine Calls.mono (QlS h.cs A c _ hL Ya hS) ?_
  rintro _ w5 ⟨A3,c3,O3,rfl,hrow3,hS'⟩
  refine Za ?_
  replace hS:=hS'
  clear hS'
  refine ZiF ?_
  refine ZfS ?_
  refine Calls.mono (QsY h.tr B d _ hT Ya hS) ?_
  rintro _ w6 ⟨B3,d3,O4,rfl,hrow4,hS'⟩
  refine Za ?_
  replace hS:=hS'
  clear hS'
  refine ZiF ?_
  refine Ze6 ?_
  refine Qj rfl (fun _ hS=>QD (cells:=[_,_,_,_]) (.cons Yb .nil) rfl) rfl ?_
  refine Zay ?_
  refine ZaX ?_
  clear hS
  intro b3 wx3 hS
  refine ZiF ?_
  refine ZcY ?_
  exact hmeet _ _ _ (QzU hrow3 hrow4 hpos (by first|exact hS|exact hS.perm (.cons _ (List.perm_append_comm_assoc _ _ _)))) Yb Yc
 clear hS
 rintro jv _ w5 ⟨ub,g,c5,sp,rfl,hc5,hs5⟩
 have hG:GU h.cs.length ⟨h.cs,h.tr,0,false⟩:=by
  refine ⟨rfl,?_,fun _=>by show (0:Nat)≤400;omega,by show h.tr.length≤65536+0;omega⟩
  unfold QS Qat at hg
  simp only [Bool.and_eq_true] at hg
  exact hg.1.2
 have huu:=Qnl 401 a b _ hG rfl
 have hun:=Qqw h.cs.length 401 M w0 ((b2,hob none 0 0 none 0 0)::(b1,hob A h.cs.length c B h.tr.length d)::H) F ub g c5 sp a b ⟨h.cs,h.tr,0,false⟩
 have e0:Qaf h a b=if (Qdz 401 a b ⟨h.cs,h.tr,0,false⟩).2.lg=true∨(Qdz 401 a b ⟨h.cs,h.tr,0,false⟩).1=true∧65536<(Qdz 401 a b ⟨h.cs,h.tr,0,false⟩).2.tr.length then (h,false,3)
   else if (Qdz 401 a b ⟨h.cs,h.tr,0,false⟩).1=false then (h,false,0)
   else (⟨(Qdz 401 a b ⟨h.cs,h.tr,0,false⟩).2.cs,(Qdz 401 a b ⟨h.cs,h.tr,0,false⟩).2.tr⟩,true,0):=by
  unfold Qaf;rw [if_neg (by rw [hg];decide),ha,hb,if_neg Yf]
 rw [e0]
 refine ZeL ?_
 refine Calls.mono (hun _ hG rfl hl1 hc5 (by show 400≤0+401;omega) Ya hs5) ?_
 rintro _ w6 ⟨rfl,hs6⟩
 refine Za ?_
 have hgu:=huu.gu
 have hok:=huu.ok
 clear huu hun e0 hs5
 generalize Qdz 401 a b ⟨h.cs,h.tr,0,false⟩=r at*
 obtain ⟨ok,u⟩:=r
 dsimp only at*
 cases hlg:u.lg with
 |true=>
  rw [if_pos (.inl rfl)]
  obtain ⟨B6,d6,O6,hrow6,hS⟩:=hs6.lgS hlg
  replace hS:=hS.perm (.cons _ (.cons _ (List.perm_append_comm_assoc O6 [_,_] _)))
  refine Zd ?_
  refine Zbl ?_
  refine Zai ?_
  refine Zcm ?_
  refine Zdd ?_
  refine ZdU ?_
  refine ZaV ?_
  refine Zgh ?_
  clear hS
  intro wx4 hS
  refine ZeP ?_
  exact ⟨A,c,B,d,F,rfl,fun _ h=>h,hH,St.dropL (L:=O6) hS.drop.drop.drop.drop⟩
 |false=>
  obtain ⟨B6,d6,O6,hrow6,hS⟩:=hs6.lgS hlg
  replace hS:=hS.perm (.cons _ (.cons _ (List.perm_append_comm_assoc O6 [_,_] _)))
  cases ok with
  |false=>
   rw [if_neg Yd,if_pos rfl]
   refine Zd ?_
   refine Zbl ?_
   refine ZN ?_
   refine ZcP ?_
   refine ZaI ?_
   refine ZC ?_
   refine ZF ?_
   refine Zcb ?_
   refine Zhj ?_
   clear hS
   intro wx4 hS
   refine ZeP ?_
   exact ⟨A,c,B,d,F,rfl,fun _ h=>h,hH,St.dropL (L:=O6) hS.drop.drop.drop.drop⟩
  |true=>
   by_cases htl:65536<u.tr.length
   ·rw [if_pos (.inr ⟨rfl,htl⟩)]
    refine Zd ?_
    refine Zbl ?_
    refine ZN ?_
    refine Zco ?_
    refine Zbr ?_
    refine ZcO ?_
    refine Zb8 ?_
    refine ZaI ?_
    refine Zgh ?_
    clear hS
    intro wx4 hS
    refine ZeP ?_
    exact ⟨A,c,B,d,F,rfl,fun _ h=>h,hH,St.dropL (L:=O6) hS.drop.drop.drop.drop⟩
   ·rw [if_neg Yg,if_neg Yf]
    refine Zd ?_
    refine Zbl ?_
    refine ZN ?_
    refine Zco ?_
    refine Zbr ?_
    refine ZcO ?_
    refine Zb8 ?_
    refine ZaI ?_
    refine ZC ?_
    refine ZeH ?_
    refine ZaR ?_
    refine Zhj ?_
    clear hS
    intro wx4 hS
    refine ZeP ?_
    have hS2:=(hS.drop.perm (List.perm_append_comm_assoc [_] [_,_] _)).drop.drop
    have hS3:=St.freezeG hS2 (c:=c5) (by rw [hgu.len];exact hc5)
    have hS4:=St.freezeR hrow6 hS3
    exact ⟨_,c5,B6,d6,_,rfl,fun φ h=> .tail _ (.tail _ h),fun w' hw=>⟨hw _ (.tail _ (.head _)),hw _ (.head _)⟩,hS4⟩
end
end Go.Proofs.YthliapbflkfdiacGreatDoor
