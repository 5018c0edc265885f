/- HWalk5, HWalk6, HWalk7: texts that follow one another, laid into one file. -/
import Derived.Test.YthliapbflkfdiacGreatDoorZ0
import Derived.Test.YthliapbflkfdiacGreatDoorG34
import Derived.Test.YthliapbflkfdiacGreatDoorG28
namespace Go.Proofs.YthliapbflkfdiacGreatDoor
open Go.RowKit
set_option linter.unusedVariables false
set_option linter.unusedSimpArgs false
set_option maxRecDepth 100000
set_option maxHeartbeats 1000000
abbrev QnV (b:Nat):Value:= .pointer (some ⟨b,0,none⟩)
abbrev uob (g n c:Nat) (B:Option Addr) (m d w:Nat) (lg:Bool):Obj:= .cells [.slice (some ⟨g,0,none⟩) n c,.slice B m d,.int .i64 (w:Nat),.bool lg].toArray 254
abbrev cob (L:List HC) (sp:List Value):Obj:= .cells (Q5 L++sp).toArray 104
def QgD (M:List Nat) (w0:World) (H:List (Nat×Obj)) (F:List (World→Prop)) (ub g c:Nat) (sp:List Value) (u:HU) (w:World):Prop:=
 ∃(B:Option Addr) (d:Nat) (O:List (Nat×Obj)),Rw 3 1 (.slice B u.tr.length d) u.tr.length (Qm u.tr) O∧St M w0 ((ub,uob g u.cs.length c B u.tr.length d u.w u.lg)::(g,cob u.cs sp)::(O++H)) F w
section
variable {M:List Nat} {w0:World} {H:List (Nat×Obj)} {F:List (World→Prop)} {ub g c:Nat} {sp:List Value}
theorem QnN (u:HU) (w:World) (hw:u.w≤100000) (hs:QgD M w0 H F ub g c sp u w):
  Calls Tryz.prog 219 #[QnV ub] w fun e w'=>e= .returned (.tuple #[])∧QgD M w0 H F ub g c sp u.step w':=by
 obtain ⟨B,d,O,hrow,hS⟩:=hs
 refine Qe Tryz.func219 rfl Tryz.ntmps219 rfl ?_
 by_cases h4:400<u.w+1
 ·refine Zah ?_
  refine Zz ?_
  refine Zdg ?_
  refine Zs ?_
  clear hS
  intro wx1 hS
  refine Zb ?_
  refine Zah ?_
  refine ZF ?_
  refine Za6 ?_
  refine ZbE ?_
  refine Zs ?_
  clear hS
  intro wx2 hS
  refine Zb ?_
  refine QB Tryz.func219 rfl ?_
  exact ⟨rfl,B,d,O,hrow,by simp only [HU.step,decide_eq_true h4,Bool.or_true];exact hS⟩
 ·refine Zah ?_
  refine Zz ?_
  refine Zdg ?_
  refine Zs ?_
  clear hS
  intro wx1 hS
  refine Zb ?_
  refine Zah ?_
  refine ZF ?_
  refine Zr ?_
  refine QB Tryz.func219 rfl ?_
  exact ⟨rfl,B,d,O,hrow,by simp only [HU.step,decide_eq_false h4,Bool.or_false];exact hS⟩
theorem Qhd (u:HU) (a:Int) (w:World) (hl:u.cs.length≤65536) (hc:u.cs.length≤c) (hs:QgD M w0 H F ub g c sp u w):
  Calls Tryz.prog 220 #[QnV ub,.int .i64 a] w fun e w'=>e= .returned (.int .i64 (u.look a).1)∧QgD M w0 H F ub g c sp (u.look a).2 w':=by
 obtain ⟨B,d,O,hrow,hS⟩:=hs
 refine Qg Tryz.func220 rfl Tryz.ntmps220 rfl ?_
 cases hg:u.lg with
 |true=>
  rw [hg] at hS
  have e0:u.look a=(-1,u):=by unfold HU.look;rw [if_pos hg]
  rw [e0]
  refine ZQ ?_
  refine Zci ?_
  refine Zai ?_
  refine Zfm ?_
  exact ⟨rfl,B,d,O,hrow,by rw [hg];exact hS⟩
 |false=>
  rw [hg] at hS
  have e0:u.look a=(Qq u.cs a,⟨u.cs,u.tr,u.w,decide (Qq u.cs a<0)⟩):=by unfold HU.look;rw [if_neg (by rw [hg];decide)]
  rw [e0]
  have hfl:∀{o H' F'} w',St M w0 ((ub,o)::(g,cob u.cs sp)::H') F' w'→Qz 3 (Q5 u.cs) (some ⟨g,0,none⟩) u.cs.length c w':=fun w' hS=>Qz.own (hS.own (g,_) (.tail _ (.head _))) (Q9 _) hc
  by_cases hn:Qq u.cs a<0
  ·rw [decide_eq_true hn]
   refine ZQ ?_
   refine Zci ?_
   refine Zr ?_
   refine Zas ?_
   refine Zab ?_
   refine Zau ?_
   refine Calls.mono (Qj4 u.cs _ B c u.tr.length d a _ (hfl _ hS) Ya) ?_
   rintro _ w3 ⟨rfl,hb3⟩
   refine Za ?_
   replace hS:=hS.grow hb3
   refine ZbB ?_
   refine Za6 ?_
   refine ZbE ?_
   refine Zs ?_
   clear hS
   intro wx1 hS
   refine Zcz ?_
   refine Zfm ?_
   exact ⟨rfl,B,d,O,hrow,hS⟩
  ·rw [decide_eq_false hn]
   refine ZQ ?_
   refine Zci ?_
   refine Zr ?_
   refine Zas ?_
   refine Zab ?_
   refine Zau ?_
   refine Calls.mono (Qj4 u.cs _ B c u.tr.length d a _ (hfl _ hS) Ya) ?_
   rintro _ w3 ⟨rfl,hb3⟩
   refine Za ?_
   replace hS:=hS.grow hb3
   refine ZcA ?_
   refine ZX ?_
   refine Zfm ?_
   exact ⟨rfl,B,d,O,hrow,hS⟩
theorem Qhc (u:HU) (a:Int) (x:HC) (w:World) (hx:hat u.cs a=some x) (hs:QgD M w0 H F ub g c sp u w):
  Calls Tryz.prog 221 #[QnV ub,.int .i64 a] w fun e w'=>e= .returned (.bool (decide (x.k=0)))∧QgD M w0 H F ub g c sp u w':=by
 obtain ⟨B,d,O,hrow,hS⟩:=hs
 obtain ⟨h0,h1,hg⟩:=Qbf.1 hx
 have hcc:∀{o H' F'} w',St M w0 ((ub,o)::(g,cob u.cs sp)::H') F' w'→_:=fun w' hS=>(Qz.own (cap:=u.cs.length) (hS.own (g,_) (.tail _ (.head _))) (Q9 u.cs) (Nat.le_refl _)).cell hg
 refine Qg Tryz.func221 rfl Tryz.ntmps221 rfl ?_
 by_cases hk:x.k=0
 ·rw [decide_eq_true hk]
  refine Zk ?_
  refine ZcO ?_
  refine Z9 ?_
  refine ZR ?_
  refine Zb2 ?_
  refine Qc Tryz.func221 rfl Yb ?_
  exact ⟨rfl,B,d,O,hrow,hS⟩
 ·rw [decide_eq_false hk]
  refine Zk ?_
  refine ZcO ?_
  refine Z9 ?_
  refine ZR ?_
  refine Zb2 ?_
  refine Qc Tryz.func221 rfl Yb ?_
  exact ⟨rfl,B,d,O,hrow,hS⟩
theorem QkS (u:HU) (a:Int) (x:HC) (w:World) (hx:hat u.cs a=some x) (hs:QgD M w0 H F ub g c sp u w):
  Calls Tryz.prog 240 #[QnV ub,.int .i64 a] w fun e w'=>e= .returned (.int .i64 (QG x))∧QgD M w0 H F ub g c sp u w':=by
 obtain ⟨B,d,O,hrow,hS⟩:=hs
 obtain ⟨h0,h1,hg⟩:=Qbf.1 hx
 have hcc:∀{o H' F'} w',St M w0 ((ub,o)::(g,cob u.cs sp)::H') F' w'→_:=fun w' hS=>(Qz.own (cap:=u.cs.length) (hS.own (g,_) (.tail _ (.head _))) (Q9 u.cs) (Nat.le_refl _)).cell hg
 refine Qg Tryz.func240 rfl Tryz.ntmps240 rfl ?_
 refine Zk ?_
 refine ZcO ?_
 refine Ze5 ?_
 refine Zj ?_
 refine Calls.mono (Qoy x _) ?_
 rintro _ w3 ⟨rfl,hb3⟩
 refine Za ?_
 replace hS:=hS.grow hb3
 refine Zc ?_
 refine Qc Tryz.func240 rfl Yb ?_
 exact ⟨rfl,B,d,O,hrow,hS⟩
theorem QkR (u:HU) (a x:Int) (y:HC) (w:World) (hy:hat u.cs a=some y) (ht:u.tr.length≤1000000) (hs:QgD M w0 H F ub g c sp u w):
  Calls Tryz.prog 222 #[QnV ub,.int .i64 a,.int .i64 x] w fun e w'=>e= .returned (.tuple #[])∧QgD M w0 H F ub g c sp (u.bind a x) w':=by
 obtain ⟨B,d,O,hrow,hS⟩:=hs
 obtain ⟨h0,h1,hg⟩:=Qbf.1 hy
 have hput:=Qkg u.cs sp a.toNat x Ya
 refine QZ Tryz.func222 rfl Tryz.ntmps222 rfl ?_
 refine Zas ?_
 refine Z9 ?_
 refine ZR ?_
 refine ZE ?_
 refine Zaa ?_
 refine ZU ?_
 refine Zf9 ?_
 clear hS
 intro w6 hS
 refine Zb ?_
 refine Z7 ?_
 refine Za3 ?_
 refine ZU ?_
 refine Zb4 ?_
 refine Zam ?_
 clear hS
 intro b1 wx1 hS
 refine QgR (L:=[a]) hS Yb (by rfl) rfl rfl rfl (Qz.own (sp:=[]) (hS.own (_,_) (.head _)) rfl (Nat.le_refl _)) hrow (List.perm_append_comm_assoc [_,_,_] O _) Yh rfl ?_
 clear hS
 intro v7 O7 w7 hrow7 hS
 obtain ⟨B7,d7,rfl,_⟩:=hrow7.form
 replace hS:=(hS.perm (List.perm_append_comm_assoc O7 [_,_,_] _)).drop
 refine Za3 ?_
 refine ZU ?_
 refine Zs ?_
 clear hS
 intro wx2 hS
 refine Zb ?_
 refine QB Tryz.func222 rfl ?_
 refine ⟨rfl,B7,d7,O7,?_,?_⟩
 ·simp only [HU.bind,List.length_append,Qm,List.map_append] at hrow7⊢;exact hrow7
 ·simp only [HU.bind,List.length_append,QbE];exact hS
def Qnr (n f:Nat):Prop:=∀(M:List Nat) (w0:World) (H:List (Nat×Obj)) (F:List (World→Prop)) (ub g c:Nat) (sp:List Value) (a b:Int) (u:HU) (w:World),
 GU n u→n≤65536→n≤c→400≤u.w+f→u.w≤20000→f≤401→-1≤b→b≤100000→QgD M w0 H F ub g c sp u w→
  Calls Tryz.prog 239 #[QnV ub,.int .i64 a,.int .i64 b] w fun e w'=>e= .returned (.bool (Qct a f b u).1)∧QgD M w0 H F ub g c sp (Qct a f b u).2 w'
theorem Qqj {u:HU} (h:400≤u.w):u.step.lg=true:=by simp only [HU.step,decide_eq_true (show 400<u.w+1 by omega),Bool.or_true]
theorem QgD.lgS {u:HU} {w:World} {b:Bool} (h:QgD M w0 H F ub g c sp u w) (hb:u.lg=b):∃(B:Option Addr) (d:Nat) (O:List (Nat×Obj)),Rw 3 1 (.slice B u.tr.length d) u.tr.length (Qm u.tr) O∧St M w0 ((ub,uob g u.cs.length c B u.tr.length d u.w b)::(g,cob u.cs sp)::(O++H)) F w:=by
 obtain ⟨B,d,O,h1,h2⟩:=h
 rw [hb] at h2
 exact ⟨B,d,O,h1,h2⟩
theorem QnW (n f:Nat) (ih:∀f',f=f'+1→Qnr n f'):Qnr n f:=by
 intro M w0 H F ub g c sp a b u w hG hn hc hkf hk hf hb0 hb1 hs
 have hsl:(Qct a f b u).1=(Qct a f b u).1:=rfl
 refine QZ Tryz.func239 rfl Tryz.ntmps239 rfl ?_
 refine Zda ?_
 refine Calls.mono (QnN u _ Ya hs) ?_
 rintro _ w2 ⟨rfl,hs2⟩
 refine Za ?_
 refine Zb ?_
 refine Z8 ?_
 refine Calls.mono (Qhd u.step b _ (by rw [hG.step.len];exact hn) (by rw [hG.step.len];exact hc) hs2) ?_
 rintro _ w3 ⟨rfl,hs3⟩
 refine Za ?_
 have hG3:=hG.step.look b
 have hcs3:(u.step.look b).2.cs=u.cs:=(Qdj u.step b).2.1
 have hw3:(u.step.look b).2.w=u.w+1:=(Qdj u.step b).1
 cases hlg:(u.step.look b).2.lg with
 |true=>
  have e0:Qct a f b u=(false,(u.step.look b).2):=by
   cases f with
   |zero=>rfl
   |succ f=>simp only [Qct];rw [if_pos hlg]
  rw [e0]
  obtain ⟨B,d,O,hrow,hS⟩:=hs3.lgS hlg
  refine ZB ?_
  refine ZbE ?_
  refine ZR ?_
  refine Zai ?_
  refine ZeA ?_
  exact ⟨rfl,B,d,O,hrow,by rw [hlg];exact hS⟩
 |false=>
  obtain ⟨f,rfl⟩:∃f',f=f'+1:=by
   cases f with
   |succ f=>exact ⟨f,rfl⟩
   |zero=>
    have:=(QcH hlg).1
    rw [Qqj Ya] at this;cases this
  have ih:=ih f rfl
  obtain ⟨hl1,hp1,hp2⟩:=QcH hlg
  obtain ⟨x,hx,hxe⟩:=QcU hp2
  rw [←hp1] at hx
  replace hx:hat u.cs (u.step.look b).1=some x:=hx
  have hx3:hat (u.step.look b).2.cs (u.step.look b).1=some x:=by rw [hcs3];exact hx
  obtain ⟨hx0,hx1,_⟩:=Qbf.1 hx
  rw [hG.len] at hx1
  have e0:Qct a (f+1) b u=if a=(u.step.look b).1 then (true,(u.step.look b).2) else Qkz (Qct a f) (Qaz u.cs (u.step.look b).1) ((u.step.look b).1+1) (u.step.look b).2:=by
   simp only [Qct];rw [if_neg (by rw [hlg];decide)]
  rw [e0]
  have hw4:=hG3.wk hlg
  have hgA:=(QhZ (a:=(u.step.look b).1) hG.good).1
  have hA:QG x=((Qaz u.cs (u.step.look b).1:Nat):Int):=by
   have:Qaz u.cs (u.step.look b).1=(QG x).toNat:=by unfold Qaz;rw [hx]
   rw [this]
   have:=QM (Qam hG.good hx)
   unfold QG
   split<;>omega
  generalize hq:(u.step.look b).1=q at*
  obtain ⟨B,d,O,hrow,hS⟩:=hs3.lgS hlg
  by_cases haq:a=q
  ·rw [if_pos haq]
   refine ZB ?_
   refine ZbE ?_
   refine ZR ?_
   refine ZW ?_
   refine Zv ?_
   refine Zn ?_
   refine Zai ?_
   refine ZeA ?_
   exact ⟨rfl,B,d,O,hrow,by rw [hlg];exact hS⟩
  ·rw [if_neg haq]
   refine ZB ?_
   refine ZbE ?_
   refine ZR ?_
   refine ZW ?_
   refine Zv ?_
   refine Zn ?_
   refine ZW ?_
   refine Z8 ?_
   refine Calls.mono (QkS (u.step.look b).2 q x _ hx3 ⟨B,d,O,hrow,by rw [hlg];exact hS⟩) ?_
   rintro _ w4 ⟨rfl,hs4⟩
   refine Za ?_
   rw [hA]
   clear hS hrow
   refine Zd8 ?_
   refine Qo 23 (24::25::7::26::27::28::29::30::31::32::6::33::[]) (fun (m:Nat) v w'=>∃(i:Nat) (u':HU),i+m=Qaz u.cs q∧v= .int .i64 (i:Nat)∧GU n u'∧u'.cs=u.cs∧u.w+1≤u'.w∧u'.w≤401+4*f+i∧Qkz (Qct a f) (Qaz u.cs q) (q+1) (u.step.look b).2=Qkz (Qct a f) m (q+1+(i:Nat)) u'∧QgD M w0 H F ub g c sp u' w') (fun m=>m) (Qaz u.cs q) ?_ Yb ?_
   ·exact ⟨0,(u.step.look b).2,by omega,rfl,hG3,hcs3,by omega,by omega,by simp,hs4⟩
   clear hs4 hs3
   rintro m _ w5 jv ⟨i,u',hi,rfl,hG',hcs',hwl,hwu,hany,hs'⟩ ihl
   cases m with
   |zero=>
    refine Zdf ?_
    refine ZeA ?_
    rw [hany]
    exact ⟨rfl,hs'⟩
   |succ m=>
    have hou:=Qll (n:=n) a f (q+1+(i:Nat)) u' hG'.good hG'.wk
    have hle:=hou.le
    have hlt:=hou.lt
    have htl:=hG'.trl
    have hstep:Qkz (Qct a f) (m+1) (q+1+(i:Nat)) u'=if (Qct a f (q+1+(i:Nat)) u').1=true then Qct a f (q+1+(i:Nat)) u' else Qkz (Qct a f) m (q+1+(i:Nat)+1) (Qct a f (q+1+(i:Nat)) u').2:=rfl
    refine ZaU ?_
    refine Zdx ?_
    refine ZbP ?_
    refine Zal ?_
    refine Calls.mono (ih M w0 H F ub g c sp a (q+1+(i:Nat)) u' _ hG' hn hc Ya Ya Ya Ya Ya hs') ?_
    rintro _ w6 ⟨rfl,hs6⟩
    refine Za ?_
    cases hr:(Qct a f (q+1+(i:Nat)) u').1 with
    |true=>
     refine Zai ?_
     refine ZeA ?_
     rw [hany,hstep,if_pos hr,hr]
     exact ⟨rfl,hs6⟩
    |false=>
     refine Zcg ?_
     refine ihl m _ _ _ ?_ ?_ Yb Yc
     ·omega
     ·refine ⟨i+1,(Qct a f (q+1+(i:Nat)) u').2,by omega,by simp,⟨by rw [hou.cs];exact hG'.len,by rw [hou.cs];exact hG'.good,hou.wk,by rw [hou.tr];omega⟩,by rw [hou.cs];exact hcs',by omega,by omega,?_,hs6⟩
      rw [hany,hstep,if_neg (by rw [hr];decide)]
      congr 1
      omega
theorem QnX (n:Nat):∀f,Qnr n f
 |0=>QnW n 0 fun f' h=>by omega
 |f+1=>QnW n (f+1) fun f' h=>by
  obtain rfl:f=f':=by omega
  exact QnX n f
theorem QjE (n:Nat) (a b:Int) (y:HC) (u:HU) (w:World) (hG:GU n u) (hn:n≤65536) (hc:n≤c) (hlg:u.lg=false) (hy:hat u.cs a=some y) (hb0:0≤b) (hb1:b<n) (hs:QgD M w0 H F ub g c sp u w):
  Calls Tryz.prog 223 #[QnV ub,.int .i64 a,.int .i64 b] w fun e w'=>e= .returned (.bool (Qnn a b u).1)∧QgD M w0 H F ub g c sp (Qnn a b u).2 w':=by
 have hw:=hG.wk hlg
 have hou:=Qll (n:=n) a 401 b u hG.good hG.wk
 have htl:=hG.trl
 have e0:Qnn a b u=if (Qct a 401 b u).1=true∨(Qct a 401 b u).2.lg=true then (false,(Qct a 401 b u).2) else (true,(Qct a 401 b u).2.bind a b):=rfl
 rw [e0]
 refine QZ Tryz.func223 rfl Tryz.ntmps223 rfl ?_
 refine ZQ ?_
 refine ZE ?_
 refine Zal ?_
 refine Calls.mono (QnX n 401 M w0 H F ub g c sp a b u _ hG hn hc Ya Ya Ya Ya Ya hs) ?_
 rintro _ w3 ⟨rfl,hs3⟩
 refine Za ?_
 cases ho:(Qct a 401 b u).1 with
 |true=>
  rw [if_pos (.inl rfl)]
  refine Z3 ?_
  refine Za8 ?_
  refine Zfn ?_
  exact ⟨rfl,hs3⟩
 |false=>
  cases hl:(Qct a 401 b u).2.lg with
  |true=>
   rw [if_pos (.inr rfl)]
   obtain ⟨B,d,O,hrow,hS⟩:=hs3.lgS hl
   refine ZcB ?_
   refine Zck ?_
   refine Zbq ?_
   refine Za8 ?_
   refine Zfn ?_
   exact ⟨rfl,B,d,O,hrow,by rw [hl];exact hS⟩
  |false=>
   rw [if_neg Yg]
   obtain ⟨B,d,O,hrow,hS⟩:=hs3.lgS hl
   refine ZcB ?_
   refine Zck ?_
   refine Zbq ?_
   refine Zag ?_
   refine Zdz ?_
   refine Calls.mono (QkR (Qct a 401 b u).2 a b y _ (by rw [hou.cs];exact hy) (by rw [hou.tr];omega) ⟨B,d,O,hrow,by rw [hl];exact hS⟩) ?_
   rintro _ w4 ⟨rfl,hs4⟩
   refine Za ?_
   refine Zbi ?_
   refine Zfn ?_
   exact ⟨rfl,hs4⟩
end
def QkA (n f:Nat):Prop:=∀(M:List Nat) (w0:World) (H:List (Nat×Obj)) (F:List (World→Prop)) (ub g c:Nat) (sp:List Value) (a b:Int) (u:HU) (w:World),
 GU n u→u.lg=false→n≤65536→n≤c→400≤u.w+f→f≤401→QgD M w0 H F ub g c sp u w→
  Calls Tryz.prog 196 #[QnV ub,.int .i64 a,.int .i64 b] w fun e w'=>e= .returned (.bool (Qcv f a b u).1)∧QgD M w0 H F ub g c sp (Qcv f a b u).2 w'
section
variable {M:List Nat} {w0:World} {H:List (Nat×Obj)} {F:List (World→Prop)} {ub g c:Nat} {sp:List Value}
theorem QqD (n f:Nat) (ih:QkA n f) (a b:Int) (x y:HC) (u:HU) (w:World) (hG:GU n u) (hlg:u.lg=false) (hn:n≤65536) (hc:n≤c) (hkf:400≤u.w+f) (hf:f≤401) (hx:hat u.cs a=some x) (hy:hat u.cs b=some y) (hs:QgD M w0 H F ub g c sp u w):
  Calls Tryz.prog 224 #[QnV ub,.int .i64 a,.int .i64 b] w fun e w'=>e= .returned (.bool (Qdh (Qcv f) a b u).1)∧QgD M w0 H F ub g c sp (Qdh (Qcv f) a b u).2 w':=by
 have hw:=hG.wk hlg
 obtain ⟨hx0,hx1,hgx⟩:=Qbf.1 hx
 obtain ⟨hy0,hy1,hgy⟩:=Qbf.1 hy
 have hlen:=hG.len
 have hcx:∀{o H' F'} w',St M w0 ((ub,o)::(g,cob u.cs sp)::H') F' w'→_:=fun w' hS=>(Qz.own (cap:=u.cs.length) (hS.own (g,_) (.tail _ (.head _))) (Q9 u.cs) (Nat.le_refl _)).cell hgx
 have hcy:∀{o H' F'} w',St M w0 ((ub,o)::(g,cob u.cs sp)::H') F' w'→_:=fun w' hS=>(Qz.own (cap:=u.cs.length) (hS.own (g,_) (.tail _ (.head _))) (Q9 u.cs) (Nat.le_refl _)).cell hgy
 have hA:QG x=((Qaz u.cs a:Nat):Int):=by
  have:Qaz u.cs a=(QG x).toNat:=by unfold Qaz;rw [hx]
  rw [this]
  have:=QM (Qam hG.good hx)
  unfold QG
  split<;>omega
 have hgA:=(QhZ (a:=a) hG.good).1
 obtain ⟨B,d,O,hrow,hS⟩:=hs.lgS hlg
 refine QZ Tryz.func224 rfl Tryz.ntmps224 rfl ?_
 refine Zf ?_
 refine Zc7 ?_
 refine ZeB ?_
 replace hS:=hS.drew
 refine Zaz ?_
 refine Zaw ?_
 refine Zga ?_
 refine ZO ?_
 refine ZaY ?_
 refine Zgb ?_
 refine Zaz ?_
 refine Zaw ?_
 refine Zga ?_
 refine ZO ?_
 refine ZaY ?_
 refine Zgb ?_
 refine Qd rfl (fun _ hS=>Qk2 rfl rfl) rfl ?_
 refine ZeW ?_
 by_cases hxy:x=y
 case neg=>
  have e0:Qdh (Qcv f) a b u=(false,u):=by unfold Qdh;rw [hx,hy,if_neg (by simpa using hxy)]
  rw [e0,decide_eq_false hxy]
  refine Zy ?_
  refine Zk ?_
  refine Zfo ?_
  exact ⟨rfl,B,d,O,hrow,by rw [hlg];exact hS⟩
 have e0:Qdh (Qcv f) a b u=Qio (Qcv f) (Qaz u.cs a) (a+1) (b+1) u:=by unfold Qdh;rw [hx,hy,if_pos (by rw [hxy])]
 rw [e0,decide_eq_true hxy]
 refine Zb1 ?_
 refine Zm ?_
 refine Z8 ?_
 refine Calls.mono (QkS u a x _ hx ⟨B,d,O,hrow,by rw [hlg];exact hS⟩) ?_
 rintro _ w4 ⟨rfl,hs4⟩
 refine Za ?_
 rw [hA]
 clear hS hrow
 refine Zd8 ?_
 refine Qo 28 (29::30::7::31::32::33::34::35::36::37::38::39::40::41::6::42::[]) (fun (m:Nat) v w'=>∃(i:Nat) (u':HU),i+m=Qaz u.cs a∧v= .int .i64 (i:Nat)∧GU n u'∧u'.lg=false∧u.w≤u'.w∧Qio (Qcv f) (Qaz u.cs a) (a+1) (b+1) u=Qio (Qcv f) m (a+1+(i:Nat)) (b+1+(i:Nat)) u'∧QgD M w0 H F ub g c sp u' w') (fun m=>m) (Qaz u.cs a) ?_ Yb ?_
 ·exact ⟨0,u,by omega,rfl,hG,hlg,Nat.le_refl _,by simp,hs4⟩
 clear hs4
 rintro m _ w5 jv ⟨i,u',hi,rfl,hG',hl',hwl,hall,hs'⟩ ihl
 cases m with
 |zero=>
  refine Zdf ?_
  refine Zfo ?_
  rw [hall]
  exact ⟨rfl,hs'⟩
 |succ m=>
  have huu:=QkP (n:=n) f (a+1+(i:Nat)) (b+1+(i:Nat)) u' hG' hl'
  have hstep:Qio (Qcv f) (m+1) (a+1+(i:Nat)) (b+1+(i:Nat)) u'=if (Qcv f (a+1+(i:Nat)) (b+1+(i:Nat)) u').1=true then Qio (Qcv f) m (a+1+(i:Nat)+1) (b+1+(i:Nat)+1) (Qcv f (a+1+(i:Nat)) (b+1+(i:Nat)) u').2 else Qcv f (a+1+(i:Nat)) (b+1+(i:Nat)) u':=rfl
  refine ZaU ?_
  refine Zbr ?_
  refine ZbP ?_
  refine ZbP ?_
  refine ZbP ?_
  refine Zal ?_
  refine Calls.mono (ih M w0 H F ub g c sp (a+1+(i:Nat)) (b+1+(i:Nat)) u' _ hG' hl' hn hc Ya hf hs') ?_
  rintro _ w6 ⟨rfl,hs6⟩
  refine Za ?_
  cases hr:(Qcv f (a+1+(i:Nat)) (b+1+(i:Nat)) u').1 with
  |true=>
   refine ZaA ?_
   refine Zbz ?_
   refine ihl m _ _ _ ?_ ?_ Yb Yc
   ·omega
   ·have hlt:=huu.lt
    refine ⟨i+1,(Qcv f (a+1+(i:Nat)) (b+1+(i:Nat)) u').2,by omega,by simp,huu.gu,huu.ok hr,by omega,?_,hs6⟩
    rw [hall,hstep,if_pos hr]
    congr 1<;>omega
  |false=>
   refine Zbg ?_
   refine Zk ?_
   refine Zfo ?_
   rw [hall,hstep,if_neg (by rw [hr];decide),hr]
   exact ⟨rfl,hs6⟩
theorem QnA (n f:Nat) (ih:∀f',f=f'+1→QkA n f'):QkA n f:=by
 intro M w0 H F ub g c sp a b u w hG hlg hn hc hkf hf hs
 have hw:=hG.wk hlg
 refine QZ Tryz.func196 rfl Tryz.ntmps196 rfl ?_
 refine Zda ?_
 refine Calls.mono (QnN u _ Ya hs) ?_
 rintro _ w2 ⟨rfl,hs2⟩
 refine Za ?_
 refine Zb ?_
 refine Z8 ?_
 refine Calls.mono (Qhd u.step a _ (by rw [hG.step.len];exact hn) (by rw [hG.step.len];exact hc) hs2) ?_
 rintro _ w3 ⟨rfl,hs3⟩
 refine Za ?_
 have hGa:=hG.step.look a
 refine ZE ?_
 refine Zi ?_
 refine Calls.mono (Qhd (u.step.look a).2 b _ (by rw [hGa.len];exact hn) (by rw [hGa.len];exact hc) hs3) ?_
 rintro _ w4 ⟨rfl,hs4⟩
 refine Za ?_
 have hwa:=Qdj u.step a
 have hwb:=Qdj (u.step.look a).2 b
 have hG2:GU n ((u.step.look a).2.look b).2:=hGa.look b
 have hw2:((u.step.look a).2.look b).2.w=u.w+1:=by rw [hwb.1,hwa.1];rfl
 have hcs2:((u.step.look a).2.look b).2.cs=u.cs:=by rw [hwb.2.1,hwa.2.1];rfl
 cases hl2:((u.step.look a).2.look b).2.lg with
 |true=>
  have e0:Qcv f a b u=(false,((u.step.look a).2.look b).2):=by
   cases f with
   |zero=>rfl
   |succ f=>simp only [Qcv];rw [if_pos hl2]
  rw [e0]
  obtain ⟨B,d,O,hrow,hS⟩:=hs4.lgS hl2
  refine Zay ?_
  refine ZbE ?_
  refine Zgc ?_
  refine Zai ?_
  refine ZcX ?_
  exact ⟨rfl,B,d,O,hrow,by rw [hl2];exact hS⟩
 |false=>
  obtain ⟨hla,hb1,hb2⟩:=QcH hl2
  obtain ⟨hls,ha1,ha2⟩:=QcH hla
  obtain ⟨f,rfl⟩:∃f',f=f'+1:=by
   cases f with
   |succ f=>exact ⟨f,rfl⟩
   |zero=>rw [Qqj Ya] at hls;cases hls
  have ih:=ih f rfl
  rw [hwa.2.1] at hb1 hb2
  obtain ⟨x,hx,hxe⟩:=QcU ha2
  obtain ⟨y,hy,hye⟩:=QcU hb2
  rw [←ha1] at hx hxe
  rw [←hb1] at hy hye
  replace hx:hat u.cs (u.step.look a).1=some x:=hx
  replace hy:hat u.cs ((u.step.look a).2.look b).1=some y:=hy
  obtain ⟨x0,x1,_⟩:=Qbf.1 hx
  obtain ⟨y0,y1,_⟩:=Qbf.1 hy
  rw [hG.len] at x1 y1
  have htl:=hG2.trl
  have e0:Qcv (f+1) a b u=if x.k=0 then (if y.k=0 then (if (u.step.look a).1=((u.step.look a).2.look b).1 then (true,((u.step.look a).2.look b).2) else (true,((u.step.look a).2.look b).2.bind (max (u.step.look a).1 ((u.step.look a).2.look b).1) (min (u.step.look a).1 ((u.step.look a).2.look b).1))) else Qnn (u.step.look a).1 ((u.step.look a).2.look b).1 ((u.step.look a).2.look b).2)
    else if y.k=0 then Qnn ((u.step.look a).2.look b).1 (u.step.look a).1 ((u.step.look a).2.look b).2 else Qdh (Qcv f) (u.step.look a).1 ((u.step.look a).2.look b).1 ((u.step.look a).2.look b).2:=by
   simp only [Qcv]
   rw [if_neg (by rw [hl2];decide),show Qa7 u.cs (u.step.look a).1=x.k by unfold Qa7;rw [hx],show Qa7 u.cs ((u.step.look a).2.look b).1=y.k by unfold Qa7;rw [hy]]
  rw [e0]
  have hx':hat ((u.step.look a).2.look b).2.cs (u.step.look a).1=some x:=by rw [hcs2];exact hx
  have hy':hat ((u.step.look a).2.look b).2.cs ((u.step.look a).2.look b).1=some y:=by rw [hcs2];exact hy
  clear hs3 hs2 e0 hwb hb1 ha1 hxe hye hx hy
  generalize ((u.step.look a).2.look b).2=v at*
  generalize ((u.step.look a).2.look b).1=q at*
  generalize (u.step.look a).1=p at*
  obtain ⟨B,d,O,hrow,hS⟩:=hs4.lgS hl2
  refine Zay ?_
  refine ZbE ?_
  refine Zgc ?_
  refine Zr ?_
  refine Zv ?_
  clear hs4
  have hs5:QgD M w0 H F ub g c sp v _:=⟨B,d,O,hrow,by rw [hl2];exact hS⟩
  clear hrow hS
  refine Zi ?_
  refine Calls.mono (Qhc v p x _ hx' hs5) ?_
  rintro _ w5 ⟨rfl,hs6⟩
  refine Za ?_
  clear hs5
  refine ZE ?_
  refine Zi ?_
  refine Calls.mono (Qhc v q y _ hy' hs6) ?_
  rintro _ w6 ⟨rfl,hs7⟩
  refine Za ?_
  by_cases hxk:x.k=0
  ·rw [if_pos hxk, decide_eq_true hxk]
   by_cases hyk:y.k=0
   ·rw [if_pos hyk,decide_eq_true hyk]
    by_cases hpq:p=q
    ·rw [if_pos hpq]
     refine ZK ?_
     refine ZaG ?_
     refine Zl ?_
     refine ZH ?_
     refine Zg ?_
     refine ZbI ?_
     refine Zdc ?_
     refine ZD ?_
     refine Zr ?_
     refine Zk ?_
     refine ZcX ?_
     exact ⟨rfl,hs7⟩
    ·rw [if_neg hpq]
     have hbnd:=QkR (M:=M) (w0:=w0) (H:=H) (F:=F) (ub:=ub) (g:=g) (c:=c) (sp:=sp) v (max p q) (min p q)
     have hmx:max p q=(if p<q then q else p):=by omega
     have hmn:min p q=(if q<p then q else p):=by omega
     have hhat:∃z,hat v.cs (max p q)=some z:=by
      rcases Int.le_total p q with hle|hle
      ·rw [Int.max_eq_right hle];exact ⟨y,hy'⟩
      ·rw [Int.max_eq_left hle];exact ⟨x,hx'⟩
     obtain ⟨z,hz⟩:=hhat
     refine ZK ?_
     refine ZaG ?_
     refine Zl ?_
     refine ZH ?_
     refine Zg ?_
     refine ZbI ?_
     refine Zdc ?_
     refine ZD ?_
     refine Za6 ?_
     refine ZE ?_
     refine Ze8 ?_
     refine ZE ?_
     refine Qa (QjQ rfl rfl Ye) rfl ?_
     refine Zal ?_
     refine Calls.mono (hbnd z _ hz Ya hs7) ?_
     rintro _ w8 ⟨rfl,hs8⟩
     refine Za ?_
     refine Zbi ?_
     refine ZcX ?_
     exact ⟨rfl,hs8⟩
   ·rw [if_neg hyk,decide_eq_false hyk]
    refine ZK ?_
    refine ZaG ?_
    refine Zl ?_
    refine ZH ?_
    refine Zg ?_
    refine ZI ?_
    refine ZZ ?_
    refine ZX ?_
    refine Zy ?_
    refine Zdz ?_
    refine Calls.mono (QjE n p q x v _ hG2 hn hc hl2 hx' y0 y1 hs7) ?_
    rintro _ w8 ⟨rfl,hs8⟩
    refine ZJ ?_
    refine ZcX ?_
    exact ⟨rfl,hs8⟩
  ·rw [if_neg hxk,decide_eq_false hxk]
   by_cases hyk:y.k=0
   ·rw [if_pos hyk,decide_eq_true hyk]
    refine ZK ?_
    refine ZaG ?_
    refine Zv ?_
    refine Za4 ?_
    refine ZZ ?_
    refine ZX ?_
    refine ZZ ?_
    refine ZX ?_
    refine Zy ?_
    refine Zdz ?_
    refine Calls.mono (QjE n q p y v _ hG2 hn hc hl2 hy' x0 x1 hs7) ?_
    rintro _ w8 ⟨rfl,hs8⟩
    refine ZJ ?_
    refine ZcX ?_
    exact ⟨rfl,hs8⟩
   ·rw [if_neg hyk,decide_eq_false hyk]
    refine ZK ?_
    refine ZaG ?_
    refine Zv ?_
    refine Za4 ?_
    refine ZZ ?_
    refine ZX ?_
    refine ZZ ?_
    refine ZX ?_
    refine Zbm ?_
    refine Zdz ?_
    refine Calls.mono (QqD n f ih p q x y v _ hG2 hl2 hn hc Ya Ya hx' hy' hs7) ?_
    rintro _ w8 ⟨rfl,hs8⟩
    refine ZJ ?_
    refine ZcX ?_
    exact ⟨rfl,hs8⟩
theorem QnB (n:Nat):∀f,QkA n f
 |0=>QnA n 0 fun f' h=>by omega
 |f+1=>QnA n (f+1) fun f' h=>by
  obtain rfl:f=f':=by omega
  exact QnB n f
end
section
variable {M:List Nat} {w0:World} {H:List (Nat×Obj)} {F:List (World→Prop)}
theorem St.freezeG {g c:Nat} {L:List HC} {sp:List Value} {w:World} (hS:St M w0 ((g,cob L sp)::H) F w) (hc:L.length≤c):St M w0 H (Qz 3 (Q5 L) (some ⟨g,0,none⟩) L.length c::F) w:=by
 have ho:=hS.own (g,_) (.head _)
 refine hS.drop.learn fun w' hw=>Qz.own (sp:=sp) (el:=104) ?_ (Q9 L) hc
 rw [hw.block g (Qcn ho) fun hm=> ?_]
 ·exact ho
 ·obtain ⟨p,hp,e⟩:=List.mem_map.1 hm
  exact (List.pairwise_cons.1 hS.apart).1 p hp e.symm
theorem QvJ {h:HH} {A3 B3:Option Addr} {c3 d3 ub:Nat} {O3 O4:List (Nat×Obj)} {w:World} (hr3:Rw 104 3 (.slice A3 h.cs.length c3) h.cs.length (Q5 h.cs) O3) (hr4:Rw 3 1 (.slice B3 h.tr.length d3) h.tr.length (Qm h.tr) O4) (hp:0<h.cs.length)
  (hS:St M w0 ((ub,.cells [.slice A3 h.cs.length c3,.slice B3 h.tr.length d3,.int .i64 0,.bool false].toArray 254)::(O4++(O3++H))) F w):
  ∃ub' g c sp,QnV ub=QnV ub'∧h.cs.length≤c∧QgD M w0 H F ub' g c sp ⟨h.cs,h.tr,0,false⟩ w:=by
 obtain ⟨g,sp,rfl,rfl,_,hle,_⟩:=hr3.some_ hp
 exact ⟨ub,g,c3,sp,rfl,hle,B3,d3,O4,hr4,hS.perm (.cons _ (List.perm_append_comm_assoc O4 [_] _))⟩
theorem QkO (h:HH) (a b:Int) (A B:Option Addr) (c d:Nat) (w:World) (hH:Und F (HFl h A c B d)) (hS:St M w0 H F w):
  Calls Tryz.prog 155 #[hv h A c B d,.int .i64 a,.int .i64 b] w (QvE M w0 H F (QU h a b).1 fun A' c' B' d' e=>e= .returned (.tuple #[hv (QU h a b).1 A' c' B' d',.bool (QU h a b).2.1,.int .i64 (QU h a b).2.2])):=by
 have hL:Und F (Qz 3 (Q5 h.cs) A h.cs.length c):=hH.imp fun _ h=>h.1
 have hT:Und F (Qz 1 (Qm h.tr) B h.tr.length d):=hH.imp fun _ h=>h.2
 refine QZ Tryz.func155 rfl Tryz.ntmps155 rfl ?_
 refine Zd ?_
 clear hS
 intro b1 wx1 hS
 refine ZaX ?_
 clear hS
 intro b2 wx2 hS
 refine ZK ?_
 refine Zbn ?_
 refine Zab ?_
 refine Zdu ?_
 rintro _ w2 ⟨rfl,hb2⟩
 refine Za ?_
 replace hS:=hS.grow hb2
 cases hg:QE h with
 |false=>
  have e0:QU h a b=(h,false,1):=by unfold QU;rw [if_pos hg]
  rw [e0]
  refine ZaW ?_
  refine Zee ?_
  clear hS
  intro wx3 hS
  refine ZcP ?_
  exact ⟨A,c,B,d,F,rfl,fun _ h=>h,hH,hS.drop.drop⟩
 |true=>
 obtain ⟨hl1,hl2⟩:=Qdc hg
 refine ZbM ?_
 refine Zf ?_
 refine Zab ?_
 refine Zau ?_
 refine Calls.mono (Qbg h.cs.length c A B h.tr.length d a _) ?_
 rintro _ w3 ⟨rfl,hb3⟩
 refine Za ?_
 replace hS:=hS.grow hb3
 cases ha:Qj h.cs a with
 |false=>
  have e0:QU h a b=(h,false,4):=by unfold QU;rw [if_neg (by rw [hg];decide),ha,if_pos Yd]
  rw [e0,show (decide (0≤a)&&decide (a<(h.cs.length:Nat)))=false from ha]
  refine ZV ?_
  refine Z3 ?_
  refine Zdw ?_
  clear hS
  intro wx3 hS
  refine ZcP ?_
  exact ⟨A,c,B,d,F,rfl,fun _ h=>h,hH,hS.drop.drop⟩
 |true=>
 rw [show (decide (0≤a)&&decide (a<(h.cs.length:Nat)))=true from ha]
 refine ZV ?_
 refine ZH ?_
 refine Zab ?_
 refine ZT ?_
 refine Zi ?_
 refine Calls.mono (Qbg h.cs.length c A B h.tr.length d b _) ?_
 rintro _ w4 ⟨rfl,hb4⟩
 refine Za ?_
 replace hS:=hS.grow hb4
 cases hb:Qj h.cs b with
 |false=>
  have e0:QU h a b=(h,false,4):=by unfold QU;rw [if_neg (by rw [hg];decide),ha,hb,if_pos Yd]
  rw [e0,show (decide (0≤b)&&decide (b<(h.cs.length:Nat)))=false from hb]
  refine Zcw ?_
  refine Zdw ?_
  clear hS
  intro wx3 hS
  refine ZcP ?_
  exact ⟨A,c,B,d,F,rfl,fun _ h=>h,hH,hS.drop.drop⟩
 |true=>
 rw [show (decide (0≤b)&&decide (b<(h.cs.length:Nat)))=true from hb]
 have hpos:0<h.cs.length:=by
  obtain ⟨x,hx⟩:=Qch.1 ha
  have:=QcI hx;omega
 refine ZcD ?_
 refine ZW ?_
 refine Qci 9 (26::27::28::29::30::31::32::33::34::[]) (fun v w'=>∃ub g c' sp,v=QnV ub∧h.cs.length≤c'∧QgD M w0 ((b2,hob none 0 0 none 0 0)::(b1,hob A h.cs.length c B h.tr.length d)::H) F ub g c' sp ⟨h.cs,h.tr,0,false⟩ w') ?_ ?_
 ·intro hmeet
  refine QbU (St _ _ _ _) 10 (.read 0 (.read 1 (.read 3 (.read 4 (.pick 2 (.pick 5 (.read 6 (.read 7 (.pick 8 (.read 9 .tail) .none))) .none) .none))))) Yc Yc hS.drew ?_
  replace hS:=hS.drew
  refine Zcn ?_
  refine ZdZ ?_
  refine Zew ?_
  refine ZdZ ?_
  refine Zdo ?_
  refine Calls.mono (QjA h.cs A c _ hL Ya hS) ?_
  rintro _ w5 ⟨A3,c3,O3,rfl,hrow3,hS'⟩
  refine Za ?_
  replace hS:=hS'
  clear hS'
  refine Zfp ?_
  refine Zdo ?_
  refine Calls.mono (Qpy h.tr B d _ hT Ya hS) ?_
  rintro _ w6 ⟨B3,d3,O4,rfl,hrow4,hS'⟩
  refine Za ?_
  replace hS:=hS'
  clear hS'
  refine Zfp ?_
  refine ZbX ?_
  refine Qs rfl (fun _ hS=>QK (cells:=[_,_,_,_]) (.cons Yb .nil) rfl) rfl ?_
  refine Zaq ?_
  refine Zcj ?_
  clear hS
  intro b3 wx3 hS
  refine Zfp ?_
  refine ZbU ?_
  refine QaQ ?_
  refine Zb ?_
  exact hmeet _ _ _ (QvJ hrow3 hrow4 hpos (by first|exact hS|exact hS.perm (.cons _ (List.perm_append_comm_assoc _ _ _)))) Yb Yc
 clear hS
 rintro jv _ w5 ⟨ub,g,c5,sp,rfl,hc5,hs5⟩
 have hG:GU h.cs.length ⟨h.cs,h.tr,0,false⟩:=by
  refine ⟨rfl,?_,fun _=>by show (0:Nat)≤400;omega,by show h.tr.length≤65536+0;omega⟩
  unfold QE Q3 at hg
  simp only [Bool.and_eq_true] at hg
  exact hg.1.2
 have huu:=QkP 401 a b _ hG rfl
 have hun:=QnB h.cs.length 401 M w0 ((b2,hob none 0 0 none 0 0)::(b1,hob A h.cs.length c B h.tr.length d)::H) F ub g c5 sp a b ⟨h.cs,h.tr,0,false⟩
 have e0:QU h a b=if (Qcv 401 a b ⟨h.cs,h.tr,0,false⟩).2.lg=true∨(Qcv 401 a b ⟨h.cs,h.tr,0,false⟩).1=true∧65536<(Qcv 401 a b ⟨h.cs,h.tr,0,false⟩).2.tr.length then (h,false,3)
   else if (Qcv 401 a b ⟨h.cs,h.tr,0,false⟩).1=false then (h,false,0)
   else (⟨(Qcv 401 a b ⟨h.cs,h.tr,0,false⟩).2.cs,(Qcv 401 a b ⟨h.cs,h.tr,0,false⟩).2.tr⟩,true,0):=by
  unfold QU;rw [if_neg (by rw [hg];decide),ha,hb,if_neg Yg]
 rw [e0]
 refine Zdz ?_
 refine Calls.mono (hun _ hG rfl hl1 hc5 (by show 400≤0+401;omega) Ya hs5) ?_
 rintro _ w6 ⟨rfl,hs6⟩
 refine Za ?_
 have hgu:=huu.gu
 have hok:=huu.ok
 clear huu hun e0 hs5
 generalize Qcv 401 a b ⟨h.cs,h.tr,0,false⟩=r at*
 obtain ⟨ok,u⟩:=r
 dsimp only at*
 cases hlg:u.lg with
 |true=>
  rw [if_pos (.inl rfl)]
  obtain ⟨B6,d6,O6,hrow6,hS⟩:=hs6.lgS hlg
  replace hS:=hS.perm (.cons _ (.cons _ (List.perm_append_comm_assoc O6 [_,_] _)))
  refine ZB ?_
  refine Zci ?_
  refine Zan ?_
  refine ZcI ?_
  refine ZcI ?_
  refine ZcI ?_
  refine Zcl ?_
  refine Zak ?_
  refine Zdw ?_
  clear hS
  intro wx4 hS
  refine ZcP ?_
  exact ⟨A,c,B,d,F,rfl,fun _ h=>h,hH,St.dropL (L:=O6) hS.drop.drop.drop.drop⟩
 |false=>
  obtain ⟨B6,d6,O6,hrow6,hS⟩:=hs6.lgS hlg
  replace hS:=hS.perm (.cons _ (.cons _ (List.perm_append_comm_assoc O6 [_,_] _)))
  cases ok with
  |false=>
   rw [if_neg Yd,if_pos rfl]
   refine ZB ?_
   refine Zci ?_
   refine Zar ?_
   refine Z3 ?_
   refine Z4 ?_
   refine Zak ?_
   refine Zdl ?_
   refine Z0 ?_
   refine ZaQ ?_
   refine ZaW ?_
   refine Zee ?_
   clear hS
   intro wx4 hS
   refine ZcP ?_
   exact ⟨A,c,B,d,F,rfl,fun _ h=>h,hH,St.dropL (L:=O6) hS.drop.drop.drop.drop⟩
  |true=>
   by_cases htl:65536<u.tr.length
   ·rw [if_pos (.inr ⟨rfl,htl⟩)]
    refine ZB ?_
    refine Zci ?_
    refine Zar ?_
    refine ZcB ?_
    refine Zdy ?_
    refine Zeb ?_
    refine Zcc ?_
    refine Zdl ?_
    refine Zdw ?_
    clear hS
    intro wx4 hS
    refine ZcP ?_
    exact ⟨A,c,B,d,F,rfl,fun _ h=>h,hH,St.dropL (L:=O6) hS.drop.drop.drop.drop⟩
   ·rw [if_neg Yh,if_neg Yg]
    refine ZB ?_
    refine Zci ?_
    refine Zar ?_
    refine ZcB ?_
    refine Zdy ?_
    refine Zeb ?_
    refine Zcc ?_
    refine Zdl ?_
    refine Z0 ?_
    refine ZaQ ?_
    refine ZaA ?_
    refine Zas ?_
    refine Zee ?_
    clear hS
    intro wx4 hS
    refine ZcP ?_
    have hS2:=(hS.drop.perm (List.perm_append_comm_assoc [_] [_,_] _)).drop.drop
    have hS3:=St.freezeG hS2 (c:=c5) (by rw [hgu.len];exact hc5)
    have hS4:=St.freezeR hrow6 hS3
    exact ⟨_,c5,B6,d6,_,rfl,fun φ h=> .tail _ (.tail _ h),fun w' hw=>⟨hw _ (.tail _ (.head _)),hw _ (.head _)⟩,hS4⟩
end
end Go.Proofs.YthliapbflkfdiacGreatDoor
