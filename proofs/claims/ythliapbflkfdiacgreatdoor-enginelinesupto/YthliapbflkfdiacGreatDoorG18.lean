/- RefW5, RefW6, RefW7, MinMax, RefP1, RefP2: texts that follow one another, laid into one file. -/
import Derived.Test.YthliapbflkfdiacGreatDoorZ0
import Derived.Test.YthliapbflkfdiacGreatDoorG17
import Derived.Test.YthliapbflkfdiacGreatDoorG6
import Derived.Test.YthliapbflkfdiacGreatDoorG0
import Derived.Test.YthliapbflkfdiacGreatDoorG5
import Derived.Lib.ItoaLen
import Derived.Lib.ItoaMem
import Derived.Ground.NamesProg
import Derived.Shelf.Strings.OnBuilder
namespace Go.Proofs.YthliapbflkfdiacGreatDoor
open Go.RowKit Go.Shelf
set_option linter.unusedVariables false
set_option linter.unusedSimpArgs false
set_option maxRecDepth 100000
set_option maxHeartbeats 1000000
def QvO (f:PS→Nd×PS):Prop:=∀p,(f p).1.ar.nodes+(f p).2.l.length≤p.l.length
theorem Qgo {f:PS→Nd×PS} (hf:QvO f):∀(n:Nat) (p:PS),(Qby (QO f n p).1).nodes+(QO f n p).2.l.length≤p.l.length
 |0,p=>by simp [QO,Qby,Ts.nodes]
 |n+1,p=>by
  unfold QO
  split
  ·rename_i h
   have h1:=(QhX h.2).1
   have h2:=hf p.pop
   have h3:=Qgo hf n (f p.pop).2
   simp only [Qby,Ts.nodes]
   omega
  ·simp [Qby,Ts.nodes]
theorem Qfa {f:PS→Nd×PS} (hf:QvO f) (t:Str) (p:PS):(Qby (Qag f t p).1).nodes+(Qag f t p).2.l.length≤p.l.length+1:=by
 have h1:=Qgo hf (f p).2.l.length (f p).2
 have h2:=hf p
 have h3:=Qkp (QO f (f p).2.l.length (f p).2).2 t
 simp only [Qag,Qby,Ts.nodes]
 omega
theorem Qgl:∀d,QvO (QN d)
 |0,p=>by simp [QN,Nd.zero,Ts.nodes,PS.spoil]
 |d+1,p=>by
  unfold QN
  split
  ·simp [Nd.zero,Ts.nodes,PS.spoil]
  ·simp [Nd.zero,Ts.nodes,PS.spoil]
  ·rename_i c r q hl
   have h1:p.pop.l.length+1=p.l.length:=by simp [PS.pop,hl]
   split
   ·simp only [Ts.nodes];omega
   split
   ·simp only [Ts.nodes];rw [(Qqy _ _).1];omega
   split
   ·simp only [Ts.nodes];omega
   split
   ·simp [Nd.zero,Ts.nodes,PS.spoil]
   split
   ·rename_i hp
    have h2:=Qfa (Qgl d) [41] p.pop.pop
    have h3:=(QhX hp).1
    simp only;omega
   ·simp only [Ts.nodes];omega
theorem QfI:∀(n:Nat) (l:Str),(Qb4 n l).length≤l.length
 |0,l=>by simp [Qb4]
 |n+1,[]=>by simp [Qb4]
 |n+1,c::r=>by
  unfold Qb4
  split
  ·have:=QfI n r;simp;omega
  split
  ·simp
  ·rename_i h
   have:=QfI n ((c::r).drop (Qav (c::r)))
   rw [List.length_drop] at this
   simp at this⊢;omega
theorem QpU (l:Str):(Qcx l).length≤l.length:=QfI _ _
section
variable {M:List Nat} {w0:World} {H:List (Nat×Obj)} {F:List (World→Prop)}
end
section
variable {M:List Nat} {w0:World} {H:List (Nat×Obj)} {F:List (World→Prop)}
end
section
variable {P:Program} {n:Nat} {e:Env} {w:World} {ty:TypeId} {pos:String} {after:Array Edge} {dst:Option Nat} {x y:Operand} {t t2:TypeId}
theorem QsH {a c m:Int} {ts:Array TypeId} (hx:ev n e x= .int .i64 a) (hy:ev n e y= .int .i64 c) (hm:m=if a<c then c else a):
  (execOp (ev n e) ⟨dst,.call ⟨.builtin .max, #[x,y],ts⟩,ty,pos,after,none⟩).run P w= .ok (.value (.int .i64 m)) w:=by
 subst hm
 simp only [execOp,resolve,List.map_toArray,List.map_cons,List.map_nil,hx,hy,bind,pure,Sem.bind,invoke,builtin,Builtin.max_,List.foldlM,Builtin.max2]
 by_cases h:a<c
 ·rw [if_pos h];simp [h,Sem.run,Sem.bind];try rfl
 ·rw [if_neg h];simp [h,Sem.run,Sem.bind];try rfl
theorem QjQ {a c m:Int} {ts:Array TypeId} (hx:ev n e x= .int .i64 a) (hy:ev n e y= .int .i64 c) (hm:m=if c<a then c else a):
  (execOp (ev n e) ⟨dst,.call ⟨.builtin .min, #[x,y],ts⟩,ty,pos,after,none⟩).run P w= .ok (.value (.int .i64 m)) w:=by
 subst hm
 simp only [execOp,resolve,List.map_toArray,List.map_cons,List.map_nil,hx,hy,bind,pure,Sem.bind,invoke,builtin,Builtin.min_,List.foldlM,Builtin.min2]
 by_cases h:c<a
 ·rw [if_pos h];simp [h,Sem.run,Sem.bind];try rfl
 ·rw [if_neg h];simp [h,Sem.run,Sem.bind];try rfl
theorem QnS {a c:Int} (hx:ev n e x= .int .i64 a) (hy:ev n e y= .int .i64 c) (h0:0<c) (ha:0≤a):
  (execOp (ev n e) ⟨dst,.binOp .rem t x y t2,ty,pos,after,none⟩).run P w= .ok (.value (.int .i64 (a%c))) w:=by
 have h1:¬c=0:=by omega
 have h2:Op.intDiv .rem .i64 a c=pure (.int .i64 (a.tmod c)):=by unfold Op.intDiv;rw [if_neg h1]
 have h3:(execOp (ev n e) ⟨dst,.binOp .rem t x y t2,ty,pos,after,none⟩).run P w=((Op.intDiv .rem .i64 a c).bind fun r=>pure (.value r)).run P w:=by simp only [execOp,hx,hy];rfl
 rw [h3,h2,Int.tmod_eq_emod_of_nonneg ha];rfl
end
section
variable {P:Program} {n:Nat} {e:Env} {w:World} {ty:TypeId} {pos:String} {after:Array Edge} {dst:Option Nat} {x y:Operand} {t t2:TypeId}
theorem Quq {a:Int} (hx:ev n e x= .int .i64 a) (h1: -9223372036854775808≤-a) (h2: -a≤9223372036854775807):
  (execOp (ev n e) ⟨dst,.unOp .neg t x,ty,pos,after,none⟩).run P w= .ok (.value (.int .i64 (-a))) w:=by
 have:(execOp (ev n e) ⟨dst,.unOp .neg t x,ty,pos,after,none⟩).run P w= .ok (.value (.int .i64 (IntKind.i64.wrap (0-a)))) w:=by simp only [execOp,hx];rfl
 rw [this,Int.zero_sub,Qex h1 h2]
theorem Qk1 {a:Int} (hx:ev n e x= .int .i64 a) (hy:ev n e y= .int .i64 10) (h1: -9223372036854775808≤a) (h2:a≤9223372036854775807):
  (execOp (ev n e) ⟨dst,.binOp .quo t x y t2,ty,pos,after,none⟩).run P w= .ok (.value (.int .i64 (a.tdiv 10))) w:=by
 have:(execOp (ev n e) ⟨dst,.binOp .quo t x y t2,ty,pos,after,none⟩).run P w= .ok (.value (.int .i64 (IntKind.i64.wrap (a.tdiv 10)))) w:=by simp only [execOp,hx,hy];rfl
 have h3: -9223372036854775808≤a.tdiv 10∧a.tdiv 10≤9223372036854775807:=by
  by_cases h:a<0
  ·obtain ⟨k,rfl⟩:∃k:Nat,a= -(k:Int):=⟨a.natAbs,by omega⟩
   rw [Int.neg_tdiv,Int.tdiv_eq_ediv_of_nonneg Ya];omega
  ·rw [Int.tdiv_eq_ediv_of_nonneg Ya];omega
 rw [this,Qex h3.1 h3.2]
theorem Qk0 {a:Int} (hx:ev n e x= .int .i64 a) (hy:ev n e y= .int .i64 10):
  (execOp (ev n e) ⟨dst,.binOp .rem t x y t2,ty,pos,after,none⟩).run P w= .ok (.value (.int .i64 (a.tmod 10))) w:=by simp only [execOp,hx,hy];rfl
end
theorem Qpt (m:Nat) (h:m<10):(([48,49,50,51,52,53,54,55,56,57]:Str).take (((m:Nat):Int)+1).toNat).drop ((m:Nat):Int).toNat=[UInt8.ofNat (48+m)]:=by
 have hh:∀i:Fin 10,(([48,49,50,51,52,53,54,55,56,57]:Str).take (((i.val:Nat):Int)+1).toNat).drop ((i.val:Nat):Int).toNat=[UInt8.ofNat (48+i.val)]:=by decide+kernel
 exact hh ⟨m,h⟩
theorem Qdd (n:Int) (h0: -10<n) (h1:n<10) (w:World):Calls Tryz.prog 37 #[.int .i64 n] w fun e w'=>e= .returned (sv (Lib.itoa n))∧w'=w:=by
 have hS:=St.start w
 obtain ⟨m,hm⟩:∃m:Nat,(m:Int)=if n< -n then -n else n:=⟨n.natAbs,by split<;>omega⟩
 have hm10:m<10:=by split at hm<;>omega
 have hd:=Qpt m hm10
 have hit:Lib.itoa n=if n<0 then 45::[UInt8.ofNat (48+m)] else [UInt8.ofNat (48+m)]:=by
  unfold Lib.itoa
  by_cases h:n<0
  ·rw [if_pos h,if_pos h,show n.natAbs=m by split at hm<;>omega,Lib.decDigits_one hm10]
  ·rw [if_neg h,if_neg h,show n.toNat=m by split at hm<;>omega,Lib.decDigits_one hm10]
 refine Qe Tryz.func37 rfl Tryz.ntmps37 rfl ?_
 refine ZQ ?_
 refine ZF ?_
 refine Zar ?_
 refine Zq ?_
 refine Z0 ?_
 refine Zb ?_
 by_cases hn:n<0
 ·rw [if_pos hn] at hit
  rw [hit]
  refine Zy ?_
  refine Zv ?_
  refine Zdk ?_
  refine ZE ?_
  refine Zdk ?_
  refine Zz ?_
  refine Zff ?_
  refine ZbB ?_
  refine Zb ?_
  rw [hd]
  refine Zy ?_
  refine Zl ?_
  refine Zeq ?_
  refine Zc ?_
  refine Zer ?_
  exact ⟨rfl,rfl⟩
 ·rw [if_neg hn] at hit
  rw [hit]
  refine Zy ?_
  refine Zv ?_
  refine Zdk ?_
  refine ZE ?_
  refine Zdk ?_
  refine Zz ?_
  refine Zff ?_
  refine ZbB ?_
  refine Zb ?_
  rw [hd]
  refine Zb1 ?_
  refine ZX ?_
  refine Zer ?_
  exact ⟨rfl,rfl⟩
theorem Qrn (n:Int) (h:n≤-10∨10≤n):Lib.itoa n=Lib.itoa (n.tdiv 10)++Lib.itoa (if n.tmod 10< -(n.tmod 10) then -(n.tmod 10) else n.tmod 10):=by
 rcases h with h|h
 ·obtain ⟨k,rfl⟩:∃k:Nat,n= -(k:Int):=⟨n.natAbs,by omega⟩
  have hk:10≤k:=by omega
  have e1:(-(k:Int)).tdiv 10= -((k/10:Nat):Int):=by rw [Int.neg_tdiv,Int.tdiv_eq_ediv_of_nonneg Ya];simp
  have e2:(-(k:Int)).tmod 10= -((k%10:Nat):Int):=by rw [Int.neg_tmod,Int.tmod_eq_emod_of_nonneg Ya];simp
  rw [e1,e2]
  have e3:(if -((k%10:Nat):Int)< - -((k%10:Nat):Int) then- -((k%10:Nat):Int) else -((k%10:Nat):Int))=((k%10:Nat):Int):=by split<;>omega
  rw [e3,Lib.itoa_neg k Ya,Lib.itoa_neg (k/10) Ya,Lib.itoa_nonneg,Lib.decDigits,dif_neg Ya,Lib.decDigits_one (Nat.mod_lt _ Ya)]
  simp
 ·obtain ⟨k,rfl⟩:∃k:Nat,n=(k:Int):=⟨n.natAbs,by omega⟩
  have e1:(k:Int).tdiv 10=((k/10:Nat):Int):=by rw [Int.tdiv_eq_ediv_of_nonneg Ya];simp
  have e2:(k:Int).tmod 10=((k%10:Nat):Int):=by rw [Int.tmod_eq_emod_of_nonneg Ya];simp
  rw [e1,e2]
  have e3:(if ((k%10:Nat):Int)< -((k%10:Nat):Int) then -((k%10:Nat):Int) else ((k%10:Nat):Int))=((k%10:Nat):Int):=by split<;>omega
  rw [e3,Lib.itoa_nonneg,Lib.itoa_nonneg,Lib.itoa_nonneg,Lib.decDigits,dif_neg Ya,Lib.decDigits_one (Nat.mod_lt _ Ya)]
theorem Qia:∀(m:Nat) (n:Int),n.natAbs≤m→-9223372036854775808≤n→n≤9223372036854775807→∀w:World,Calls Tryz.prog 37 #[.int .i64 n] w fun e w'=>e= .returned (sv (Lib.itoa n))∧w'=w:=by
 intro m
 induction m with
 |zero=>intro n hm _ _ w;exact Qdd n Ya Ya w
 |succ m ih=>
  intro n hm h0 h1 w
  by_cases hs: -10<n∧n<10
  ·exact Qdd n hs.1 hs.2 w
  have hs':n≤-10∨10≤n:=by omega
  have hst:=Qrn n hs'
  have hq:(n.tdiv 10).natAbs≤m∧-9223372036854775808≤n.tdiv 10∧n.tdiv 10≤9223372036854775807:=by
   rcases hs' with h|h
   ·obtain ⟨k,rfl⟩:∃k:Nat,n= -(k:Int):=⟨n.natAbs,by omega⟩
    rw [show (-(k:Int)).tdiv 10= -((k/10:Nat):Int) by rw [Int.neg_tdiv,Int.tdiv_eq_ediv_of_nonneg Ya];simp];omega
   ·rw [Int.tdiv_eq_ediv_of_nonneg Ya];omega
  have hd: -10<n.tmod 10∧n.tmod 10<10:=by
   have h3:=Int.emod_lt_of_pos n (show (0:Int)<10 by omega)
   have h4:=Int.emod_nonneg n (show (10:Int)≠0 by omega)
   rw [Int.tmod_eq_emod]
   split<;>omega
  have hl1:=Lib.itoa_length_le (n.tdiv 10) hq.2.1 hq.2.2
  generalize hdm:(if n.tmod 10< -(n.tmod 10) then -(n.tmod 10) else n.tmod 10)=dm at hst
  have hdm': -10<dm∧dm<10:=by rw [←hdm];split<;>omega
  have hl2:=Lib.itoa_length_le dm Ya Ya
  have hi1:=ih (n.tdiv 10) hq.1 hq.2.1 hq.2.2
  have hi2:=Qdd dm hdm'.1 hdm'.2
  have hdm2:=hdm.symm
  rw [hst]
  generalize Lib.itoa (n.tdiv 10)=L1 at hl1 hi1
  generalize Lib.itoa dm=L2 at hl2 hi2
  have hS:=St.start w
  refine Qe Tryz.func37 rfl Tryz.ntmps37 rfl ?_
  by_cases hn:n<0
  ·refine ZQ ?_
   refine ZF ?_
   refine Zan ?_
   refine Zag ?_
   refine Zl ?_
   refine ZfW ?_
   refine ZY ?_
   refine Qa (Qk1 rfl rfl Ya Ya) rfl ?_
   refine Zj ?_
   refine Calls.mono (hi1 _) ?_
   rintro _ w1 ⟨rfl,rfl⟩
   refine Za ?_
   refine ZE ?_
   refine Zdk ?_
   refine Zj ?_
   refine Calls.mono (hi2 _) ?_
   rintro _ w2 ⟨rfl,rfl⟩
   refine Za ?_
   refine Zeq ?_
   refine Zc ?_
   refine Zer ?_
   exact ⟨rfl,rfl⟩
  ·refine ZQ ?_
   refine ZF ?_
   refine Zar ?_
   refine Zq ?_
   refine Zag ?_
   refine Zl ?_
   refine ZfW ?_
   refine ZY ?_
   refine Qa (Qk1 rfl rfl Ya Ya) rfl ?_
   refine Zj ?_
   refine Calls.mono (hi1 _) ?_
   rintro _ w1 ⟨rfl,rfl⟩
   refine Za ?_
   refine ZE ?_
   refine Zdk ?_
   refine Zj ?_
   refine Calls.mono (hi2 _) ?_
   rintro _ w2 ⟨rfl,rfl⟩
   refine Za ?_
   refine Zeq ?_
   refine Zc ?_
   refine Zer ?_
   exact ⟨rfl,rfl⟩
end Go.Proofs.YthliapbflkfdiacGreatDoor
namespace Go.Proofs
open Go.Shelf
def Tryz.lays156_ren:Go.Shelf.Ren:=⟨fun|156=>39|165=>70|166=>66|169=>69|240=>107|241=>111|276=>164|277=>167|n=>n,fun|31=>37|9=>9|3=>3|4=>4|0=>0|20=>20|72=>118|76=>122|70=>115|37=>116|75=>120|127=>167|164=>223|5=>5|80=>124|n=>n,fun|n=>n⟩
theorem Tryz.lays156:Go.Proofs.Lays.n156 Tryz.prog Tryz.lays156_ren:={
 mixed:=by kernel_rfl
 f156:=Tryz.func39.trans (congrArg some (by kernel_rfl))
 f165:=Tryz.func70.trans (congrArg some (by kernel_rfl))
 f166:=Tryz.func66.trans (congrArg some (by kernel_rfl))
 f169:=Tryz.func69.trans (congrArg some (by kernel_rfl))
 f240:=Tryz.func107.trans (congrArg some (by kernel_rfl))
 f241:=Tryz.func111.trans (congrArg some (by kernel_rfl))
 f276:=Tryz.func164.trans (congrArg some (by kernel_rfl))
 f277:=Tryz.func167.trans (congrArg some (by kernel_rfl))
 t0:=Tryz.underlying0
 a0:=Tryz.isAgg0
 z0:=Tryz.sizeOf0
 v0:=Tryz.zeroValue0
 t3:=Tryz.underlying3
 a3:=Tryz.isAgg3
 z3:=Tryz.sizeOf3
 v3:=Tryz.zeroValue3
 t4:=Tryz.underlying4
 a4:=Tryz.isAgg4
 z4:=Tryz.sizeOf4
 v4:=Tryz.zeroValue4
 t9:=Tryz.underlying9
 a9:=Tryz.isAgg9
 z9:=Tryz.sizeOf9
 v9:=Tryz.zeroValue9
 t20:=Tryz.underlying20
 a20:=Tryz.isAgg20
 z20:=Tryz.sizeOf20
 v20:=Tryz.zeroValue20
 t31:=Tryz.underlying37
 a31:=Tryz.isAgg37
 z31:=Tryz.sizeOf37
 v31:=Tryz.zeroValue37
 t37:=Tryz.underlying116
 a37:=Tryz.isAgg116
 z37:=Tryz.sizeOf116
 v37:=Tryz.zeroValue116
 t70:=Tryz.underlying115
 a70:=Tryz.isAgg115
 z70:=Tryz.sizeOf115
 v70:=Tryz.zeroValue115
 t72:=Tryz.underlying118
 a72:=Tryz.isAgg118
 z72:=Tryz.sizeOf118
 v72:=Tryz.zeroValue118
 t75:=Tryz.underlying120
 a75:=Tryz.isAgg120
 z75:=Tryz.sizeOf120
 v75:=Tryz.zeroValue120
 t76:=Tryz.underlying122
 a76:=Tryz.isAgg122
 z76:=Tryz.sizeOf122
 v76:=Tryz.zeroValue122
 t127:=Tryz.underlying167
 a127:=Tryz.isAgg167
 z127:=Tryz.sizeOf167
 v127:=Tryz.zeroValue167
 t164:=Tryz.underlying223
 a164:=Tryz.isAgg223
 z164:=Tryz.sizeOf223
 v164:=Tryz.zeroValue223 }
end Go.Proofs
namespace Go.Proofs.YthliapbflkfdiacGreatDoor
open Go.RowKit Go.Shelf
set_option linter.unusedVariables false
set_option maxRecDepth 100000
set_option maxHeartbeats 1000000
theorem Qjm:Builder.Extra Tryz.prog Tryz.lays156_ren where
 sizeBuilder:=by kernel_rfl
 liesBuilder:=by kernel_rfl
 t5:=Tryz.underlying5
 a5:=Tryz.isAgg5
 z5:=Tryz.sizeOf5
 v5:=Tryz.zeroValue5
 infoByte:=by kernel_rfl
 cellsByte:=by kernel_rfl
 sizeByte:=by kernel_rfl
 neB5:=by decide
theorem Qoe {M:List Nat} {w0 w:World} {H O:List (Nat×Obj)} {F:List (World→Prop)} {el:Nat} {A:Option Addr} {c:Nat} (xs:List Str) (hx:0<xs.length) (hrow:Row el 1 (.slice A xs.length c) xs.length (xs.map sv) O) (hn:xs.length≤1048576) (hl:(Lib.join xs [44]).length≤1073741824) (hS:St M w0 (O++H) F w):
  Calls Tryz.prog 39 #[.slice A xs.length c,sv [44]] w fun e w'=>e= .returned (sv (Lib.join xs [44]))∧Below w.heap.size w w':=by
 have hcap:=hrow.cap
 obtain ⟨g,sp,rfl,rfl,_⟩:=hrow.some_ hx
 have hb:=hS.own _ (List.mem_cons_self ..)
 have e1:(xs.map fun l=>(⟨l.toArray⟩:ByteArray)).map (·.data.toList)=xs:=by
  rw [List.map_map];exact List.map_id xs
 have e2:(⟨#[44]⟩:ByteArray).data.toList=[44]:=rfl
 have h:=Any.strings_Join Tryz.lays156 Qjm g 0 c (xs.map fun l=>(⟨l.toArray⟩:ByteArray)) ⟨#[44]⟩ w (fun j x hj=> ?_) (Qcn hb) (by simpa using (by omega:xs.length≤140737488355328)) (by simpa using hcap) (by rw [e1,e2];omega)
 ·rw [e1,e2,List.length_map] at h
  exact h
 ·rw [Qt hb,Nat.zero_add]
  rw [List.getElem?_map] at hj
  cases hxj:xs[j]? with
  |none=>rw [hxj] at hj;cases hj
  |some l=>
   rw [hxj] at hj
   simp only [Option.map_some,Option.some.injEq] at hj
   subst hj
   rw [List.getElem?_append_left (by have:=List.getElem?_eq_some_iff.1 hxj;simp;exact this.1),List.getElem?_map,hxj]
   rfl
def ptM (k n:Int) (s:Str) (a:Ts):Str:=Qah k n s++if QbO k a then 40::(QcP false a++[41]) else []
def QbN:Ts→List Str
 | .nil=>[]
 | .cons k n s a r=>ptM k n s.data.toList a::QbN r
theorem Qlh (T:Ts):(QbN T).length=T.length:=by
 induction T with
 |nil=>rfl
 |cons k n s a r _ ih=>simp only [QbN,List.length_cons,Ts.length,ih]
theorem Qli (T U:Ts):QbN (T.app U)=QbN T++QbN U:=by
 induction T with
 |nil=>rfl
 |cons k n s a r _ ih=>simp only [Ts.app,QbN,ih,List.cons_append]
theorem Qo8 (T:Ts):Lib.joinTail [44] (QbN T)=QcP true T:=by
 induction T with
 |nil=>rfl
 |cons k n s a r _ ih=>
  have:Lib.joinTail [44] (QbN (.cons k n s a r))=[44]++ptM k n s.data.toList a++Lib.joinTail [44] (QbN r):=by simp [Lib.joinTail,QbN]
  rw [this,ih]
  simp [QcP,ptM]
theorem Qjb (T:Ts):Lib.join (QbN T) [44]=QcP false T:=by
 cases T with
 |nil=>rfl
 |cons k n s a r=>
  rw [QbN,Lib.join_cons,Qo8]
  simp [QcP,ptM]
theorem QqE {D r:Ts} {k n:Int} {s:ByteArray} {a:Ts} (c:Bool):(ptM k n s.data.toList a).length≤(QcP c (D.app (.cons k n s a r))).length:=by
 induction D generalizing c with
 |nil=>simp [Ts.app,QcP,ptM];omega
 |cons k' n' s' a' r' _ ih=>
  have:=ih true
  simp only [Ts.app,QcP,List.length_append]
  omega
end Go.Proofs.YthliapbflkfdiacGreatDoor
