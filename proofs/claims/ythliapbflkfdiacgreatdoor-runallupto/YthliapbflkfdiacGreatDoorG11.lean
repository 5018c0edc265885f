/- Steps of the proof. -/
import Derived.Test.YthliapbflkfdiacGreatDoorG10
import Derived.Lib.SliceRun
namespace Go.Proofs.YthliapbflkfdiacGreatDoor
open Go.RowKit
set_option linter.unusedVariables false
set_option linter.unusedSimpArgs false
inductive Rw (el sz:Nat):Value→Nat→List Value→List (Nat×Obj)→Prop
 |zero_ {A:Option Addr}:Rw el sz (.slice A 0 0) 0 [] []
 |own_ {b len cap:Nat} {xs sp:List Value} (hx:xs.length=len*sz) (hc:(xs++sp).length=cap*sz) (hle:len≤cap) (hcp:0<cap):Rw el sz (.slice (some ⟨b,0,none⟩) len cap) len xs [(b,.cells (xs++sp).toArray el)]
theorem Rw.len_ {el sz len:Nat} {v:Value} {xs:List Value} {O:List (Nat×Obj)} (h:Rw el sz v len xs O):xs.length=len*sz:=by
 cases h with
 |zero_=>simp
 |own_ hx _ _ _=>exact hx
theorem Rw.form {el sz len:Nat} {v:Value} {xs:List Value} {O:List (Nat×Obj)} (h:Rw el sz v len xs O):∃A c,v= .slice A len c∧len≤c:=by
 cases h with
 |zero_=>exact ⟨_,_,rfl,Nat.le_refl _⟩
 |own_ _ _ hle _=>exact ⟨_,_,rfl,hle⟩
theorem Rw.some_ {el sz len cap l2:Nat} {A:Option Addr} {xs:List Value} {O:List (Nat×Obj)} (h:Rw el sz (.slice A l2 cap) len xs O) (hl:0<len):∃g sp,A=some ⟨g,0,none⟩∧O=[(g,.cells (xs++sp).toArray el)]∧(xs++sp).length=cap*sz∧len≤cap∧l2=len:=by
 cases h with
 |zero_=>omega
 |own_ hx hc hle hcp=>exact ⟨_,_,rfl,rfl,hc,hle,rfl⟩
theorem Rw.flat {el sz len cap:Nat} {A:Option Addr} {xs:List Value} {O H:List (Nat×Obj)} {M:List Nat} {w0 w:World} {F:List (World→Prop)} (h:Rw el sz (.slice A len cap) len xs O) (hS:St M w0 (O++H) F w):Qz sz xs A len cap w:=by
 cases h with
 |zero_=>exact Qz.nil_ _ _ _
 |own_ hx hc hle hcp=>exact Qz.own (hS.own (_,_) (.head _)) hx hle
theorem Qz.src {P:Program} {sz len cap:Nat} {xs:List Value} {A:Option Addr} {w:World} {t el:TypeId} (h:Qz sz xs A len cap w) (hT:Qw P t=some el) (h1:xs.all (·.oneCell')=true):Src P sz t (.slice A len cap) len xs w:=by
 by_cases hl:0<len
 ·obtain ⟨b,o,rfl,hs⟩:=h.2.2 hl;exact Src.ofSlice w (QaD hT) ⟨b,o,none⟩ _ _ _ h.1 (fun j u hj=>by rw [Qan];exact hs j u hj) (fun u hu=>List.all_eq_true.1 h1 u hu)
 ·have hl0:len=0:=by omega
  subst hl0;obtain rfl:xs=[]:=List.eq_nil_of_length_eq_zero (by rw [h.1];simp)
  cases A with
  |none=>exact Src.ofNil w (QaD hT) _
  |some a=>exact Src.ofSlice w (QaD hT) a _ _ _ Yd (fun j u hj=>by simp at hj) (fun u hu=>by cases hu)
section
variable {P:Program} {n:Nat} {e:Env} {w:World} {Q:Exit→Act→World→Prop} {ops:Array Oper} {rest:List Oper} {ty:TypeId} {pos:String} {after:Array Edge} {d:Nat}
variable {M:List Nat} {w0:World} {H H':List (Nat×Obj)} {F:List (World→Prop)} {b:Nat} {x y:Operand} {v:Value} {t tx:TypeId} {dst:Option Nat}
theorem QiV {A:Option Addr} {l c el:Nat} {t2:TypeId} (hx:ev n e x= .slice A l c) (hy:ev n e y= .slice none 0 0) (hT:Qw P t=some el):
  (execOp (ev n e) ⟨dst,.binOp .eql t x y t2,ty,pos,after,none⟩).run P w= .ok (.value (.bool A.isNone)) w:=by
 have h:=Lib.run_eql_slice_nil w t el A l c 0 0 (QaD hT);simp only [execOp,hx,hy,bind,pure];rw [Sem.run_bind',Sem.run_bind'];rw [show (eqGuard .eql t x y (.slice A l c) (.slice none 0 0)).run P w= .ok () w from by cases A<;>simp [eqGuard,Sem.run,pure]];simp only [Result.andThen_ok];rw [h];rfl
theorem Qd6 {A:Option Addr} {len cap el sz:Nat} {i:Int} {j:Int} {z:Operand} (hx:ev n e x= .slice A len cap) (hy:ev n e y= .int .i64 i) (hz:ev n e z= .int .i64 j) (hT:Qw P t=some el) (hs:QaJ P el=some sz) (hi:i=(len:Nat)) (hj:j=(len:Nat)) (hl:len≤cap):
  (execOp (ev n e) ⟨dst,.slice t x none (some y) (some z),ty,pos,after,none⟩).run P w= .ok (.value (.slice A len len)) w:=by
 subst hi hj;have h2:=run_underlying (QaD hT) w;have h3:=Qah (w:=w) hs;simp only [execOp,Instr.sliceAt,Instr.slice,hx,hy,hz,Option.map_some,Option.map_none,bind,pure,Sem.bind];rw [Sem.run_bind',Sem.run_bind',h2];simp only [Result.andThen_ok];rw [Sem.run_bind',h2];simp only [Result.andThen_ok,Instr.sliceBounds,Option.isSome_some,if_true,bind,pure,Sem.bind];rw [Sem.run_bind',Sem.run_bind',QeJ rfl Ya Ya];simp only [Result.andThen_ok];rw [Sem.run_bind',QeJ rfl Ya Ya];simp only [Result.andThen_ok];rw [show∀(l:Nat),Sem.run P (Sem.pure (0,l,l)) w= .ok (0,l,l) w from fun _=>rfl];simp only [Result.andThen_ok];rw [Sem.run_bind',h3];simp [Sem.run,Addr.add]
theorem QhL {el sz bts k:Nat} {A:Option Addr} {ki:IntKind} (hS:St M w0 H F w) (hx:ev n e x= .slice A 0 0) (hy:ev n e y= .int .i64 (k:Nat)) (hT:Qw P t=some el) (hTx:P.underlying tx=some (.int ki)) (hi:Qpu P el=some (sz,bts)) (hsz:0<sz) (hk:0<k)
  (hfit:2*k*bts≤281474976710656) (hbig:k≤4611686018427387904) (hd:Nat.blt d n=true)
  (h:∀(b cap:Nat) (zs:List Value) w',k≤cap→zs.length=cap*sz→St M w0 ((b,.cells zs.toArray el)::H) F w'→Lst P Q ops rest n ((d,.slice (some ⟨b,0,none⟩) k cap)::e) w'):
  Lst P Q ops (⟨some d,.call ⟨.builtin .append, #[x,y], #[t,tx]⟩,ty,pos,after,none⟩::rest) n e w:=by
 obtain ⟨i,z,h2,h3,h4,rfl,rfl⟩:=QaG hi;have hn:=Go.Room.nextslicecap_le' (show 0<0+k by omega)
 have hcapn:0+k≤grownCap w (0+k) 0 el:=by unfold grownCap Question.cut;exact Nat.le_add_right _ _
 have h48:¬(281474976710656<Builtin.nextslicecap k 0*i.bytes):=by
  have:=Nat.le_trans (Nat.mul_le_mul_right i.bytes hn) (by rw [Nat.zero_add];exact hfit);rw [Nat.zero_add] at this;omega
 have h49:¬((281474976710656:Int)<(k:Int)*(i.bytes:Int)):=by
  have:k*i.bytes≤2*k*i.bytes:=Nat.mul_le_mul_right _ Ya;have h5:((k*i.bytes:Nat):Int)≤281474976710656:=by omega
  rw [Int.natCast_mul] at h5;omega
 have hw:IntKind.i64.wrap (k:Int)=k:=QiM Ya Ya;have h63:¬(9223372036854775807<(k:Int)):=by omega
 have hk0:¬k=0:=by omega
 have hr:∃zs:List Value,zs.length=grownCap w (0+k) 0 el*i.size∧(Builtin.append_ #[t,tx] ty #[.slice A 0 0,.int .i64 (k:Nat)]).run P w= .ok (.slice (some ⟨w.heap.size,0,none⟩) k (grownCap w (0+k) 0 el)) (w.drew.alloc (.cells zs.toArray el)):=by
  have hf:∀w,(Builtin.firstCells i.size 0 (.slice A 0 0)).run P w= .ok #[] w:=fun w=>by cases A<;>simp [Builtin.firstCells,Sem.run,pure,loadCells,loadCellsFrom]
  have hz0:¬((k:Int)<0):=by omega
  have hz1:¬(k≤0):=by omega
  rw [Nat.zero_add] at hcapn⊢;have hai:∀w,(asInt (.int .i64 (k:Nat))).run P w= .ok (k:Int) w:=fun w=>rfl;have hs1:¬i.size=0:=by omega
  refine ⟨(Builtin.zeroCells z.cells k++Builtin.zeroCells z.cells (grownCap w k 0 el-k)).toList,?_,?_⟩
  ·simp only [Array.length_toList,Array.size_append,Builtin.zeroCells,Array.size_map,Array.size_range,h4];rw [←Nat.add_mul];congr 1;omega
  ·simp [Builtin.append_,run_underlying (QaD hT),run_underlying hTx,sizeOf,typeInfo,zeroValue,h2,h3,hw,hai,hz0,h49,hz1,h63,h48,Question.forced,hf,newRow,grownCap,hk0,hs1];rw [if_neg (by intro h0;rcases Nat.mul_eq_zero.1 h0 with h|h<;>omega)];congr 3;apply Array.ext';simp
 obtain ⟨zs,hzs,hr⟩:=hr;refine Qa (v:= .slice (some ⟨w.heap.size,0,none⟩) k (grownCap w (0+k) 0 el)) (w':=w.drew.alloc (.cells zs.toArray el)) ?_ hd (h _ _ zs _ Ya hzs (hS.drew.alloc _));simp only [execOp,resolve,List.map_toArray,List.map_cons,List.map_nil,hx,hy,bind,pure,Sem.bind,invoke,builtin];rw [Sem.run_bind',hr];rfl
theorem QaR {el len k:Nat} {q:Value} {ys xs:List Value} {O:List (Nat×Obj)} {i:TypeInfo} {z:Value} (hS:St M w0 H F w) (hx:ev n e x=v) (hy:ev n e y=q)
  (hT:Qw P t=some el) (hTx:Qw P tx=some el) (hi:P.info? el=some i) (hz:i.zero=some z) (hzs:z.cells.size=i.size) (hys:ys.length=k*i.size) (hsrc:Src P i.size tx q k ys w) (hrow:Rw el i.size v len xs O) (hP:H.Perm (O++H')) (hfit:2*(len+k)*i.bytes≤281474976710656) (hbig:len+k≤4611686018427387904) (hd:Nat.blt d n=true)
  (h:∀v' O' w',Rw el i.size v' (len+k) (xs++ys) O'→St M w0 (O'++H') F w'→Lst P Q ops rest n ((d,v')::e) w'):
  Lst P Q ops (⟨some d,.call ⟨.builtin .append, #[x,y], #[t,tx]⟩,ty,pos,after,none⟩::rest) n e w:=by
 have hS:=hS.perm hP;have hlen:=hrow.len_
 have hop:∀r w2,(Builtin.append_ #[t,tx] ty #[v,q]).run P w= .ok r w2→(execOp (ev n e) ⟨some d,.call ⟨.builtin .append, #[x,y], #[t,tx]⟩,ty,pos,after,none⟩).run P w= .ok (.value r) w2:=by
  intro r w2 hr;simp only [execOp,resolve,List.map_toArray,List.map_cons,List.map_nil,hx,hy,bind,pure,Sem.bind,invoke,builtin];rw [Sem.run_bind',hr];rfl
 have grow:∀(A:Option Addr) (cap:Nat),v= .slice A len cap→cap<len+k→(Builtin.firstCells i.size len (.slice A len cap)).run P w.drew= .ok xs.toArray w.drew→Lst P Q ops (⟨some d,.call ⟨.builtin .append, #[x,y], #[t,tx]⟩,ty,pos,after,none⟩::rest) n e w:=by
  intro A cap hv hcap hold;have hn:=Go.Room.nextslicecap_le' hcap;have hr:=run_append_grow_src (P:=P) w t tx ty el i z (QaD hT) hi hz A len cap xs hold (q) k ys hsrc hcap Ya (Nat.le_trans (Nat.mul_le_mul_right _ hn) hfit);rw [←hv] at hr;refine Zdb ?_
  have hcapn:len+k≤grownCap w (len+k) cap el:=by unfold grownCap Question.cut;exact Nat.le_add_right _ _
  generalize grownCap w (len+k) cap el=nc at hcapn;have hzc:(Builtin.zeroCells z.cells (nc-(len+k)))=(Builtin.zeroCells z.cells (nc-(len+k))).toList.toArray:=by simp
  have hzl:(Builtin.zeroCells z.cells (nc-(len+k))).toList.length=(nc-(len+k))*i.size:=by simp [Builtin.zeroCells,hzs]
  generalize (Builtin.zeroCells z.cells (nc-(len+k))).toList=zl at hzc hzl;rw [hzc]
  have hS2:=(hS.drew.alloc (.cells ((xs++ys)++zl).toArray el))
  rw [show (xs++ys).toArray++zl.toArray=((xs++ys)++zl).toArray by simp];refine h _ [(w.heap.size,.cells ((xs++ys)++zl).toArray el)] _ (Rw.own_ ?_ ?_ hcapn Ya) ?_
  ·rw [List.length_append,hlen,hys,Nat.add_mul]
  ·rw [List.length_append,List.length_append,hlen,hys,hzl,←Nat.add_mul,←Nat.add_mul];congr 1;omega
  ·have h5:St M w0 ((w.heap.size,.cells ((xs++ys)++zl).toArray el)::(O++H')) F _:=hS2;exact St.dropL (L:=O) h5.sink
 cases hrow with
 |zero_=>
  rename_i A0;by_cases hk0:k=0
  ·subst hk0;have hye:ys=[]:=List.eq_nil_of_length_eq_zero (by simpa using hys);subst hye
   have hr:(Builtin.append_ #[t,tx] ty #[.slice A0 0 0,q]).run P w= .ok (.slice A0 0 0) w:=by
    have hu:=run_underlying (QaD hT) w;have hu2:=run_underlying (QaD hTx) w;have hs1:=hsrc.len;have hs2:=hsrc.cells;have hs0:(Builtin.lenOf (.slice A0 0 0)).run P w= .ok 0 w:=rfl;cases A0<;>simp [Builtin.append_,hu,hu2,sizeOf,typeInfo,hi,hs0,hs1,hs2,storeCells]
   refine Qa (hop _ _ hr) hd (h _ [] _ Rw.zero_ hS)
  ·exact grow A0 0 rfl Ya (by cases A0<;>simp [Builtin.firstCells,Sem.run,pure,loadCells,loadCellsFrom])
 |own_ hx2 hc2 hle hcp=>
  rename_i bl cap sp;have hbl:w.heap[bl]?=some (.cells (xs++sp).toArray el):=hS.own (bl,_) Yd;by_cases hroom:len+k≤cap
  ·have hcc:(xs++sp).length=cap*i.size:=hc2
   have hfitc:len*i.size+ys.length≤(xs++sp).length:=by rw [hcc,hys,←Nat.add_mul];exact Nat.mul_le_mul_right _ hroom
   have hr:=run_append_room_src (P:=P) w t tx ty el i (QaD hT) hi bl 0 len cap (q) k ys hsrc hroom
    (fun j hj=>by rw [Qv hbl,Nat.zero_add];simp only [Option.isSome_iff_exists];exact ⟨_,List.getElem?_eq_getElem Ya⟩) (fun j hj=>by simp [World.frozen?,hbl])
   obtain ⟨hs1,hs2⟩:=Qcn ys (0+len*i.size) (xs++sp) w hbl Ya;refine Zdb ?_
   have hu:Upd ([(bl,Obj.cells (xs++sp).toArray el)]++H') bl (.cells (xs++sp).toArray el) (.cells ((xs++sp).take (0+len*i.size)++ys++(xs++sp).drop (0+len*i.size+ys.length)).toArray el)
     ((bl,.cells ((xs++sp).take (0+len*i.size)++ys++(xs++sp).drop (0+len*i.size+ys.length)).toArray el)::H'):= .head
   have h3:=hS.turn hu hs2 hs1
   have e1:(xs++sp).take (0+len*i.size)=xs:=by rw [Nat.zero_add,←hx2];simp
   have e2:(xs++sp).drop (0+len*i.size+ys.length)=sp.drop ys.length:=by
    rw [Nat.zero_add,←hx2];simp [List.drop_append]
   rw [e1,e2] at h3;refine h _ _ _ (Rw.own_ (b:=bl) (sp:=sp.drop ys.length) ?_ ?_ hroom hcp) h3
   ·rw [List.length_append,hx2,hys,Nat.add_mul]
   ·simp only [List.length_append,List.length_drop] at hcc hfitc⊢;omega
  ·refine grow _ cap rfl Ya ?_;have:=run_firstCells_some (P:=P) w.drew i.size len ⟨bl,0,none⟩ len cap xs hx2 (fun j u hj=> ?_)
   ·exact this
   ·have hjl:j<xs.length:=by
     rcases Nat.lt_or_ge j xs.length with hl|hl
     ·exact hl
     ·rw [List.getElem?_eq_none hl] at hj;cases hj
    rw [Qan,Qv (w:=w.drew) hbl,Nat.zero_add,List.getElem?_append_left hjl];exact hj
theorem Qdu {el sz:Nat} (hS:St M w0 H F w) (hT:Qw P t=some el) (hs:QaJ P el=some sz) (hd:Nat.blt d n=true)
  (hk:∀b w',St M w0 ((b,.cells [].toArray el)::H) F w'→Lst P Q ops rest n ((d,.slice (some ⟨b,0,none⟩) 0 0)::e) w'):
  Lst P Q ops (⟨some d,.buildSlice t 0 #[],ty,pos,after,none⟩::rest) n e w:=by
 refine Qa (v:= .slice (some ⟨w.heap.size,0,none⟩) 0 0) (w':=w.alloc (.cells [].toArray el)) ?_ hd (hk _ _ (hS.alloc _));have h1:=run_underlying (QaD hT) w;have h2:=Qah (w:=w) hs;simp only [execOp,Instr.buildSlice,bind,pure,Array.map_empty];rw [Sem.run_bind',Sem.run_bind',h1];simp only [Result.andThen_ok];rw [Sem.run_bind',h2];have hr0:∀g:Nat→Value,Array.map g (Array.range 0)= #[]:=fun g=>by simp
 simp only [Result.andThen_ok,Nat.zero_mul,if_neg (show¬(0:Nat)>2^24 by omega),if_true,hr0];rfl
theorem QcU {el:TypeId} {A:Option Addr} {l c:Nat} {ts:Array TypeId} (hx:ev n e x= .slice A l c) (ht:ts[0]?=some t) (hT:Qw P t=some el):
  (execOp (ev n e) ⟨dst,.call ⟨.builtin .cap, #[x],ts⟩,ty,pos,after,none⟩).run P w= .ok (.value (.int .i64 c)) w:=by
 have h1:=run_underlying (QaD hT) w;simp only [execOp,resolve,List.map_toArray,List.map_cons,List.map_nil,hx,bind,pure,Sem.bind,invoke,builtin,Builtin.cap_,ht,List.getElem?_toArray,List.getElem?_cons_zero]
 first
  |rfl
  |(rw [Sem.run_bind',Sem.run_bind',h1];rfl)
end
theorem QcM {P:Program} {n:Nat} {e:Env} {w:World} {M:List Nat} {w0:World} {H:List (Nat×Obj)} {F:List (World→Prop)} {b:Nat} {t:TypeId} {f:FuncId} {R:Ending→World→Prop} {k:List Item} {fn:Func} {a u sz:Nat} {o:Nat} {cs vs:List Value} {ct:TypeId} {v2:Value} (hS:St M w0 H F w) (hf:P.funcs[f]?=some fn) (hr:fn.results= #[.cell a t,.tmp u]) (hv:ev n e (.tmp a)= .pointer (some ⟨b,o,none⟩))
  (h2:ev n e (.tmp u)=v2) (hA:Qeq P t=some true) (hs:QaJ P t=some sz) (hb:At H b (.cells cs.toArray ct)) (hc:Cut cs o sz vs) (hR:R (.returned (.tuple #[.agg vs.toArray,v2])) w):Qal P f R (.code .ret::k) (act n e) w:=by
 unfold Qal;intro fr cs' hb' hk;refine ⟨.returned (.tuple #[.agg vs.toArray,v2]),w,{ fr.at (act n e) (.code .ret::k) with mode:= .returning },hR,Steps.one step_ret,hb',rfl,rfl,hk,fn,?_,?_⟩
 ·show P.funcs[fr.fn]?=some fn;rw [hb'];exact hf
 ·show (results fn (arr n e)).run P w=_;have h1:=Qb6 (w:=w) hA;have h4:=Qah (w:=w) hs
  have h5:=run_loadCells_list (P:=P) (w:=w) ⟨b,o,none⟩ vs (fun j v hj=>by
   rw [Qan,Qv (hS.at_ hb)]
   have hjk:j<sz:=by
    rcases Nat.lt_or_ge j sz with h|h
    ·exact h
    ·rw [List.getElem?_eq_none Yaz] at hj;cases hj
   rw [hc.get j hjk];exact hj)
  rw [hc.length] at h5
  have hv':(arr n e).getD a undef= .pointer (some ⟨b,o,none⟩):=by rw [Qay];exact hv
  have hu':(arr n e).getD u undef=v2:=by rw [Qay];exact h2
  simp only [Array.getD_eq_getD_getElem?] at hv' hu';simp only [results,hr];simp [hv',hu',asAddr,loadVar,h1,h4,h5]
theorem Qoo {P:Program} {n:Nat} {e:Env} {w:World} {M:List Nat} {w0:World} {H:List (Nat×Obj)} {F:List (World→Prop)} {b:Nat} {t:TypeId} {f:FuncId} {R:Ending→World→Prop} {k:List Item} {fn:Func} {a u x y z sz:Nat} {o:Nat} {cs vs:List Value} {ct:TypeId} {v2 v3 v4 v5:Value} (hS:St M w0 H F w) (hf:P.funcs[f]?=some fn) (hr:fn.results= #[.cell a t,.tmp u,.tmp x,.tmp y,.tmp z]) (hv:ev n e (.tmp a)= .pointer (some ⟨b,o,none⟩))
  (h2:ev n e (.tmp u)=v2) (h3:ev n e (.tmp x)=v3) (hy4:ev n e (.tmp y)=v4) (hz5:ev n e (.tmp z)=v5) (hA:Qeq P t=some true) (hs:QaJ P t=some sz) (hb:At H b (.cells cs.toArray ct)) (hc:Cut cs o sz vs) (hR:R (.returned (.tuple #[.agg vs.toArray,v2,v3,v4,v5])) w):Qal P f R (.code .ret::k) (act n e) w:=by
 unfold Qal;intro fr cs' hb' hk;refine ⟨.returned (.tuple #[.agg vs.toArray,v2,v3,v4,v5]),w,{ fr.at (act n e) (.code .ret::k) with mode:= .returning },hR,Steps.one step_ret,hb',rfl,rfl,hk,fn,?_,?_⟩
 ·show P.funcs[fr.fn]?=some fn;rw [hb'];exact hf
 ·show (results fn (arr n e)).run P w=_;have h1:=Qb6 (w:=w) hA;have h4:=Qah (w:=w) hs
  have h5:=run_loadCells_list (P:=P) (w:=w) ⟨b,o,none⟩ vs (fun j v hj=>by
   rw [Qan,Qv (hS.at_ hb)]
   have hjk:j<sz:=by
    rcases Nat.lt_or_ge j sz with h|h
    ·exact h
    ·rw [List.getElem?_eq_none Yaz] at hj;cases hj
   rw [hc.get j hjk];exact hj)
  rw [hc.length] at h5
  have hv':(arr n e).getD a undef= .pointer (some ⟨b,o,none⟩):=by rw [Qay];exact hv
  have hu':(arr n e).getD u undef=v2:=by rw [Qay];exact h2
  have hx':(arr n e).getD x undef=v3:=by rw [Qay];exact h3
  have hy':(arr n e).getD y undef=v4:=by rw [Qay];exact hy4
  have hz':(arr n e).getD z undef=v5:=by rw [Qay];exact hz5
  simp only [Array.getD_eq_getD_getElem?] at hv' hu' hx' hy' hz';simp only [results,hr];simp [hv',hu',hx',hy',hz',asAddr,loadVar,h1,h4,h5]
theorem St.freezeR {M:List Nat} {w0 w:World} {H O:List (Nat×Obj)} {F:List (World→Prop)} {el sz len cap:Nat} {A:Option Addr} {xs:List Value} (hr:Rw el sz (.slice A len cap) len xs O) (hS:St M w0 (O++H) F w):St M w0 H (Qz sz xs A len cap::F) w:=by
 cases hr with
 |zero_=>exact hS.learn fun w' _=>Qz.nil_ _ _ _
 |own_ hx hc hle hcp=>
  rename_i b sp;have hS':St M w0 ((b,Obj.cells (xs++sp).toArray el)::H) F w:=hS;have ho:=hS'.own (b,_) (.head _);refine hS'.drop.learn fun w' hw=>Qz.own (sp:=sp) (el:=el) ?_ hx hle;rw [hw.block b (Qd8 ho) fun hm=> ?_]
  ·exact ho
  ·obtain ⟨p,hp,e⟩:=List.mem_map.1 hm;exact (List.pairwise_cons.1 hS'.apart).1 p hp e.symm
section
variable {M:List Nat} {w0:World} {H:List (Nat×Obj)} {F:List (World→Prop)}
theorem ArA.all {A:Option Addr} {c:Nat} {T:TA} {w:World} (h:ArA A c T w):Qli T w:=by
 by_cases hl:0<T.len
 ·obtain ⟨b,o,e,hs⟩:=h.2 hl;exact hs.cells.1
 ·cases T with
  |nil=>trivial
  |cons=>simp [TA.len] at hl
theorem St.freezeT {w:World} {O:List (Nat×Obj)} {el c:Nat} {A:Option Addr} {D:TA} (hr:Rw el 4 (.slice A D.len c) D.len (QfK D) O) (hA:Und F (Qli D)) (hS:St M w0 (O++H) F w):
  ∃F',(∀φ∈F,φ∈F')∧Und F' (ArA A c D)∧St M w0 H F' w:=by
 have hS2:=St.freezeR hr hS;refine ⟨_,fun φ h=> .tail _ h,fun w' hw=> ?_,hS2⟩;have hf:=hw _ (.head _);have ha:=hA w' fun φ hφ=>hw φ (.tail _ hφ);refine ⟨hf.2.1,fun hl=> ?_⟩;obtain ⟨b,o,e,hc⟩:=hf.2.2 hl;exact ⟨b,o,e,Qlz ha fun j u hj=>hc j u hj⟩
end
section
variable {P:Program} {n:Nat} {e:Env} {w:World} {ty:TypeId} {pos:String} {after:Array Edge} {dst:Option Nat} {x y:Operand} {t t2:TypeId}
theorem QiU {a c m:Int} {ts:Array TypeId} (hx:ev n e x= .int .i64 a) (hy:ev n e y= .int .i64 c) (hm:m=if a<c then c else a):
  (execOp (ev n e) ⟨dst,.call ⟨.builtin .max, #[x,y],ts⟩,ty,pos,after,none⟩).run P w= .ok (.value (.int .i64 m)) w:=by
 subst hm;simp only [execOp,resolve,List.map_toArray,List.map_cons,List.map_nil,hx,hy,bind,pure,Sem.bind,invoke,builtin,Builtin.max_,List.foldlM,Builtin.max2];by_cases h:a<c
 ·rw [if_pos h];simp [h,Sem.run,Sem.bind];try rfl
 ·rw [if_neg h];simp [h,Sem.run,Sem.bind];try rfl
theorem Qf7 {a c m:Int} {ts:Array TypeId} (hx:ev n e x= .int .i64 a) (hy:ev n e y= .int .i64 c) (hm:m=if c<a then c else a):
  (execOp (ev n e) ⟨dst,.call ⟨.builtin .min, #[x,y],ts⟩,ty,pos,after,none⟩).run P w= .ok (.value (.int .i64 m)) w:=by
 subst hm;simp only [execOp,resolve,List.map_toArray,List.map_cons,List.map_nil,hx,hy,bind,pure,Sem.bind,invoke,builtin,Builtin.min_,List.foldlM,Builtin.min2];by_cases h:c<a
 ·rw [if_pos h];simp [h,Sem.run,Sem.bind];try rfl
 ·rw [if_neg h];simp [h,Sem.run,Sem.bind];try rfl
theorem Qrh {a c:Int} (hx:ev n e x= .int .i64 a) (hy:ev n e y= .int .i64 c) (h0:0<c) (ha:0≤a):
  (execOp (ev n e) ⟨dst,.binOp .rem t x y t2,ty,pos,after,none⟩).run P w= .ok (.value (.int .i64 (a%c))) w:=by
 have h1:¬c=0:=by omega
 have h2:Op.intDiv .rem .i64 a c=pure (.int .i64 (a.tmod c)):=by unfold Op.intDiv;rw [if_neg h1]
 have h3:(execOp (ev n e) ⟨dst,.binOp .rem t x y t2,ty,pos,after,none⟩).run P w=((Op.intDiv .rem .i64 a c).bind fun r=>pure (.value r)).run P w:=by simp only [execOp,hx,hy];rfl
 rw [h3,h2,Int.tmod_eq_emod_of_nonneg ha];rfl
end
end Go.Proofs.YthliapbflkfdiacGreatDoor
