/- Steps of the proof. -/
import Derived.Test.YthliapbflkfdiacGreatDoorG0
import Derived.Deep.AppendSrc
import Derived.Room.Entries
import Derived.Maps.AppendAt
import Derived.Maps.OwnOps
import Derived.Test.YthliapbflkfdiacGreatDoorRows
import Derived.Shelf.Strings.SlTrimAscii
import Derived.StillTailTactics
namespace Go.Proofs.YthliapbflkfdiacGreatDoor
open Go.RowKit
set_option linter.unusedSimpArgs false
set_option linter.unusedVariables false
inductive Row (el sz:Nat):Value→Nat→List Value→List (Nat×Obj)→Prop
 |nil_:Row el sz (.slice none 0 0) 0 [] []
 |own_ {b len cap:Nat} {xs sp:List Value} (hx:xs.length=len*sz) (hc:(xs++sp).length=cap*sz) (hle:len≤cap) (hcp:0<cap):Row el sz (.slice (some ⟨b,0,none⟩) len cap) len xs [(b,.cells (xs++sp).toArray el)]
theorem Row.len_ {el sz len:Nat} {v:Value} {xs:List Value} {O:List (Nat×Obj)} (h:Row el sz v len xs O):xs.length=len*sz:=by
 cases h with
 |nil_=>simp
 |own_ hx _ _ _=>exact hx
theorem Row.form {el sz len:Nat} {v:Value} {xs:List Value} {O:List (Nat×Obj)} (h:Row el sz v len xs O):∃A c,v= .slice A len c:=by
 cases h with
 |nil_=>exact ⟨_,_,rfl⟩
 |own_ _ _ _ _=>exact ⟨_,_,rfl⟩
section
variable {M:List Nat} {w0 w w':World} {H H':List (Nat×Obj)} {F:List (World→Prop)}
theorem St.perm (h:St M w0 H F w) (hp:H.Perm H'):St M w0 H' F w:=
 ⟨fun p hq=>h.own p (hp.mem_iff.2 hq),(hp.pairwise_iff (fun {x y} hxy=>Ne.symm hxy)).1 h.apart,h.ext,fun p hq=>h.new p (hp.mem_iff.2 hq),
  fun φ hφ w2 hw=>h.facts φ hφ w2 (hw.mono fun k _ hk=>(hp.map _).mem_iff.2 hk)⟩
theorem St.sink {x:Nat×Obj} {L:List (Nat×Obj)} (h:St M w0 (x::(L++H)) F w):St M w0 (L++x::H) F w:=h.perm List.perm_middle.symm
theorem St.raise {x:Nat×Obj} {L:List (Nat×Obj)} (h:St M w0 (L++x::H) F w):St M w0 (x::(L++H)) F w:=h.perm List.perm_middle
theorem St.swap {x p:Nat×Obj} (h:St M w0 (x::p::H) F w):St M w0 (p::x::H) F w:=h.perm (List.Perm.swap _ _ _)
theorem St.dropL {L:List (Nat×Obj)} (h:St M w0 (L++H) F w):St M w0 H F w:=by
 induction L with
 |nil=>exact h
 |cons x L ih=>exact ih h.drop
end
theorem Qcn {b:Nat} {ct:TypeId}:∀(vs:List Value) (o:Nat) (cs:List Value) (w:World),w.heap[b]?=some (.cells cs.toArray ct)→o+vs.length≤cs.length→
  (w.setCells b o vs).heap[b]?=some (.cells (cs.take o++vs++cs.drop (o+vs.length)).toArray ct)∧Ext [b] w (w.setCells b o vs)
 |[],o,cs,w,h,hl=>by simp [World.setCells,h];exact Ext.refl _ _
 |v::r,o,cs,w,h,hl=>by
  simp only [List.length_cons] at hl;have h1:=QgG h o v;obtain ⟨h2,h3⟩:=Qcn r (o+1) (cs.set o v) _ h1 Yh;refine ⟨?_,(QgH b o v).trans h3⟩;unfold World.setCells;rw [h2];congr 3;have ho:o<cs.length:=by omega
  rw [List.take_set,List.drop_set,if_pos Ya]
  have:(cs.take (o+1)).set o v=cs.take o++[v]:=by
   rw [List.take_succ_eq_append_getElem ho,List.set_append_right _ _ Yh];simp [List.length_take,Nat.min_eq_left (Nat.le_of_lt ho)]
  rw [this,show o+1+r.length=o+(v::r).length by simp;omega];simp
section
variable {P:Program} {n:Nat} {e:Env} {w:World} {Q:Exit→Act→World→Prop} {ops:Array Oper} {rest:List Oper} {ty:TypeId} {pos:String} {after:Array Edge} {d:Nat}
variable {M:List Nat} {w0:World} {H H':List (Nat×Obj)} {F:List (World→Prop)} {b:Nat} {x y:Operand} {v:Value} {t tx:TypeId}
theorem Qoj {el len k c':Nat} {xs ys:List Value} {O:List (Nat×Obj)} {i:TypeInfo} {z:Value} {sp':List Value} (hS:St M w0 H F w) (hx:ev n e x=v) (hy:ev n e y= .slice (some ⟨b,0,none⟩) k c')
  (hT:Qw P t=some el) (hTx:Qw P tx=some el) (hi:P.info? el=some i) (hz:i.zero=some z) (hzs:z.cells.size=i.size) (hrow:Row el i.size v len xs O) (hys:ys.length=k*i.size) (h1:ys.all (·.oneCell')=true)
  (hP:H.Perm ((b,.cells (ys++sp').toArray el)::(O++H'))) (hfit:2*(len+k)*i.bytes≤281474976710656) (hbig:len+k≤4611686018427387904) (hd:Nat.blt d n=true)
  (h:∀v' O' w',Row el i.size v' (len+k) (xs++ys) O'→St M w0 (O'++H') F w'→Lst P Q ops rest n ((d,v')::e) w'):
  Lst P Q ops (⟨some d,.call ⟨.builtin .append, #[x,y], #[t,tx]⟩,ty,pos,after,none⟩::rest) n e w:=by
 have hS:=hS.perm hP;have hb:=hS.own _ (List.mem_cons_self ..);have hlen:=hrow.len_
 have hsrc:∀w'',(∀p∈((b,Obj.cells (ys++sp').toArray el)::(O++H')),w''.heap[p.1]?=some p.2)→Src P i.size tx (.slice (some ⟨b,0,none⟩) k c') k ys w'':=fun w'' ho=>by
  refine Src.ofSlice w'' (QaD hTx) ⟨b,0,none⟩ k c' ys hys (fun j u hj=> ?_) (fun u hu=>List.all_eq_true.1 h1 u hu)
  have hjl:j<ys.length:=by
   rcases Nat.lt_or_ge j ys.length with hl|hl
   ·exact hl
   ·rw [List.getElem?_eq_none hl] at hj;cases hj
  rw [Qan,Qv (ho _ (List.mem_cons_self ..)),Nat.zero_add,List.getElem?_append_left hjl];exact hj
 have hop:∀r w2,(Builtin.append_ #[t,tx] ty #[v,.slice (some ⟨b,0,none⟩) k c']).run P w= .ok r w2→(execOp (ev n e) ⟨some d,.call ⟨.builtin .append, #[x,y], #[t,tx]⟩,ty,pos,after,none⟩).run P w= .ok (.value r) w2:=by
  intro r w2 hr;simp only [execOp,resolve,List.map_toArray,List.map_cons,List.map_nil,hx,hy,bind,pure,Sem.bind,invoke,builtin];rw [Sem.run_bind',hr];rfl
 have grow:∀(A:Option Addr) (cap:Nat),v= .slice A len cap→cap<len+k→(Builtin.firstCells i.size len (.slice A len cap)).run P w.drew= .ok xs.toArray w.drew→Lst P Q ops (⟨some d,.call ⟨.builtin .append, #[x,y], #[t,tx]⟩,ty,pos,after,none⟩::rest) n e w:=by
  intro A cap hv hcap hold;have hn:=Go.Room.nextslicecap_le' hcap;have hr:=run_append_grow_src (P:=P) w t tx ty el i z (QaD hT) hi hz A len cap xs hold (.slice (some ⟨b,0,none⟩) k c') k ys (hsrc w hS.own) hcap Ya (Nat.le_trans (Nat.mul_le_mul_right _ hn) hfit);rw [←hv] at hr;refine Zdb ?_
  have hcapn:len+k≤grownCap w (len+k) cap el:=by unfold grownCap Question.cut;exact Nat.le_add_right _ _
  generalize grownCap w (len+k) cap el=nc at hcapn;have hzc:(Builtin.zeroCells z.cells (nc-(len+k)))=(Builtin.zeroCells z.cells (nc-(len+k))).toList.toArray:=by simp
  have hzl:(Builtin.zeroCells z.cells (nc-(len+k))).toList.length=(nc-(len+k))*i.size:=by simp [Builtin.zeroCells,hzs]
  generalize (Builtin.zeroCells z.cells (nc-(len+k))).toList=zl at hzc hzl;rw [hzc]
  have hS2:=(hS.drew.alloc (.cells ((xs++ys)++zl).toArray el))
  rw [show (xs++ys).toArray++zl.toArray=((xs++ys)++zl).toArray by simp];refine h _ [(w.heap.size,.cells ((xs++ys)++zl).toArray el)] _ (Row.own_ ?_ ?_ hcapn Ya) ?_
  ·rw [List.length_append,hlen,hys,Nat.add_mul]
  ·rw [List.length_append,List.length_append,hlen,hys,hzl,←Nat.add_mul,←Nat.add_mul];congr 1;omega
  ·have h3:St M w0 ((w.heap.size,.cells ((xs++ys)++zl).toArray el)::(b,Obj.cells (ys++sp').toArray el)::(O++H')) F _:=hS2;have h4:=h3.perm (List.Perm.swap _ _ _);have h5:=h4.drop;exact St.dropL (L:=O) h5.sink
 cases hrow with
 |nil_=>
  by_cases hk:k=0
  ·subst hk;obtain rfl:ys=[]:=List.eq_nil_of_length_eq_zero (by simpa using hys)
   have hr:(Builtin.append_ #[t,tx] ty #[.slice none 0 0,.slice (some ⟨b,0,none⟩) 0 c']).run P w= .ok (.slice none 0 0) w:=by
    have hu:=run_underlying (QaD hT) w;have hu2:=run_underlying (QaD hTx) w;have hs2:=(hsrc w hS.own).cells;simp [Builtin.append_,hu,hu2,sizeOf,typeInfo,hi,Builtin.lenOf,hs2]
   refine Qa (hop _ _ hr) hd (h _ [] _ Row.nil_ hS.drop)
  ·exact grow none 0 rfl Ya (by simp [Builtin.firstCells,Sem.run,pure])
 |own_ hx2 hc2 hle hcp=>
  rename_i bl cap sp;have hbl:w.heap[bl]?=some (.cells (xs++sp).toArray el):=hS.own (bl,_) Yd;by_cases hroom:len+k≤cap
  ·have hcc:(xs++sp).length=cap*i.size:=hc2
   have hfitc:len*i.size+ys.length≤(xs++sp).length:=by rw [hcc,hys,←Nat.add_mul];exact Nat.mul_le_mul_right _ hroom
   have hr:=run_append_room_src (P:=P) w t tx ty el i (QaD hT) hi bl 0 len cap (.slice (some ⟨b,0,none⟩) k c') k ys (hsrc w hS.own) hroom
    (fun j hj=>by rw [Qv hbl,Nat.zero_add];simp only [Option.isSome_iff_exists];exact ⟨_,List.getElem?_eq_getElem Ya⟩) (fun j hj=>by simp [World.frozen?,hbl])
   obtain ⟨hs1,hs2⟩:=Qcn ys (0+len*i.size) (xs++sp) w hbl Ya;refine Zdb ?_
   have hu:Upd ((b,Obj.cells (ys++sp').toArray el)::([(bl,Obj.cells (xs++sp).toArray el)]++H')) bl (.cells (xs++sp).toArray el) (.cells ((xs++sp).take (0+len*i.size)++ys++(xs++sp).drop (0+len*i.size+ys.length)).toArray el)
     ((b,Obj.cells (ys++sp').toArray el)::(bl,.cells ((xs++sp).take (0+len*i.size)++ys++(xs++sp).drop (0+len*i.size+ys.length)).toArray el)::H'):= .tail .head
   have h3:=(hS.turn hu hs2 hs1).drop
   have e1:(xs++sp).take (0+len*i.size)=xs:=by rw [Nat.zero_add,←hx2];simp
   have e2:(xs++sp).drop (0+len*i.size+ys.length)=sp.drop ys.length:=by
    rw [Nat.zero_add,←hx2];simp [List.drop_append]
   rw [e1,e2] at h3;refine h _ _ _ (Row.own_ (b:=bl) (sp:=sp.drop ys.length) ?_ ?_ hroom hcp) h3
   ·rw [List.length_append,hx2,hys,Nat.add_mul]
   ·simp only [List.length_append,List.length_drop] at hcc hfitc⊢;omega
  ·refine grow _ cap rfl Ya ?_;have:=run_firstCells_some (P:=P) w.drew i.size len ⟨bl,0,none⟩ len cap xs hx2 (fun j u hj=> ?_)
   ·exact this
   ·have hjl:j<xs.length:=by
     rcases Nat.lt_or_ge j xs.length with hl|hl
     ·exact hl
     ·rw [List.getElem?_eq_none hl] at hj;cases hj
    rw [Qan,Qv (w:=w.drew) hbl,Nat.zero_add,List.getElem?_append_left hjl];exact hj
def Qpu (P:Program) (el:TypeId):Option (Nat×Nat):=match P.info? el with
 |some i=>match i.zero with
  |some z=>bif Nat.beq z.cells.toList.length i.size then some (i.size,i.bytes) else none
  |none=>none
 |none=>none
theorem QaG {el sz bts:Nat} (h:Qpu P el=some (sz,bts)):∃i z,P.info? el=some i∧i.zero=some z∧z.cells.size=i.size∧i.size=sz∧i.bytes=bts:=by
 unfold Qpu at h;split at h
 ·rename_i i hi;split at h
  ·rename_i z hz
   cases hb:Nat.beq z.cells.toList.length i.size with
   |false=>rw [hb] at h;cases h
   |true=>
    rw [hb] at h;simp only [cond_true,Option.some.injEq,Prod.mk.injEq] at h;exact ⟨i,z,hi,hz,by simpa using Nat.eq_of_beq_eq_true hb,h.1,h.2⟩
  ·cases h
 ·cases h
theorem Qb9 {el len k c' sz bts:Nat} {xs ys:List Value} {O:List (Nat×Obj)} (hS:St M w0 H F w) (hx:ev n e x=v) (hy:ev n e y= .slice (some ⟨b,0,none⟩) k c')
  (hT:Qw P t=some el) (hTx:Qw P tx=some el) (hi:Qpu P el=some (sz,bts)) (hrow:Row el sz v len xs O) (hys:ys.length=k*sz) (h1:ys.all (·.oneCell')=true)
  (hP:H.Perm ((b,.cells ys.toArray el)::(O++H'))) (hfit:2*(len+k)*bts≤281474976710656) (hbig:len+k≤4611686018427387904) (hd:Nat.blt d n=true)
  (h:∀v' O' w',Row el sz v' (len+k) (xs++ys) O'→St M w0 (O'++H') F w'→Lst P Q ops rest n ((d,v')::e) w'):
  Lst P Q ops (⟨some d,.call ⟨.builtin .append, #[x,y], #[t,tx]⟩,ty,pos,after,none⟩::rest) n e w:=by
 obtain ⟨i,z,h2,h3,h4,rfl,rfl⟩:=QaG hi;exact Qoj (sp':=[]) hS hx hy hT hTx h2 h3 h4 hrow hys h1 (by simpa using hP) hfit hbig hd h
theorem QdB {f:FuncId} {R:Ending→World→Prop} {k:List Item} {fn:Func} {a sz:Nat} {o:Nat} {cs vs:List Value} {ct:TypeId} (hS:St M w0 H F w) (hf:P.funcs[f]?=some fn) (hr:fn.results= #[.cell a t]) (hv:ev n e (.tmp a)= .pointer (some ⟨b,o,none⟩))
  (hA:Qeq P t=some true) (hs:QaJ P t=some sz) (hb:At H b (.cells cs.toArray ct)) (hc:Cut cs o sz vs) (hR:R (.returned (.agg vs.toArray)) w):Qal P f R (.code .ret::k) (act n e) w:=by
 unfold Qal;intro fr cs' hb' hk;refine ⟨.returned (.agg vs.toArray),w,{ fr.at (act n e) (.code .ret::k) with mode:= .returning },hR,Steps.one step_ret,hb',rfl,rfl,hk,fn,?_,?_⟩
 ·show P.funcs[fr.fn]?=some fn;rw [hb'];exact hf
 ·show (results fn (arr n e)).run P w=_;have h1:=Qb6 (w:=w) hA;have h2:=Qah (w:=w) hs
  have h3:=run_loadCells_list (P:=P) (w:=w) ⟨b,o,none⟩ vs (fun j v hj=>by
   rw [Qan,Qv (hS.at_ hb)]
   have hjk:j<sz:=by
    rcases Nat.lt_or_ge j sz with h|h
    ·exact h
    ·rw [List.getElem?_eq_none Yaz] at hj;cases hj
   rw [hc.get j hjk];exact hj)
  rw [hc.length] at h3
  have hv':(arr n e).getD a undef= .pointer (some ⟨b,o,none⟩):=by rw [Qay];exact hv
  simp only [Array.getD_eq_getD_getElem?] at hv';simp only [results,hr];simp [hv',asAddr,loadVar,h1,h2,h3]
end
section
variable {P:Program} {n:Nat} {e:Env} {w:World} {ty:TypeId} {pos:String} {after:Array Edge} {x y z:Operand} {dst:Option Nat} {t:TypeId}
theorem QP {i:Int} {A:Option Addr} {len cap el sz:Nat} (hx:ev n e x= .slice A len cap) (hy:ev n e y= .int .i64 i) (hT:Qw P t=some el) (hs:QaJ P el=some sz) (h0:0≤i) (h1:i≤cap):
  (execOp (ev n e) ⟨dst,.slice t x none (some y) none,ty,pos,after,none⟩).run P w= .ok (.value (.slice A i.toNat cap)) w:=by
 have h2:=run_underlying (QaD hT) w;have h3:=Qah (w:=w) hs;simp only [execOp,Instr.sliceAt,Instr.slice,hx,hy,Option.map_some,Option.map_none,bind,pure,Sem.bind];rw [Sem.run_bind',Sem.run_bind',h2];simp only [Result.andThen_ok];rw [Sem.run_bind',h2];simp only [Result.andThen_ok,Instr.sliceBounds,Option.isSome_none,Bool.false_eq_true,if_false,bind,pure,Sem.bind];rw [Sem.run_bind',Sem.run_bind',QeJ rfl h0 h1];simp only [Result.andThen_ok];rw [show Sem.run P (Sem.pure (0,i.toNat,cap)) w= .ok (0,i.toNat,cap) w from rfl];simp only [Result.andThen_ok];rw [Sem.run_bind',h3];simp [Sem.run,Addr.add]
theorem Qbz {i:Int} {A:Option Addr} {len cap el sz:Nat} (hx:ev n e x= .slice A len cap) (hy:ev n e y= .int .i64 i) (hT:Qw P t=some el) (hs:QaJ P el=some sz) (h0:0≤i) (h1:i≤len):
  (execOp (ev n e) ⟨dst,.slice t x (some y) none none,ty,pos,after,none⟩).run P w= .ok (.value (.slice (if cap=i.toNat then A else A.map (·.add (i.toNat*sz))) (len-i.toNat) (cap-i.toNat))) w:=by
 have h2:=run_underlying (QaD hT) w;have h3:=Qah (w:=w) hs;simp only [execOp,Instr.sliceAt,Instr.slice,hx,hy,Option.map_some,Option.map_none,bind,pure,Sem.bind];rw [Sem.run_bind',Sem.run_bind',h2];simp only [Result.andThen_ok];rw [Sem.run_bind',h2];simp only [Result.andThen_ok,Instr.sliceBounds,Option.isSome_none,Bool.false_eq_true,if_false,bind,pure,Sem.bind];rw [Sem.run_bind',Sem.run_bind',QeJ rfl h0 h1];simp only [Result.andThen_ok];rw [show Sem.run P (Sem.pure (i.toNat,len,cap)) w= .ok (i.toNat,len,cap) w from rfl];simp only [Result.andThen_ok];rw [Sem.run_bind',h3];simp [Sem.run]
theorem Qdn {i:Int} {b o len cap el sz:Nat} (hx:ev n e x= .slice (some ⟨b,o,none⟩) len cap) (hy:ev n e y= .int .i64 i) (hT:Qw P t=some el) (hs:QaJ P el=some sz) (h0:0≤i) (h1:i≤len) (h2:i<cap):
  (execOp (ev n e) ⟨dst,.slice t x (some y) none none,ty,pos,after,none⟩).run P w= .ok (.value (.slice (some ⟨b,o+i.toNat*sz,none⟩) (len-i.toNat) (cap-i.toNat))) w:=by
 rw [Qbz hx hy hT hs h0 h1,if_neg Ya,Option.map_some,Qan]
end
theorem Row.cut {el sz len cap m:Nat} {A:Option Addr} {xs:List Value} {O:List (Nat×Obj)} (h:Row el sz (.slice A len cap) len xs O) (hm:m≤len):Row el sz (.slice A m cap) m (xs.take (m*sz)) O:=by
 have hx:=h.len_;generalize hv:Value.slice A len cap=v at h
 cases h with
 |nil_=>
  simp only [Value.slice.injEq] at hv;obtain ⟨rfl,_,rfl⟩:=hv;obtain rfl:m=0:=by omega
  simpa using Row.nil_
 |own_ hx2 hc hle hcp=>
  rename_i b cap' sp;simp only [Value.slice.injEq] at hv;obtain ⟨rfl,_,rfl⟩:=hv;have e:xs++sp=xs.take (m*sz)++(xs.drop (m*sz)++sp):=by rw [←List.append_assoc,List.take_append_drop]
  have hml:m*sz≤xs.length:=by rw [hx];exact Nat.mul_le_mul_right _ hm
  have hr:=Row.own_ (el:=el) (sz:=sz) (b:=b) (len:=m) (cap:=cap) (xs:=xs.take (m*sz)) (sp:=xs.drop (m*sz)++sp) Yh (by rw [←e];exact hc) Ya hcp;rw [←e] at hr;exact hr
theorem Row.cap {el sz len cap:Nat} {A:Option Addr} {l2:Nat} {xs:List Value} {O:List (Nat×Obj)} (h:Row el sz (.slice A l2 cap) len xs O):len≤cap:=by
 generalize hv:Value.slice A l2 cap=v at h
 cases h with
 |nil_=>omega
 |own_ _ _ hle _=>simp only [Value.slice.injEq] at hv;obtain ⟨_,_,rfl⟩:=hv;exact hle
theorem Row.some_ {el sz len cap l2:Nat} {A:Option Addr} {xs:List Value} {O:List (Nat×Obj)} (h:Row el sz (.slice A l2 cap) len xs O) (hl:0<len):∃g sp,A=some ⟨g,0,none⟩∧O=[(g,.cells (xs++sp).toArray el)]∧(xs++sp).length=cap*sz:=by
 generalize hv:Value.slice A l2 cap=v at h
 cases h with
 |nil_=>omega
 |own_ _ hc _ _=>simp only [Value.slice.injEq] at hv;obtain ⟨h1,_,rfl⟩:=hv;exact ⟨_,_,h1,rfl,hc⟩
def Und (F:List (World→Prop)) (ψ:World→Prop):Prop:=∀w,(∀φ∈F,φ w)→ψ w
theorem Und.mono {F F':List (World→Prop)} {ψ:World→Prop} (h:Und F ψ) (hs:∀φ∈F,φ∈F'):Und F' ψ:=fun w hw=>h w fun φ hφ=>hw φ (hs φ hφ)
theorem Und.tail {F:List (World→Prop)} {φ ψ:World→Prop} (h:Und F ψ):Und (φ::F) ψ:=h.mono fun _ h=>List.mem_cons_of_mem _ h
theorem Und.imp {F:List (World→Prop)} {φ ψ:World→Prop} (h:Und F φ) (g:∀w,φ w→ψ w):Und F ψ:=fun w hw=>g w (h w hw)
theorem Und.head {F:List (World→Prop)} {φ:World→Prop}:Und (φ::F) φ:=fun w hw=>hw φ (.head _)
section
variable {M:List Nat} {w0 w w':World} {H:List (Nat×Obj)} {F:List (World→Prop)}
theorem St.und (h:St M w0 H F w) {ψ:World→Prop} (hψ:Und F ψ):ψ w:=hψ w fun φ hφ=>h.fact hφ
theorem St.bareL {L:List (Nat×Obj)} (h:St M w0 (L++H) F w):St M w0 L [] w:=by
 refine ⟨fun p hp=>h.own p (List.mem_append_left _ hp),(List.pairwise_append.1 h.apart).1,h.ext,fun p hp=>h.new p (List.mem_append_left _ hp),fun φ hφ=>by cases hφ⟩
theorem St.bare1 {x:Nat×Obj} (h:St M w0 (x::H) F w):St M w0 [x] [] w:=St.bareL (L:=[x]) h
theorem St.bare2 {x y:Nat×Obj} (h:St M w0 (x::y::H) F w):St M w0 [x,y] [] w:=St.bareL (L:=[x,y]) h
theorem St.bare3 {x y z:Nat×Obj} (h:St M w0 (x::y::z::H) F w):St M w0 [x,y,z] [] w:=St.bareL (L:=[x,y,z]) h
theorem St.only1 {x:Nat×Obj} {w:World} (h:St M w0 (x::H) F w):St M w0 [x] F w:=
 ⟨fun q hq=>h.own q (by simp at hq;simp [hq]),by simp,h.ext,fun q hq=>h.new q (by simp at hq;simp [hq]),fun φ hφ w' hw=>h.facts φ hφ w' (hw.mono fun k _ hk=>by simp at hk;simp [hk])⟩
end
inductive Ts where
 |nil
 |cons (k n:Int) (s:ByteArray) (ar r:Ts)
def Ts.length:Ts→Nat
 | .nil=>0
 | .cons _ _ _ _ r=>r.length+1
def Ts.nodes:Ts→Nat
 | .nil=>0
 | .cons _ _ _ ar r=>ar.nodes+r.nodes+1
def Ts.app:Ts→Ts→Ts
 | .nil,y=>y
 | .cons k n s ar r,y=> .cons k n s ar (r.app y)
theorem Ts.length_le (T:Ts):T.length≤T.nodes:=by
 induction T with
 |nil=>exact Nat.le_refl _
 |cons k n s ar r _ ih=>simp only [length,nodes];omega
theorem Ts.app_nil (T:Ts):T.app .nil=T:=by
 induction T with
 |nil=>rfl
 |cons k n s ar r _ ih=>simp only [app,ih]
theorem Ts.app_assoc (a b c:Ts):(a.app b).app c=a.app (b.app c):=by
 induction a with
 |nil=>rfl
 |cons k n s ar r _ ih=>simp only [app,ih]
theorem Ts.length_app (a b:Ts):(a.app b).length=a.length+b.length:=by
 induction a with
 |nil=>simp [app,length]
 |cons k n s ar r _ ih=>simp only [app,length,ih];omega
theorem Ts.nodes_app (a b:Ts):(a.app b).nodes=a.nodes+b.nodes:=by
 induction a with
 |nil=>simp [app,nodes]
 |cons k n s ar r _ ih=>simp only [app,nodes,ih];omega
theorem Ts.nil_of_length {T:Ts} (h:T.length=0):T= .nil:=by
 cases T with
 |nil=>rfl
 |cons k n s ar r=>simp [length] at h
def Seg (w:World) (p:Nat→Prop):Ts→Nat→Nat→Prop
 | .nil,_,_=>True
 | .cons k n s ar r,b,o=>p b∧w.cell? ⟨b,o,none⟩=some (.int .i64 k)∧w.cell? ⟨b,o+1,none⟩=some (.int .i64 n)∧w.cell? ⟨b,o+2,none⟩=some (.string s)∧
   (∃A c,w.cell? ⟨b,o+3,none⟩=some (.slice A ar.length c)∧ar.length≤c∧(0<ar.length→∃b' o',A=some ⟨b',o',none⟩∧Seg w p ar b' o'))∧Seg w p r b (o+4)
def Sl (w:World) (p:Nat→Prop) (v:Value) (T:Ts):Prop:=
 ∃A c,v= .slice A T.length c∧T.length≤c∧(0<T.length→∃b o,A=some ⟨b,o,none⟩∧Seg w p T b o)
theorem QL {w:World} {p:Nat→Prop} {k n:Int} {s:ByteArray} {ar r:Ts} {b o:Nat}:Seg w p (.cons k n s ar r) b o↔
  p b∧w.cell? ⟨b,o,none⟩=some (.int .i64 k)∧w.cell? ⟨b,o+1,none⟩=some (.int .i64 n)∧w.cell? ⟨b,o+2,none⟩=some (.string s)∧
   (∃v,w.cell? ⟨b,o+3,none⟩=some v∧Sl w p v ar)∧Seg w p r b (o+4):=by
 constructor
 ·rintro ⟨h1,h2,h3,h4,⟨A,c,h5,h6,h7⟩,h8⟩;exact ⟨h1,h2,h3,h4,⟨_,h5,A,c,rfl,h6,h7⟩,h8⟩
 ·rintro ⟨h1,h2,h3,h4,⟨v,h5,A,c,rfl,h6,h7⟩,h8⟩;exact ⟨h1,h2,h3,h4,⟨A,c,h5,h6,h7⟩,h8⟩
theorem QaS {w:World} {a:Addr} {v:Value} (h:w.cell? a=some v):a.block<w.heap.size:=by
 rcases Nat.lt_or_ge a.block w.heap.size with hl|hg
 ·exact hl
 ·simp [World.cell?,Array.getElem?_eq_none hg] at h
section
variable {w w':World} {p q:Nat→Prop}
theorem Seg.imp {T:Ts}:∀{b o:Nat},Seg w p T b o→(∀k,p k→k<w.heap.size→q k)→Seg w q T b o:=by
 induction T with
 |nil=>intros;trivial
 |cons k n s ar r iha ihr=>
  intro b o h hq;obtain ⟨h1,h2,h3,h4,⟨A,c,h5,h6,h7⟩,h8⟩:=h;refine ⟨hq _ h1 (QaS h2),h2,h3,h4,⟨A,c,h5,h6,fun hl=> ?_⟩,ihr h8 hq⟩;obtain ⟨b',o',e,h9⟩:=h7 hl;exact ⟨b',o',e,iha h9 hq⟩
theorem Seg.imp' {T:Ts}:∀{b o:Nat},Seg w p T b o→(∀k,p k→(∃j u,w.cell? ⟨k,j,none⟩=some u)→q k)→Seg w q T b o:=by
 induction T with
 |nil=>intros;trivial
 |cons k n s ar r iha ihr=>
  intro b o h hq;obtain ⟨h1,h2,h3,h4,⟨A,c,h5,h6,h7⟩,h8⟩:=h;refine ⟨hq _ h1 ⟨_,_,h2⟩,h2,h3,h4,⟨A,c,h5,h6,fun hl=> ?_⟩,ihr h8 hq⟩;obtain ⟨b',o',e,h9⟩:=h7 hl;exact ⟨b',o',e,iha h9 hq⟩
theorem Seg.keep {T:Ts}:∀{b o:Nat},Seg w p T b o→(∀k,p k→k<w.heap.size→w'.heap[k]?=w.heap[k]?)→Seg w' p T b o:=by
 induction T with
 |nil=>intros;trivial
 |cons k n s ar r iha ihr=>
  intro b o h hk;obtain ⟨h1,h2,h3,h4,⟨A,c,h5,h6,h7⟩,h8⟩:=h;have e:=hk b h1 (QaS h2);refine ⟨h1,?_,?_,?_,⟨A,c,?_,h6,fun hl=> ?_⟩,ihr h8 hk⟩
  ·rw [World.cell?_of_block (w:=w) (w':=w') (a:=⟨b,o,none⟩) e];exact h2
  ·rw [World.cell?_of_block (w:=w) (w':=w') (a:=⟨b,o+1,none⟩) e];exact h3
  ·rw [World.cell?_of_block (w:=w) (w':=w') (a:=⟨b,o+2,none⟩) e];exact h4
  ·rw [World.cell?_of_block (w:=w) (w':=w') (a:=⟨b,o+3,none⟩) e];exact h5
  ·obtain ⟨b',o',e',h9⟩:=h7 hl;exact ⟨b',o',e',iha h9 hk⟩
theorem Sl.imp {T:Ts} {v:Value} (h:Sl w p v T) (hq:∀k,p k→k<w.heap.size→q k):Sl w q v T:=by
 obtain ⟨A,c,hv,hc,hs⟩:=h;refine ⟨A,c,hv,hc,fun hl=> ?_⟩;obtain ⟨b,o,e,h9⟩:=hs hl;exact ⟨b,o,e,h9.imp hq⟩
theorem Sl.imp' {T:Ts} {v:Value} (h:Sl w p v T) (hq:∀k,p k→(∃j u,w.cell? ⟨k,j,none⟩=some u)→q k):Sl w q v T:=by
 obtain ⟨A,c,hv,hc,hs⟩:=h;refine ⟨A,c,hv,hc,fun hl=> ?_⟩;obtain ⟨b,o,e,h9⟩:=hs hl;exact ⟨b,o,e,h9.imp' hq⟩
theorem Sl.keep {T:Ts} {v:Value} (h:Sl w p v T) (hk:∀k,p k→k<w.heap.size→w'.heap[k]?=w.heap[k]?):Sl w' p v T:=by
 obtain ⟨A,c,hv,hc,hs⟩:=h;refine ⟨A,c,hv,hc,fun hl=> ?_⟩;obtain ⟨b,o,e,h9⟩:=hs hl;exact ⟨b,o,e,h9.keep hk⟩
theorem Seg.below {T:Ts} {b o:Nat} (h:Seg w p T b o) (hb:Below w.heap.size w w'):Seg w' p T b o:=h.keep fun k _ hk=>hb.block k hk
theorem Sl.below {T:Ts} {v:Value} (h:Sl w p v T) (hb:Below w.heap.size w w'):Sl w' p v T:=h.keep fun k _ hk=>hb.block k hk
theorem Sl.any {T:Ts} {v:Value} (h:Sl w p v T):Sl w (fun _=>True) v T:=h.imp fun _ _ _=>trivial
theorem Sl.form {T:Ts} {v:Value} (h:Sl w p v T):∃A c,v= .slice A T.length c∧Sl w p (.slice A T.length c) T:=by
 obtain ⟨A,c,rfl,h2⟩:=h;exact ⟨A,c,rfl,A,c,rfl,h2⟩
theorem Sl.nil (w:World) (p:Nat→Prop):Sl w p (.slice none 0 0) .nil:=⟨none,0,rfl,Nat.le_refl _,fun h=>absurd h (Nat.lt_irrefl _)⟩
end
theorem QF (B:Nat) (w:World) (n:Nat):Below B w (w.drewN n):=⟨rfl,rfl,rfl,Nat.le_refl _,fun _ _=>rfl⟩
def QD (w:World) (g:Nat) (t:TypeId) (cs:Array Value):Prop:=w.heap[g]?=some (.cells cs t (0,0))
section
variable {w w':World} {g:Nat} {t:TypeId} {cs:Array Value}
theorem QD.move (h:QD w g t cs) (e:w'.heap[g]?=w.heap[g]?):QD w' g t cs:=Eq.trans e h
theorem QD.lt (h:QD w g t cs):g<w.heap.size:=(Array.getElem?_eq_some_iff.1 h).1
theorem QD.cell (h:QD w g t cs) (i:Nat):w.cell? ⟨g,i,none⟩=cs[i]?:=by
 have:=cell_of_row w g i cs t (0,0) h;exact this
theorem QD.frozen (h:QD w g t cs) (i:Nat):w.frozen? ⟨g,i,none⟩=false:=by
 have e:w.heap[g]?=some (.cells cs t (0,0)):=h;rw [World.frozen?];simp only [e];simp
theorem QD.new (w:World) (t:TypeId) (cs:Array Value):QD (w.alloc (.cells cs t)) w.heap.size t cs:=by
 show (w.alloc _).heap[w.heap.size]?=_;rw [heap_alloc_new]
theorem QD.drew (h:QD w g t cs):QD w.drew g t cs:=h.move rfl
theorem QD.drewN (h:QD w g t cs) (n:Nat):QD (w.drewN n) g t cs:=h.move rfl
theorem QD.alloc (h:QD w g t cs) (o:Obj):QD (w.alloc o) g t cs:=h.move (Below.heap_alloc w o g h.lt)
theorem QD.far (h:QD w g t cs) {p:Addr} (hp:g≠p.block) (u:Value):QD (w.setCell p u) g t cs:=h.move (Below.heap_setCell w p u g hp)
theorem QD.below (h:QD w g t cs) (hb:Below w.heap.size w w'):QD w' g t cs:=h.move (hb.block g h.lt)
theorem QD.grown {row:Option Nat} (h:QD w g t cs) (hb:w.grownBy w' row) (hg:some g≠row):QD w' g t cs:=h.move (hb.block g h.lt hg)
theorem QD.set_ (h:QD w g t cs) (i:Nat) (u:Value):QD (w.setCell ⟨g,i,none⟩ u) g t (cs.setIfInBounds i u):=by
 have e:w.heap[g]?=some (.cells cs t (0,0)):=h;show (w.setCell _ u).heap[g]?=_;rw [World.setCell];simp [Array.getElem?_modify,e]
theorem QD.four {a b c d:Value} (h:QD w g t #[a,b,c,d]):w.cell? ⟨g,0,none⟩=some a∧w.cell? ⟨g,1,none⟩=some b∧w.cell? ⟨g,2,none⟩=some c∧w.cell? ⟨g,3,none⟩=some d∧(∀o,w.frozen? ⟨g,o,none⟩=false):=
 ⟨h.cell 0,h.cell 1,h.cell 2,h.cell 3,h.frozen⟩
end
def Cs (w:World) (p:Nat→Prop):Ts→List Value→Prop
 | .nil,xs=>xs=[]
 | .cons k n s ar r,xs=>∃v ys,xs= .int .i64 k:: .int .i64 n:: .string s::v::ys∧Sl w p v ar∧Cs w p r ys
section
variable {w w':World} {p q:Nat→Prop}
theorem Cs.length {T:Ts}:∀{xs:List Value},Cs w p T xs→xs.length=T.length*4:=by
 induction T with
 |nil=>intro xs h;rw [show xs=[] from h];rfl
 |cons k n s ar r _ ih=>
  rintro xs ⟨v,ys,rfl,_,h⟩;simp only [List.length_cons,Ts.length,ih h];omega
theorem Cs.imp {T:Ts}:∀{xs:List Value},Cs w p T xs→(∀k,p k→k<w.heap.size→q k)→Cs w q T xs:=by
 induction T with
 |nil=>intro xs h _;exact h
 |cons k n s ar r _ ih=>
  rintro xs ⟨v,ys,rfl,hv,h⟩ hq;exact ⟨v,ys,rfl,hv.imp hq,ih h hq⟩
theorem Cs.keep {T:Ts}:∀{xs:List Value},Cs w p T xs→(∀k,p k→k<w.heap.size→w'.heap[k]?=w.heap[k]?)→Cs w' p T xs:=by
 induction T with
 |nil=>intro xs h _;exact h
 |cons k n s ar r _ ih=>
  rintro xs ⟨v,ys,rfl,hv,h⟩ hk;exact ⟨v,ys,rfl,hv.keep hk,ih h hk⟩
theorem Cs.below {T:Ts} {xs:List Value} (h:Cs w p T xs) (hb:Below w.heap.size w w'):Cs w' p T xs:=h.keep fun k _ hk=>hb.block k hk
theorem Cs.app {T:Ts}:∀{xs ys:List Value} {U:Ts},Cs w p T xs→Cs w p U ys→Cs w p (T.app U) (xs++ys):=by
 induction T with
 |nil=>intro xs ys U h h';rw [show xs=[] from h];exact h'
 |cons k n s ar r _ ih=>
  rintro xs ys U ⟨v,zs,rfl,hv,h⟩ h';exact ⟨v,zs++ys,rfl,hv,ih h h'⟩
theorem Cs.seg {T:Ts}:∀{xs:List Value} {b o:Nat},Cs w p T xs→(0<T.length→p b)→(∀j u,xs[j]?=some u→w.cell? ⟨b,o+j,none⟩=some u)→Seg w p T b o:=by
 induction T with
 |nil=>intros;trivial
 |cons k n s ar r _ ih=>
  rintro xs b o ⟨v,ys,rfl,hv,h⟩ hp hc;have hb:p b:=hp Y1;refine QL.2 ⟨hb,by simpa using hc 0 _ rfl,hc 1 _ rfl,hc 2 _ rfl,⟨v,hc 3 _ rfl,hv⟩,ih h (fun _=>hb) fun j u hu=> ?_⟩;have:=hc (j+4) u (by simpa using hu)
  rwa [show o+4+j=o+(j+4) by omega]
theorem Seg.cells {T:Ts}:∀{b o:Nat},Seg w p T b o→∃xs,Cs w p T xs∧∀j u,xs[j]?=some u→w.cell? ⟨b,o+j,none⟩=some u:=by
 induction T with
 |nil=>intro b o _;exact ⟨[],rfl,fun j u hu=>by simp at hu⟩
 |cons k n s ar r _ ih=>
  intro b o h;obtain ⟨h1,h2,h3,h4,⟨v,h5,h6⟩,h8⟩:=QL.1 h;obtain ⟨ys,hy,hc⟩:=ih h8;refine ⟨_,⟨v,ys,rfl,h6,hy⟩,fun j u hu=> ?_⟩
  match j,hu with
  |0,hu=>simp at hu;subst hu;simpa using h2
  |1,hu=>simp at hu;subst hu;exact h3
  |2,hu=>simp at hu;subst hu;exact h4
  |3,hu=>simp at hu;subst hu;exact h5
  |j+4,hu=>rw [show o+(j+4)=o+4+j by omega];exact hc j u (by simpa using hu)
theorem Cs.one {T:Ts}:∀{xs:List Value},Cs w p T xs→∀u∈xs,u.oneCell'=true:=by
 induction T with
 |nil=>intro xs h u hu;rw [show xs=[] from h] at hu;cases hu
 |cons k n s ar r _ ih=>
  rintro xs ⟨v,ys,rfl,⟨A,c,rfl,_⟩,h⟩ u hu;simp only [List.mem_cons] at hu;rcases hu with rfl|rfl|rfl|rfl|hu
  ·rfl
  ·rfl
  ·rfl
  ·rfl
  ·exact ih h u hu
theorem Sl.own {T:Ts} {base:Nat} {e:TypeId} {v:Value} {xs:List Value} (h:w.ownsRow base e 4 v T.length xs) (hc:Cs w p T xs) (hp:∀g,v.ownBlock=some g→p g):Sl w p v T:=by
 rcases h.2 with ⟨rfl,hn⟩|⟨g,cap,cur,rfl,_,_,hnc,_⟩
 ·exact ⟨none,0,by rw [hn],by omega,fun hl=>absurd hl Ya⟩
 ·refine ⟨_,cap,rfl,hnc,fun _=>⟨g,0,rfl,hc.seg (fun _=>hp g rfl) fun j u hu=> ?_⟩⟩;have:=h.cells (g:=g) rfl j u hu;simp only [Addr.add] at this;split at this
  ·rename_i h0;subst h0;simpa using this
  ·simpa using this
end
theorem Qcw {P:Program} {w:World} {a:Addr} {f:Fn} {x y:Array Value} {u:Value} (h:w.cell? a=some u) (hf:w.frozen? a=false):(store a (.func f x y)).run P w= .ok () (w.setCell a (.func f x y)):=by
 simp [store,Sem.run,h,hf]
theorem Qee (w:World) (u v:Value) (t:TypeId):(w.alloc (.cells #[u] t)).setCell ⟨w.heap.size,0,none⟩ v=w.alloc (.cells #[v] t):=by
 show ({ w with heap:=(w.heap.push (.cells #[u] t)).modify w.heap.size _ }:World)={ w with heap:=w.heap.push (.cells #[v] t) };congr 1;apply Array.ext_getElem?;intro j;rw [Array.getElem?_modify,Array.getElem?_push,Array.getElem?_push];by_cases e:w.heap.size=j
 ·subst e;simp
 ·simp [e,Ne.symm e]
theorem Qrc {a:Array Value} {i:Nat} {v:Value} (h:a[i]?=some v):a.setIfInBounds i v=a:=by
 apply Array.ext_getElem?;intro j;by_cases hj:i=j
 ·subst hj;rw [Array.getElem?_setIfInBounds_self_of_lt (Array.getElem?_eq_some_iff.1 h).1,h]
 ·rw [Array.getElem?_setIfInBounds_ne hj]
theorem Qcp {w:World} {base:Nat} {e:TypeId} {size:Nat} {v:Value} {n:Nat} {xs:List Value} (h:w.ownsRow base e size v n xs):∃A cap,v= .slice A n cap:=by
 rcases h.2 with ⟨rfl,rfl⟩|⟨g,cap,cur,rfl,_⟩
 ·exact ⟨_,_,rfl⟩
 ·exact ⟨_,_,rfl⟩
theorem QlP {w:World} {base:Nat} {e:TypeId} {size:Nat} {A:Option Addr} {n c:Nat} {xs:List Value} (h:w.ownsRow base e size (.slice A n c) n xs):
  n≤c∧∃(g:Nat) (cur:Array Value),0<n→A=some ⟨g,0,none⟩∧base≤g∧QD w g e cur∧∀(j:Nat) u,xs[j]?=some u→cur[j]?=some u:=by
 rcases h.2 with ⟨h1,rfl⟩|⟨g,cap,cur,h1,hb,hh,hnc,_,_,htk⟩
 ·exact ⟨Nat.zero_le _,0, #[],fun h=>absurd h (Nat.lt_irrefl _)⟩
 ·simp only [Value.slice.injEq,true_and] at h1;obtain ⟨rfl,rfl⟩:=h1;refine ⟨hnc,g,cur,fun _=>⟨rfl,hb,hh,fun j u hu=> ?_⟩⟩;rw [←htk,List.getElem?_take] at hu;split at hu
  ·simpa using hu
  ·cases hu
theorem Qe2 (w:World) (cs:List Value) (t:TypeId):∀j u,cs[j]?=some u→(w.alloc (.cells cs.toArray t)).cell? ((⟨w.heap.size,0,none⟩:Addr).add j)=some u:=by
 intro j u hu;have h:=(QD.new w t cs.toArray).cell j;simp only [List.getElem?_toArray] at h;by_cases hj:j=0
 ·subst hj;rw [←hu];exact h
 ·simp [Addr.add,hj,h,hu]
theorem Qg4 {w w':World} {base:Nat} {e:TypeId} {size:Nat} {v:Value} {n:Nat} {xs:List Value} (h:w.ownsRow base e size v n xs) (hb:Below w.heap.size w w'):w'.ownsRow base e size v n xs:=
 h.kept (row:=none) ⟨hb.os,hb.tape,hb.output,hb.size,fun k hk _=>hb.block k hk⟩ (by cases v.ownBlock<;>simp)
theorem Qao {P:Program} (w:World) {ops:Array Oper} {rest:List Oper} {o:Oper} {a:Act} {Q:Exit→Act→World→Prop} (hgd:o.guard=none) (s x:Operand) (t:TypeId)
  (ho:o.op= .call { callee:= .builtin .append,args:= #[s,x],argTypes:= #[t,t] })
  (base:Nat) (e:TypeId) (i:TypeInfo) (z:Value) (size bytes:Nat) (ht:P.underlying t=some (.slice e)) (hi:P.info? e=some i) (hz:i.zero=some z)
  (hsize:i.size=size) (hby:i.bytes=bytes) (hzs:z.cells.size=size) (hsz:0<size)
  (v:Value) (n:Nat) (xs:List Value) (hs:a.eval s=v) (hown:w.ownsRow base e size v n xs)
  (ad:Addr) (m c:Nat) (news:List Value) (hx:a.eval x= .slice (some ad) m c) (hl:news.length=m*size) (hnews:∀j u,news[j]?=some u→w.cell? (ad.add j)=some u) (h1:∀u∈news,u.oneCell'=true)
  (h63:n+m≤maxLen) (hbytes:(n+m)*bytes≤140737488355328) (hbase:base≤w.heap.size)
  (h:∀v' w',w'.ownsRow base e size v' (n+m) (xs++news)→w.grownBy w' v.ownBlock→(v'.ownBlock=v.ownBlock∨v'.ownBlock=some w.heap.size)→wpList P ops Q rest (a.put o.dst v') w'):wpList P ops Q (o::rest) a w:=by
 refine wpList_plain hgd fun K hK=> ?_;obtain ⟨v',w',hr,h2,h3,_,h5⟩:=run_append_own_at (P:=P) w base t o.type e i z size bytes ht hi hz hsize hby hzs hsz v n xs hown ad m c news hl hnews h1 h63 hbytes hbase;unfold Oper.wp execOp;simp only [ho,resolve,invoke,builtin,Sem.run_bind,Sem.run_pure,Result.andThen_ok,List.map_toArray,List.map_cons,List.map_nil,hs,hx,hr];exact hK _ _ (h v' w' h2 h3 h5)
theorem QgA {s t:ByteArray}:s.toList=t.toList↔s=t:=by
 rw [ByteArray.toList_eq,ByteArray.toList_eq];constructor
 ·intro h;have:s.data=t.data:=Array.toList_inj.1 h;cases s;cases t;simp at this;rw [this]
 ·intro h;rw [h]
theorem Seg.skip {w:World} {p:Nat→Prop} {R:Ts} {b:Nat}:∀{D:Ts} {o:Nat},Seg w p (D.app R) b o→Seg w p R b (o+D.length*4):=by
 intro D
 induction D with
 |nil=>intro o h;simpa [Ts.length,Ts.app] using h
 |cons k n s ar r _ ih=>
  intro o h;have:=ih (QL.1 h).2.2.2.2.2;rw [show (Ts.cons k n s ar r).length=r.length+1 from rfl,show o+(r.length+1)*4=o+4+r.length*4 by omega];exact this
theorem Sl.at_ {w:World} {p:Nat→Prop} {A:Option Addr} {len c:Nat} {D R:Ts} (h:Sl w p (.slice A len c) (D.app R)) (hR:0<R.length):
  ∃b o,A=some ⟨b,o,none⟩∧Seg w p R b (o+D.length*4):=by
 obtain ⟨A',c',e,_,hs⟩:=h;simp only [Value.slice.injEq] at e;obtain ⟨rfl,rfl,rfl⟩:=e;obtain ⟨b,o,rfl,hseg⟩:=hs (by rw [Ts.length_app];omega);exact ⟨b,o,rfl,hseg.skip⟩
structure Chg (S:Nat→Prop) (w w':World):Prop where
 os:w'.os=w.os
 tape:w'.tape=w.tape
 output:w'.output=w.output
 size:w.heap.size≤w'.heap.size
 block:∀k,k<w.heap.size→¬S k→w'.heap[k]?=w.heap[k]?
section
variable {S S':Nat→Prop} {w w' w'':World}
theorem Chg.refl (S:Nat→Prop) (w:World):Chg S w w:=⟨rfl,rfl,rfl,Nat.le_refl _,fun _ _ _=>rfl⟩
theorem Chg.trans (h:Chg S w w') (h':Chg S' w' w'') (hs:∀k,k<w.heap.size→S' k→S k):Chg S w w'':=
 ⟨h'.os.trans h.os,h'.tape.trans h.tape,h'.output.trans h.output,Nat.le_trans h.size h'.size,fun k hk hS=>(h'.block k (Nat.lt_of_lt_of_le hk h.size) fun hs'=>hS (hs k hk hs')).trans (h.block k hk hS)⟩
theorem Chg.of_fresh (h:Below w.heap.size w w'):Chg S w w':=⟨h.os,h.tape,h.output,h.size,fun k hk _=>h.block k hk⟩
theorem Chg.of_grown {row:Option Nat} (h:w.grownBy w' row):Chg (fun k=>row=some k) w w':=⟨h.os,h.tape,h.output,h.size,fun k hk hS=>h.block k hk fun e=>hS e.symm⟩
theorem Chg.below {B:Nat} (h:Chg S w w') (hB:B≤w.heap.size) (hs:∀k,S k→k<w.heap.size→B≤k):Below B w w':=
 ⟨h.os,h.tape,h.output,h.size,fun k hk=>h.block k Ya fun hS=>by have:=hs k hS Ya;omega⟩
theorem Chg.setCell (h:Chg S w w') {p:Addr} (hp:p.block<w.heap.size→S p.block) (u:Value):Chg S w (w'.setCell p u):=
 ⟨h.os,h.tape,h.output,by simpa [World.setCell] using h.size,fun k hk hS=>(Below.heap_setCell w' p u k (fun e=>hS (e ▸ hp (e ▸ hk)))).trans (h.block k hk hS)⟩
theorem Chg.alloc (h:Chg S w w') (o:Obj):Chg S w (w'.alloc o):=
 ⟨h.os,h.tape,h.output,Nat.le_trans h.size Yd,fun k hk hS=>(Below.heap_alloc w' o k (Nat.lt_of_lt_of_le hk h.size)).trans (h.block k hk hS)⟩
theorem Chg.drew (h:Chg S w w'):Chg S w w'.drew:=⟨h.os,h.tape,h.output,h.size,h.block⟩
theorem QD.chg {g:Nat} {t:TypeId} {cs:Array Value} (h:QD w g t cs) (hc:Chg S w w') (hg:¬S g):QD w' g t cs:=(hc.block g h.lt hg).trans h
theorem QlO {base:Nat} {e:TypeId} {size:Nat} {v:Value} {n:Nat} {xs:List Value} (h:w.ownsRow base e size v n xs) (hc:Chg S w w') (hv:∀g,v.ownBlock=some g→¬S g):w'.ownsRow base e size v n xs:=by
 obtain ⟨h1,h2⟩:=h;refine ⟨h1,?_⟩;rcases h2 with h2|⟨g,cap,cur,rfl,hg,hh,r⟩
 ·exact .inl h2
 ·have hl:g<w.heap.size:=by
   rcases Nat.lt_or_ge g w.heap.size with hl|hl
   ·exact hl
   ·rw [Array.getElem?_eq_none hl] at hh;cases hh
  exact .inr ⟨g,cap,cur,rfl,hg,(hc.block g hl (hv g rfl)).trans hh,r⟩
theorem Sl.chg {p:Nat→Prop} {T:Ts} {v:Value} (h:Sl w p v T) (hc:Chg S w w') (hp:∀k,p k→¬S k):Sl w' p v T:=h.keep fun k hk hl=>hc.block k hl (hp k hk)
end
section
variable {M:List Nat} {w0 w w':World} {H:List (Nat×Obj)} {F:List (World→Prop)} {v:Value} {T:Ts} {p:Nat→Prop}
theorem St.keys_lt (hS:St M w0 H F w) {k:Nat} (hk:k∈H.map (·.1)):k<w.heap.size:=by
 obtain ⟨q,hq,rfl⟩:=List.mem_map.1 hk;exact Qd8 (hS.own q hq)
end
def Qbd (w:World) (mb:Nat) (Qcj:List (Int×Value)):Prop:=
 ∃es clock,w.heap[mb]?=some (.map es clock)∧es.toList.map (fun e=>(e.key,e.val))=Qcj.map (fun x=>(Value.int .i64 x.1,x.2))
def QoH (n:Int):List (Int×Value)→Option Value
 |[]=>none
 |x::r=>if n=x.1 then some x.2 else QoH n r
def Qtw (n:Int) (v:Value):List (Int×Value)→List (Int×Value)
 |[]=>[(n,v)]
 |x::r=>if n=x.1 then (n,v)::r else x::Qtw n v r
def QnF (n:Int):List (Int×Value)→Nat→Option (Nat×Value)
 |[],_=>none
 |x::r,i=>if n=x.1 then some (i,x.2) else QnF n r (i+1)
theorem Qdx (n:Int):MapKept.IsKey (.int .i64) (.int .i64 n):=by simp [MapKept.IsKey]
theorem QdC (n:Int):∀(es:List MapEntry) (Qcj:List (Int×Value)) (i:Nat),es.map (fun e=>(e.key,e.val))=Qcj.map (fun x=>(Value.int .i64 x.1,x.2))→
  Instr.findNow (.int .i64) (.int .i64 n) es i=some (QnF n Qcj i)
 |[],[],i,_=>rfl
 |[],_::_,_,h=>by simp at h
 |_::_,[],_,h=>by simp at h
 |e::es,x::Qcj,i,h=>by
  simp only [List.map_cons,List.cons.injEq,Prod.mk.injEq] at h;obtain ⟨⟨h1,h2⟩,h3⟩:=h;have ih:=QdC n es Qcj (i+1) h3;simp only [Instr.findNow,h1,Instr.sameNow,QnF,if_true];by_cases e1:n=x.1
  ·simp [e1,h2]
  ·have e2:(n==x.1)=false:=by simpa using e1
   rw [e2,if_neg e1,←ih]
theorem Qhz {n:Int}:∀{Qcj:List (Int×Value)} {i:Nat},QnF n Qcj i=none↔QoH n Qcj=none
 |[],_=>by simp [QnF,QoH]
 |x::r,i=>by
  simp only [QnF,QoH];by_cases e:n=x.1
  ·simp [e]
  ·simp only [e,if_false];exact Qhz
theorem Qle {n:Int}:∀{Qcj:List (Int×Value)} {i j:Nat} {v:Value},QnF n Qcj i=some (j,v)→QoH n Qcj=some v
 |[],_,_,_,h=>by simp [QnF] at h
 |x::r,i,j,v,h=>by
  simp only [QnF,QoH] at*;by_cases e:n=x.1
  ·simp only [e,if_true,Option.some.injEq,Prod.mk.injEq] at h⊢;exact h.2
  ·simp only [e,if_false] at h⊢;exact Qle h
theorem Qe4 {n:Int} {v:Value}:∀{Qcj:List (Int×Value)},QoH n Qcj=none→Qtw n v Qcj=Qcj++[(n,v)]
 |[],_=>rfl
 |x::r,h=>by
  simp only [QoH] at h;by_cases e:n=x.1
  ·simp [e] at h
  ·simp only [e,if_false] at h;simp only [Qtw,e,if_false,Qe4 h,List.cons_append]
theorem Qk8 {n:Int} {v u:Value}:∀{Qcj:List (Int×Value)} {i j:Nat},QnF n Qcj i=some (j,u)→i≤j∧(Qcj[j-i]?).map (·.1)=some n∧Qtw n v Qcj=Qcj.set (j-i) (n,v)
 |[],_,_,h=>by simp [QnF] at h
 |x::r,i,j,h=>by
  simp only [QnF,Qtw] at*;by_cases e:n=x.1
  ·simp only [e,if_true,Option.some.injEq,Prod.mk.injEq] at h;obtain ⟨rfl,_⟩:=h;simp [e]
  ·simp only [e,if_false] at h⊢;obtain ⟨h1,h2,h3⟩:=Qk8 (v:=v) h;have e1:j-i=(j-(i+1))+1:=by omega
   refine ⟨by omega,by rw [e1];simpa using h2,by rw [h3,e1];rfl⟩
section
variable {P:Program} {w:World} {mb:Nat} {Qcj:List (Int×Value)} {t kt et:TypeId}
theorem Qbd.lt (h:Qbd w mb Qcj):mb<w.heap.size:=by
 obtain ⟨es,clock,hb,_⟩:=h;exact (Array.getElem?_eq_some_iff.1 hb).1
theorem Qbd.keep {w':World} (h:Qbd w mb Qcj) (hk:w'.heap[mb]?=w.heap[mb]?):Qbd w' mb Qcj:=by
 obtain ⟨es,clock,hb,he⟩:=h;exact ⟨es,clock,hk.trans hb,he⟩
theorem Qbd.made (w:World):Qbd (w.alloc (.map #[] 0)) w.heap.size []:=⟨#[],0,heap_alloc_new w _,rfl⟩
theorem QgO {P:Program} (t:TypeId) (w:World):(Instr.makeMap t none).run P w= .ok (.map (some w.heap.size)) (w.alloc (.map #[] 0)):=by
 simp [Instr.makeMap,newObj,Sem.run]
theorem Qbd.lookup (h:Qbd w mb Qcj) {z:Value} (ht:P.underlying t=some (.map kt et)) (hk:P.underlying kt=some (.int .i64))
  (hz:(zeroValue et).run P w= .ok z w) (n:Int) (c:Bool):
  (Instr.lookup t (.map (some mb)) (.int .i64 n) c).run P w= .ok (if c then .tuple #[(QoH n Qcj).getD z,.bool (QoH n Qcj).isSome] else (QoH n Qcj).getD z) w:=by
 obtain ⟨es,clock,hb,he⟩:=h;have hf:=QdC n es.toList Qcj 0 he
 cases ha:QnF n Qcj 0 with
 |none=>
  rw [ha] at hf;simp [Instr.lookup,run_underlying ht,MapKept.run_getObj_map hb,MapKept.run_checkKey hk (Qdx n),MapKept.run_findKey hk hf,hz,Result.andThen,Qhz.1 ha]
 |some x=>
  rw [ha] at hf;simp [Instr.lookup,run_underlying ht,MapKept.run_getObj_map hb,MapKept.run_checkKey hk (Qdx n),MapKept.run_findKey hk hf,Result.andThen,Qle ha]
theorem Qbd.update (h:Qbd w mb Qcj) (ht:P.underlying t=some (.map kt et)) (hk:P.underlying kt=some (.int .i64)) (n:Int) (v:Value):
  ∃w',(Instr.mapUpdate t (.map (some mb)) (.int .i64 n) v).run P w= .ok () w'∧Qbd w' mb (Qtw n v Qcj)∧Chg (fun k=>k=mb) w w'∧w'.heap.size=w.heap.size:=by
 have hlt:=h.lt;obtain ⟨es,clock,hb,he⟩:=h;have hf:=QdC n es.toList Qcj 0 he
 cases ha:QnF n Qcj 0 with
 |none=>
  rw [ha] at hf;refine ⟨{ w with heap:=w.heap.setIfInBounds mb (.map (es.push { key:= .int .i64 n,val:=v,born:=clock }) (clock+1)) },?_,⟨_,_,(MapKept.heap_set hb).1,?_⟩,⟨rfl,rfl,rfl,by simp,fun k _ hn=>(MapKept.heap_set hb).2 k hn⟩,by simp⟩
  ·simp [Instr.mapUpdate,run_underlying ht,MapKept.run_getObj_map hb,MapKept.run_checkKey hk (Qdx n),MapKept.run_findKey hk hf,MapKept.run_setObj_map _ hb,Result.andThen]
  ·rw [Qe4 (Qhz.1 ha),Array.toList_push,List.map_append,List.map_append,he];rfl
 |some x=>
  obtain ⟨j,u⟩:=x;rw [ha] at hf;obtain ⟨_,h2,h3⟩:=Qk8 (v:=v) ha;simp only [Nat.sub_zero] at h2 h3
  have hent:∃e,es[j]?=some e∧e.key= .int .i64 n:=by
   have h4:=congrArg (fun l=>l[j]?) he;simp only [List.getElem?_map] at h4
   cases h5:Qcj[j]? with
   |none=>rw [h5] at h2;simp at h2
   |some y=>
    rw [h5] at h2 h4;simp only [Option.map_some,Option.some.injEq] at h2
    cases h6:es[j]? with
    |none=>simp [h6] at h4
    |some e=>
     simp [h6] at h4;exact ⟨e,rfl,by rw [h4.1,h2]⟩
  obtain ⟨e,hj,hkey⟩:=hent;refine ⟨{ w with heap:=w.heap.setIfInBounds mb (.map (es.modify j fun e=>{ e with key:= .int .i64 n,val:=v }) clock) },?_,⟨_,_,(MapKept.heap_set hb).1,?_⟩,⟨rfl,rfl,rfl,by simp,fun k _ hn=>(MapKept.heap_set hb).2 k hn⟩,by simp⟩
  ·simp [Instr.mapUpdate,run_underlying ht,MapKept.run_getObj_map hb,MapKept.run_checkKey hk (Qdx n),MapKept.run_findKey hk hf,hj,hkey,MapKept.run_keyThatStays (Qdx n),MapKept.run_setObj_map _ hb,Result.andThen]
  ·rw [h3];apply List.ext_getElem?;intro i;have h4:=congrArg (fun l=>l[i]?) he;simp only [List.getElem?_map,Array.getElem?_toList] at h4;simp only [List.getElem?_map,Array.getElem?_toList,Array.getElem?_modify,List.getElem?_set];by_cases hij:j=i
   ·subst hij
    have hjl:j<Qcj.length:=by
     rcases Nat.lt_or_ge j Qcj.length with hl|hl
     ·exact hl
     ·rw [List.getElem?_eq_none hl] at h2;simp at h2
    simp [hj,hjl]
   ·simp [hij,h4]
theorem Qbd.size (h:Qbd w mb Qcj):∃es clock,w.heap[mb]?=some (.map es clock)∧es.size=Qcj.length:=by
 obtain ⟨es,clock,hb,he⟩:=h;refine ⟨es,clock,hb,?_⟩;have:=congrArg List.length he;simpa using this
theorem Qbd.len (h:Qbd w mb Qcj) (ht:P.underlying t=some (.map kt et)) (ty:TypeId):(Builtin.len_ #[t] ty #[.map (some mb)]).run P w= .ok (.int .i64 Qcj.length) w:=by
 obtain ⟨es,clock,hb,hs⟩:=h.size;simp [Builtin.len_,run_underlying ht,MapKept.run_getObj_map hb,Result.andThen,hs,goInt]
end
section
variable {P:Program} {n:Nat} {e:Env} {w:World} {Q:Exit→Act→World→Prop} {ops:Array Oper} {rest:List Oper} {ty:TypeId} {pos:String} {after:Array Edge} {d:Nat}
variable {M:List Nat} {w0:World} {H H':List (Nat×Obj)} {F:List (World→Prop)} {mb:Nat} {es:Array MapEntry} {clk:Nat} {Qcj:List (Int×Value)} {x y u:Operand} {v z:Value} {dst:Option Nat} {t kt:TypeId} {i:Int}
end
def QaX (c:UInt8):Bool:=decide (97≤c.toNat)&&decide (c.toNat≤122)
def Qa5 (s:ByteArray):Bool:=decide (s.data.toList=[33])||(decide (1≤s.size)&&decide (s.size≤8)&&s.data.toList.all QaX)
theorem QkD (s:ByteArray) (k:Nat) (h:k<s.size):s.data.toList.take (k+1)=s.data.toList.take k++[s[k]]:=
 List.take_succ_eq_append_getElem (l:=s.data.toList) (i:=k) YY
theorem Qld {s:ByteArray} {k:Nat} {c:UInt8} (h:s.data.toList.take (k+1)=s.data.toList.take k++[c]) (hc:QaX c=false):s.data.toList.all QaX=false:=by
 have e:s.data.toList=s.data.toList.take (k+1)++s.data.toList.drop (k+1):=(List.take_append_drop _ _).symm;rw [e,List.all_append,h,List.all_append];simp [hc]
set_option maxHeartbeats 400000 in
theorem Qkp (s:ByteArray) (w:World):Calls Tryz.prog 184 #[.string s] w fun e w'=>e= .returned (.bool (Qa5 s))∧w=w':=by
 by_cases h0:s.data.toList=[33]
 ·have r:Qa5 s=true:=by simp [Qa5,h0]
  have h1:s.toList=[33]:=by rw [ByteArray.toList_eq];exact h0
  rw [r];clear r h0;go_enter Tryz.func184,Tryz.ntmps184;go_wp2_with fail;go_ret;exact ⟨rfl,rfl⟩
 have h1:(s.toList==[33])=false:=by rw [ByteArray.toList_eq];simpa using h0
 by_cases h2:s.size<1
 ·have r:Qa5 s=false:=by simp [Qa5,h0];omega
  rw [r];clear r h0;go_enter Tryz.func184,Tryz.ntmps184;go_wp2_with fail;go_ret;exact ⟨rfl,rfl⟩
 by_cases h3:8<s.size
 ·have r:Qa5 s=false:=by simp [Qa5,h0];omega
  rw [r];clear r h0;go_enter Tryz.func184,Tryz.ntmps184;go_wp2_with fail;go_ret;exact ⟨rfl,rfl⟩
 have r:Qa5 s=s.data.toList.all QaX:=by
  have a:1≤s.size:=by omega
  have b:s.size≤8:=by omega
  simp [Qa5,h0,a,b]
 have R:=Lib.hid r;clear r h0;go_enter Tryz.func184,Tryz.ntmps184;go_wp2_with fail;go_loopg [16] s.size (fun g i wr=>w=wr∧∃k:Nat,k≤s.size∧g=s.size-k∧i= .int .i64 k∧(s.data.toList.take k).all QaX=true)
 case atStart=>exact ⟨rfl,0,Nat.zero_le _,rfl,rfl,rfl⟩
 case round=>
  obtain ⟨rfl,k,hk,hg,rfl,ha⟩:=hrel;have HA:=Lib.hid ha;have HG:=Lib.hid hg;clear ha hg;by_cases hlt:k<s.size
  ·have hts:=QkD s k hlt;have hbig:=s[k].toNat_lt;by_cases hlo:(s[k].toNat:Int)<97
   ·have hf:=Lib.hid (Qld hts (show QaX s[k]=false by simp [QaX];omega));clear hts;go_wp2_with fail;go_ret;exact ⟨by rw [R.out,hf.out];rfl,rfl⟩
   by_cases hhi:(122:Int)<(s[k].toNat:Int)
   ·have hf:=Lib.hid (Qld hts (show QaX s[k]=false by simp [QaX];omega));clear hts;go_wp2_with fail;go_ret;exact ⟨by rw [R.out,hf.out];rfl,rfl⟩
   ·have hf:Hid ((s.data.toList.take (k+1)).all QaX=true):=Lib.hid (by
     rw [hts,List.all_append,HA.out]
     simp [QaX];omega)
    clear hts;go_wp2_with fail;go_roundg (s.size-(k+1))
    case measure=>rw [HG.out];omega
    case rel=>exact ⟨rfl,k+1,by omega,rfl,rfl,hf.out⟩
  ·go_wp2_with fail;go_ret;refine ⟨?_,rfl⟩;have h4:=HA.out;rw [List.take_of_length_le Yh] at h4;rw [R.out,h4];rfl
end Go.Proofs.YthliapbflkfdiacGreatDoor
namespace Go.Proofs
open Go.Shelf
def Tryz.lays160_ren:Go.Shelf.Ren:=⟨fun|160=>225|232=>241|231=>168|227=>169|234=>242|233=>170|236=>243|235=>171|228=>204|271=>252|151=>206|197=>205|120=>255|152=>232|260=>231|137=>129|119=>246|224=>247|225=>248|217=>182|266=>213|n=>n,fun|9=>9|4=>4|3=>3|5=>5|117=>233|116=>232|0=>0|124=>236|21=>21|105=>262|46=>276|119=>286|139=>289|138=>288|n=>n,fun|3=>3|4=>4|n=>n⟩
theorem Tryz.lays160:Go.Proofs.Lays.n160 Tryz.prog Tryz.lays160_ren:={
 mixed:=by kernel_rfl
 f119:=Tryz.func246.trans (congrArg some (by kernel_rfl))
 f120:=Tryz.func255.trans (congrArg some (by kernel_rfl))
 f137:=Tryz.func129.trans (congrArg some (by kernel_rfl))
 f151:=Tryz.func206.trans (congrArg some (by kernel_rfl))
 f152:=Tryz.func232.trans (congrArg some (by kernel_rfl))
 f160:=Tryz.func225.trans (congrArg some (by kernel_rfl))
 f197:=Tryz.func205.trans (congrArg some (by kernel_rfl))
 f217:=Tryz.func182.trans (congrArg some (by kernel_rfl))
 f224:=Tryz.func247.trans (congrArg some (by kernel_rfl))
 f225:=Tryz.func248.trans (congrArg some (by kernel_rfl))
 f227:=Tryz.func169.trans (congrArg some (by kernel_rfl))
 f228:=Tryz.func204.trans (congrArg some (by kernel_rfl))
 f231:=Tryz.func168.trans (congrArg some (by kernel_rfl))
 f232:=Tryz.func241.trans (congrArg some (by kernel_rfl))
 f233:=Tryz.func170.trans (congrArg some (by kernel_rfl))
 f234:=Tryz.func242.trans (congrArg some (by kernel_rfl))
 f235:=Tryz.func171.trans (congrArg some (by kernel_rfl))
 f236:=Tryz.func243.trans (congrArg some (by kernel_rfl))
 f260:=Tryz.func231.trans (congrArg some (by kernel_rfl))
 f266:=Tryz.func213.trans (congrArg some (by kernel_rfl))
 f271:=Tryz.func252.trans (congrArg some (by kernel_rfl))
 t0:=Tryz.underlying0
 a0:=Tryz.isAgg0
 z0:=Tryz.sizeOf0
 v0:=Tryz.zeroValue0
 t3:=Tryz.underlying3
 a3:=Tryz.isAgg3
 z3:=Tryz.sizeOf3
 v3:=Tryz.zeroValue3
 t4:=Tryz.underlying4
 a4:=Tryz.isAgg4
 z4:=Tryz.sizeOf4
 v4:=Tryz.zeroValue4
 t5:=Tryz.underlying5
 a5:=Tryz.isAgg5
 z5:=Tryz.sizeOf5
 v5:=Tryz.zeroValue5
 t9:=Tryz.underlying9
 a9:=Tryz.isAgg9
 z9:=Tryz.sizeOf9
 v9:=Tryz.zeroValue9
 t21:=Tryz.underlying21
 a21:=Tryz.isAgg21
 z21:=Tryz.sizeOf21
 v21:=Tryz.zeroValue21
 t46:=Tryz.underlying276
 a46:=Tryz.isAgg276
 z46:=Tryz.sizeOf276
 v46:=Tryz.zeroValue276
 t105:=Tryz.underlying262
 a105:=Tryz.isAgg262
 z105:=Tryz.sizeOf262
 v105:=Tryz.zeroValue262
 t116:=Tryz.underlying232
 a116:=Tryz.isAgg232
 z116:=Tryz.sizeOf232
 t117:=Tryz.underlying233
 a117:=Tryz.isAgg233
 z117:=Tryz.sizeOf233
 v117:=Tryz.zeroValue233
 t119:=Tryz.underlying286
 a119:=Tryz.isAgg286
 z119:=Tryz.sizeOf286
 t124:=Tryz.underlying236
 a124:=Tryz.isAgg236
 z124:=Tryz.sizeOf236
 v124:=Tryz.zeroValue236
 t138:=Tryz.underlying288
 a138:=Tryz.isAgg288
 z138:=Tryz.sizeOf288
 v138:=Tryz.zeroValue288
 t139:=Tryz.underlying289
 a139:=Tryz.isAgg289
 z139:=Tryz.sizeOf289
 v139:=Tryz.zeroValue289
 g3:=by kernel_rfl
 g4:=by kernel_rfl }
end Go.Proofs
namespace Go.Proofs.YthliapbflkfdiacGreatDoor
open Go.RowKit Go.Shelf
def abc:List UInt8:=[97,98,99,100,101,102,103,104,105,106,107,108,109,110,111,112,113,114,115,116,117,118,119,120,121,122]
theorem QqO (c:UInt8):abc.contains c=QaX c:=by
 have h:∀n:Fin 256,abc.contains (UInt8.ofNat n.val)=QaX (UInt8.ofNat n.val):=by decide+kernel
 have:=h ⟨c.toNat,c.toNat_lt⟩;simpa using this
theorem QkL {p:UInt8→Bool} {a:UInt8} {t:List UInt8}:∀{l:List UInt8},l.dropWhile p=a::t→p a=false
 |[],h=>by cases h
 |x::r,h=>by
  cases hx:p x with
  |true=>rw [List.dropWhile_cons_of_pos hx] at h;exact QkL h
  |false=>rw [List.dropWhile_cons_of_neg (by simp [hx])] at h;cases h;exact hx
theorem Qgj {p:UInt8→Bool}:∀{l:List UInt8},l.dropWhile p=[]↔∀x∈l,p x=true
 |[]=>by simp
 |x::r=>by
  cases hx:p x with
  |true=>rw [List.dropWhile_cons_of_pos hx,Qgj];simp [hx]
  |false=>rw [List.dropWhile_cons_of_neg (by simp [hx])];simp [hx]
theorem Qq5 (l:List UInt8):(Lib.trimS l abc).isEmpty=l.all QaX:=by
 have e:(fun c=>abc.contains c)=QaX:=funext QqO;unfold Lib.trimS Lib.trimLeftS Lib.trimRightS;rw [e]
 cases h:l.all QaX with
 |true=>
  have h1:l.reverse.dropWhile QaX=[]:=by
   rw [Qgj];intro x hx;exact List.all_eq_true.1 h x (List.mem_reverse.1 hx)
  rw [h1];rfl
 |false=>
  cases h1:l.reverse.dropWhile QaX with
  |nil=>
   rw [Qgj] at h1;have:l.all QaX=true:=List.all_eq_true.2 fun x hx=>h1 x (List.mem_reverse.2 hx);rw [h] at this;cases this
  |cons a t=>
   have ha:=QkL h1
   cases h2:(a::t).reverse.dropWhile QaX with
   |nil=>
    rw [Qgj] at h2;have:=h2 a (List.mem_reverse.2 (List.mem_cons_self ..));rw [ha] at this;cases this
   |cons b u=>rfl
set_option maxHeartbeats 400000 in
theorem Qis (s:ByteArray) (w:World):Calls Tryz.prog 197 #[.string s] w fun e w'=>e= .returned (.bool (Qa5 s))∧Below w.heap.size w w':=by
 by_cases h0:s.data.toList=[33]
 ·have r:Qa5 s=true:=by simp [Qa5,h0]
  have h1:s.toList=[33]:=by rw [ByteArray.toList_eq];exact h0
  rw [r];clear r h0;go_enter Tryz.func197,Tryz.ntmps197;go_wp2_with fail;go_ret;exact ⟨rfl,Below.refl _ _⟩
 have h1:(s.toList==[33])=false:=by rw [ByteArray.toList_eq];simpa using h0
 by_cases h2:s.size<1
 ·have r:Qa5 s=false:=by simp [Qa5,h0];omega
  have h3:s.toList=[]:=by rw [ByteArray.toList_eq];exact List.eq_nil_of_length_eq_zero (by rw [Array.length_toList];exact Nat.lt_one_iff.1 h2)
  rw [r];clear r h0;go_enter Tryz.func197,Tryz.ntmps197;go_wp2_with fail;go_ret;exact ⟨rfl,Below.refl _ _⟩
 have h4:s.toList.isEmpty=false:=by
  rw [ByteArray.toList_eq]
  cases hl:s.data.toList with
  |nil=>
   have:s.size=0:=by
    have:=congrArg List.length hl;rw [Array.length_toList] at this;exact this
   omega
  |cons _ _=>rfl
 by_cases h3:8<s.size
 ·have r:Qa5 s=false:=by simp [Qa5,h0];omega
  rw [r];clear r h0;go_enter Tryz.func197,Tryz.ntmps197;go_wp2_with fail;go_ret;exact ⟨rfl,Below.refl _ _⟩
 have r:Qa5 s=s.data.toList.all QaX:=by
  have a:1≤s.size:=by omega
  have b:s.size≤8:=by omega
  simp [Qa5,h0,a,b]
 have hcon:=Any.strings_Trim_laid Tryz.lays160 Yc s ⟨#[97,98,99,100,101,102,103,104,105,106,107,108,109,110,111,112,113,114,115,116,117,118,119,120,121,122]⟩ w Ya Yg (ascii_of_all Yg);change Calls Tryz.prog 225 _ _ (fun e w'=>e= .returned (.string ⟨(Lib.trimS s.data.toList abc).toArray⟩)∧Below w.heap.size w w') at hcon
 have hr:(⟨(Lib.trimS s.data.toList abc).toArray⟩:ByteArray).toList.isEmpty=Qa5 s:=by rw [ByteArray.toList_eq,r];exact Qq5 _
 generalize (⟨(Lib.trimS s.data.toList abc).toArray⟩:ByteArray)=t at hcon hr;generalize hb:Qa5 s=nb at*;clear r hb h0;go_enter Tryz.func197,Tryz.ntmps197;go_wp2_with fail;refine hcon.mono ?_;rintro e w' ⟨rfl,hB⟩;go_wp2_with fail;go_ret;exact ⟨rfl,hB⟩
theorem Qdy:(Tryz.prog.info? 63).map (fun i=>(i.zero,i.size,i.bytes))=some (some (.agg #[.int .i64 0,.int .i64 0,.string .empty,.slice none 0 0]),4,56):=by kernel_rfl
def Qe9 (T : Ts) : Prop := ∀ (w : World) (v : Value), Sl w (fun _ => True) v T → T.nodes ≤ 1048576 →
    Calls Tryz.prog 14 #[v] w fun e w'=>∃v',e= .returned v'∧Sl w' (fun k=>w.heap.size≤k) v' T∧Below w.heap.size w w'
set_option maxHeartbeats 400000 in
theorem Qhq {ar:Ts} (ih:Qe9 ar) (hn:ar.nodes≤1048576) (k n:Int) (s:ByteArray) (v:Value) (w:World) (hv:Sl w (fun _=>True) v ar):
  Calls Tryz.prog 33 #[.agg #[.int .i64 k,.int .i64 n,.string s,v]] w fun e w'=>∃v',e= .returned (.agg #[.int .i64 k,.int .i64 n,.string s,v'])∧Sl w' (fun k=>w.heap.size≤k) v' ar∧Below w.heap.size w w':=by
 go_enter Tryz.func33,Tryz.ntmps33;go_wp2_with fail;refine (ih _ v ?_ hn).mono ?_
 ·exact hv.below (((Below.refl _ _).alloc (Nat.le_refl _) _).alloc Yd _)
 rintro e w1 ⟨v',rfl,hv',hb⟩;obtain ⟨a0,a1,a2,a3,af⟩:=(((QD.new w 63 #[.int .i64 k,.int .i64 n,.string s,v]).alloc _).below hb).four;obtain ⟨b0,b1,b2,b3,bf⟩:=((QD.new (w.alloc _) 63 _).below hb).four;simp only [World.size_alloc] at b0 b1 b2 b3 bf
 have hz:w.heap.size+1<w1.heap.size:=by have:=hb.size;simp at this;omega
 obtain ⟨A,c,rfl,h2⟩:=hv';go_wp2_with fail
 have hs:Below w.heap.size w (((((w1.setCell ⟨w.heap.size,3,none⟩ (.slice A ar.length c)).setCell ⟨w.heap.size+1,0,none⟩ (.int .i64 k)).setCell ⟨w.heap.size+1,1,none⟩ (.int .i64 n)).setCell ⟨w.heap.size+1,2,none⟩ (.string s)).setCell ⟨w.heap.size+1,3,none⟩ (.slice A ar.length c)):=by
  refine (((((Below.trans ?_ (hb.mono Yh)).setCell Yd _).setCell Yd _).setCell Yd _).setCell Yd _).setCell Yd _;exact ((Below.refl _ _).alloc (Nat.le_refl _) _).alloc Yd _
 refine bodyPost_ret (v:= .agg #[.int .i64 k,.int .i64 n,.string s,.slice A ar.length c]) (by simp [results,Tryz.results33,go_sem,b0,b1,b2,b3]) rfl ⟨_,rfl,?_,hs⟩
 have h3:Sl w1 (fun k=>w.heap.size+2≤k) (.slice A ar.length c) ar:=by
  refine Sl.imp ⟨A,c,rfl,h2⟩ fun k hk _=> ?_;simp at hk;omega
 refine (h3.keep (w':=_) fun k hk _=> ?_).imp fun k hk _=>by omega
 simp only [World.setCell,Array.getElem?_modify]
 repeat rw [if_neg Ya]
def Qer (w:World) (T:Ts) (A:Option Addr) (g:Nat) (s3 s8:Value) (wr:World):Prop:=
 ∃(D R:Ts) (xs:List Value),T=D.app R∧g=R.length∧s8= .int .i64 D.length∧wr.ownsRow w.heap.size 63 4 s3 D.length xs∧
  Cs wr (fun k=>w.heap.size≤k∧s3.ownBlock≠some k) D xs∧Below w.heap.size w wr∧(0<R.length→∃b o,A=some ⟨b,o,none⟩∧Seg w (fun _=>True) R b (o+4*D.length))
theorem Qer.start (w:World) (T:Ts) (A:Option Addr) (hs:0<T.length→∃b o,A=some ⟨b,o,none⟩∧Seg w (fun _=>True) T b o):
  Qer w T A T.length (.slice none 0 0) (.int .i64 0) w:=
 ⟨.nil,T,[],rfl,rfl,rfl,World.ownsRow_nil _ _ _ _,rfl,Below.refl _ _,fun h=>by simpa [Ts.length] using hs h⟩
theorem Qer.step {w wr W w3:World} {T D r:Ts} {A:Option Addr} {u3 v3:Value} {xs:List Value} {k n:Int} {s:ByteArray} {v:Value} {ar:Ts}
  (hT:T=D.app (.cons k n s ar r)) (hown:wr.ownsRow w.heap.size 63 4 u3 D.length xs)
  (hcs:Cs wr (fun k=>w.heap.size≤k∧u3.ownBlock≠some k) D xs) (hb:Below w.heap.size w wr) (hW:Below wr.heap.size wr W)
  (hv:Sl W (fun k=>wr.heap.size≤k) v ar) (ho3:w3.ownsRow w.heap.size 63 4 v3 (D.length+1) (xs++[.int .i64 k,.int .i64 n,.string s,v]))
  (hg:W.grownBy w3 u3.ownBlock) (hat:v3.ownBlock=u3.ownBlock∨v3.ownBlock=some W.heap.size)
  (hA:∃b o,A=some ⟨b,o,none⟩∧Seg w (fun _=>True) (.cons k n s ar r) b (o+4*D.length)):
  Qer w T A r.length v3 (.int .i64 ((D.length:Int)+1)) w3:=by
 have hlt:=hown.lt
 have hn:(D.app (.cons k n s ar .nil)).length=D.length+1:=by rw [Ts.length_app];rfl
 refine ⟨D.app (.cons k n s ar .nil),r,_,by rw [hT,Ts.app_assoc];rfl,rfl,by rw [hn];rfl,by rw [hn];exact ho3,?_,?_,fun _=> ?_⟩
 ·have h1:Cs W (fun k=>(w.heap.size≤k∧v3.ownBlock≠some k)∧u3.ownBlock≠some k) (D.app (.cons k n s ar .nil)) (xs++[.int .i64 k,.int .i64 n,.string s,v]):=by
   refine Cs.app ?_ ⟨v,[],rfl,?_,rfl⟩
   ·refine (hcs.imp (q:=fun k=>(w.heap.size≤k∧v3.ownBlock≠some k)∧u3.ownBlock≠some k) fun k hk hl=>⟨⟨hk.1,?_⟩,hk.2⟩).below hW;rcases hat with e|e<;>rw [e]
    ·exact hk.2
    ·intro e2;have:=hW.size;simp at e2;omega
   ·refine hv.imp fun k hk hl=>⟨⟨?_,?_⟩,?_⟩
    ·have:=hb.size;omega
    ·rcases hat with e|e<;>rw [e]
     ·intro e2;have:=(hlt k e2).2;omega
     ·intro e2;simp at e2;omega
    ·intro e2;have:=(hlt k e2).2;omega
  exact (h1.keep fun k hk hl=>hg.block k hl (fun e=>hk.2 e.symm)).imp fun k hk _=>hk.1
 ·exact (hb.trans (hW.mono hb.size)).grown hg (by have:=hb.size;have:=hW.size;omega) fun k hk=>(hlt k hk).1
 ·obtain ⟨b,o,e,hs⟩:=hA;refine ⟨b,o,e,?_⟩;rw [hn,show o+4*(D.length+1)=o+4*D.length+4 by omega];exact (QL.1 hs).2.2.2.2.2
set_option maxHeartbeats 400000 in
theorem Qk0 (m:Nat) (ih:∀T:Ts,T.nodes<m→Qe9 T) (T:Ts) (hm:T.nodes≤m):Qe9 T:=by
 intro w v hv hn;obtain ⟨A,c,rfl,hc,hs⟩:=hv;have hl:=T.length_le;have h0:=Qer.start w T A hs;clear hs;obtain ⟨i0,hi0,hz0,hz1,hz2⟩:=info_parts Qdy;go_enter Tryz.func14,Tryz.ntmps14;go_wp2_with fail;go_loopg [3,8] T.length (Qer w T A)
 case atStart=>exact h0
 case round=>
  clear h0;obtain ⟨D,R,xs,hT,hg,rfl,hown,hcs,hb,hseg⟩:=hrel
  cases R with
  |nil=>
   have e:D.length=T.length:=by rw [hT,Ts.app_nil]
   have hsl:Sl wr (fun k=>w.heap.size≤k) u3 T:=by
    have h1:D=T:=by rw [hT,Ts.app_nil]
    subst h1;exact Sl.own hown (hcs.imp fun k hk _=>hk.1) fun g hg=>(hown.lt g hg).1
   go_wp2_with fail;go_ret;exact ⟨_,rfl,hsl,hb⟩
  |cons k n s ar r=>
   have e:D.length<T.length:=by rw [hT,Ts.length_app];simp [Ts.length]
   have e2:ar.nodes<m:=by rw [hT,Ts.nodes_app] at hm;simp [Ts.nodes] at hm;omega
   have e3:ar.nodes≤1048576:=by rw [hT,Ts.nodes_app] at hn;simp [Ts.nodes] at hn;omega
   obtain ⟨b,o,rfl,hsg⟩:=hseg Y1;have HT:=Lib.hid hT;have HG:=Lib.hid hg;clear hT hseg hg;obtain ⟨_,c0,c1,c2,⟨v,c3,hv⟩,hsr⟩:=QL.1 ((hsg.imp (q:=fun k=>k<w.heap.size) fun _ _ h=>h).keep (w':=wr) fun k hk _=>hb.block k hk);rw [Nat.mul_comm 4] at c0 c1 c2 c3;obtain ⟨Av,cv,rfl,hv⟩:=hv.form;go_wp2_with fail;refine (Qhq (ih ar e2) e3 k n s _ _ ?_).mono ?_
   ·exact hv.any.below ((Below.refl _ _).alloc (Nat.le_refl _) _)
   rintro e w2 ⟨v',rfl,hv',hb2⟩;obtain ⟨Aw,cw,rfl,hv'⟩:=hv'.form
   have hW:Below wr.heap.size wr (w2.alloc (.cells #[.int .i64 k,.int .i64 n,.string s,.slice Aw ar.length cw] 63)):=
    (((Below.refl _ _).alloc (Nat.le_refl _) _).trans (hb2.mono Yd)).alloc (by have:=hb2.size;simp at this;omega) _
   have hbz:w.heap.size≤w2.heap.size:=by have:=hb.size;have:=hb2.size;simp at this;omega
   have hvW:=hv'.below (((Below.refl _ w2).alloc (Nat.le_refl _) (.cells #[.int .i64 k,.int .i64 n,.string s,.slice Aw ar.length cw] 63)));go_wp2_with (at_builtin;refine Qao _ rfl (.tmp 12) (.tmp 15) _ rfl w.heap.size 63 i0 _ 4 56 Tryz.underlying23 hi0 hz0 hz1 hz2 rfl Ya u3 D.length xs rfl (Qg4 hown hW) ⟨w2.heap.size,0,none⟩ 1 1 [.int .i64 k,.int .i64 n,.string s,.slice Aw ar.length cw] rfl rfl ?cells Yap Yk Ya Yh ?next)
   case cells=>exact Qe2 w2 [.int .i64 k,.int .i64 n,.string s,.slice Aw ar.length cw] 63
   case next=>
    intro v3 w3 ho3 hg3 hat3;go_wp2_with fail;go_roundg r.length
    case measure=>rw [HG.out];simp [Ts.length]
    case rel=>exact Qer.step HT.out hown hcs hb hW (hvW.imp fun k hk _=>by simp at hk;omega) ho3 hg3 (by simpa using hat3) ⟨b,o,rfl,hsg⟩
theorem Qhp (T:Ts):Qe9 T:=by
 have:∀m,∀T:Ts,T.nodes<m→Qe9 T:=by
  intro m
  induction m with
  |zero=>intro T h;omega
  |succ m ih=>intro T h;exact Qk0 m ih T Ya
 exact this _ T (Nat.lt_succ_self _)
theorem Qol:(Tryz.prog.info? 23).map (fun i=>(i.zero,i.size,i.bytes))=some (some (.slice none 0 0),1,24):=by kernel_rfl
theorem Qdp {P:Program} (w:World) (d:Nat) (t e:TypeId) (a:Option Addr) (l c:Nat) (h:P.underlying t=some (.slice e)):(Op.equalIn (d+1) t (.slice a l c) (.slice none 0 0)).run P w= .ok a.isNone w:=by
 cases a<;>simp [Op.equalIn,run_underlying h]
theorem Qef {P:Program} (w:World) (t e:TypeId) (a:Option Addr) (l c:Nat) (h:P.underlying t=some (.slice e)):(Op.equal t (.slice a l c) (.slice none 0 0)).run P w= .ok a.isNone w:=Qdp w 9999 t e a l c h
theorem run_eql_slice_nil {P:Program} (w:World) (t e:TypeId) (a:Option Addr) (l c:Nat) (h:P.underlying t=some (.slice e)):(binOp .eql t (.slice a l c) (.slice none 0 0)).run P w= .ok (.bool a.isNone) w:=by
 simp [binOp,Qef w t e a l c h]
structure Qak (w:World) (B pb:Nat) (pv:Value) (xs:List Value):Prop where
 var:QD w pb 182 #[pv]
 own:w.ownsRow B 23 1 pv xs.length xs
 apart:pv.ownBlock≠some pb
theorem QD.ne_ {w:World} {g g':Nat} {t t':TypeId} {cs cs':Array Value} (h:QD w g t cs) (h':QD w g' t' cs') (hne:t≠t'):g≠g':=by
 rintro rfl;unfold QD at h h';rw [h] at h';injection h' with h';injection h' with _ ht;exact hne ht
theorem Qak.chg {S:Nat→Prop} {w w':World} {B pb:Nat} {pv:Value} {xs:List Value} (h:Qak w B pb pv xs) (hc:Chg S w w') (h1:¬S pb) (h2:∀g,pv.ownBlock=some g→¬S g):Qak w' B pb pv xs:=
 ⟨h.var.chg hc h1,QlO h.own hc h2,h.apart⟩
theorem Qak.other {w:World} {B pb b:Nat} {pv:Value} {xs:List Value} {cur:Array Value} (h:Qak w B pb pv xs) (hb:QD w b 63 cur):b≠pb∧pv.ownBlock≠some b:=by
 refine ⟨hb.ne_ h.var Yg,fun e=> ?_⟩;rcases h.own.2 with ⟨e1,_⟩|⟨g,cap,cur',e1,_,hh,_⟩
 ·rw [e1] at e;simp [Value.ownBlock] at e
 ·rw [e1] at e;simp only [Value.ownBlock,Option.some.injEq] at e;subst e;exact hb.ne_ (t':=23) hh Yg rfl
theorem Qak.set {w:World} {B pb b i:Nat} {pv u:Value} {xs:List Value} {cur:Array Value} (h:Qak w B pb pv xs) (hb:QD w b 63 cur):Qak (w.setCell ⟨b,i,none⟩ u) B pb pv xs:=by
 obtain ⟨h1,h2⟩:=h.other hb;exact h.chg ((Chg.refl (fun k=>k=b) w).setCell (fun _=>rfl) u) (fun e=>h1 e.symm) fun g hg e=>h2 (by rw [hg,e])
theorem Qak.keep {w w':World} {B pb k:Nat} {pv:Value} {xs:List Value} {cur:Array Value} (h:Qak w B pb pv xs) (hc:Chg (fun k=>k=pb∨pv.ownBlock=some k) w w') (hk:QD w k 63 cur):QD w' k 63 cur:=by
 obtain ⟨h1,h2⟩:=h.other hk;exact hk.chg hc fun hS=>hS.elim h1 h2
set_option maxHeartbeats 400000 in
theorem QlT (k n:Int) (s:ByteArray) (A:Option Addr) (l c:Nat) (w:World):
  Calls Tryz.prog 133 #[.agg #[.int .i64 k,.int .i64 n,.string s,.slice A l c]] w fun e w'=>e= .returned (.slice (some ⟨w.heap.size+2,0,none⟩) 1 1)∧
   w'=((w.alloc (.cells #[.int .i64 k,.int .i64 n,.string s,.slice A l c] 63)).alloc (.cells #[.int .i64 k,.int .i64 n,.string s,.slice A l c] 63)).alloc (.cells #[.slice (some ⟨w.heap.size+1,0,none⟩) 1 1] 23):=by
 go_enter Tryz.func133,Tryz.ntmps133;go_wp2_with fail;go_ret;exact ⟨rfl,rfl⟩
set_option maxHeartbeats 400000 in
theorem QpO {w:World} {B pb:Nat} {pv:Value} {ys:List Value} {b o cap:Nat} (hp:Qak w B pb pv (ys++[.slice (some ⟨b,o,none⟩) 1 cap])) (hn:ys.length≤1073741824):
  Calls Tryz.prog 134 #[.pointer (some ⟨pb,0,none⟩)] w fun e w'=>e= .returned (.pointer (some ⟨b,o,none⟩))∧
   ∃pv',Qak w' B pb pv' ys∧pv'.ownBlock=pv.ownBlock∧Chg (fun k=>k=pb∨pv.ownBlock=some k) w w':=by
 obtain ⟨hv,ho,ha⟩:=hp;rcases ho.2 with ⟨_,h0⟩|⟨g,cp,cur,rfl,hg,hh,hnc,hcm,hcs,htk⟩
 ·simp at h0
 have c0:w.cell? ⟨pb,0,none⟩=some (.slice (some ⟨g,0,none⟩) (ys++[Value.slice (some ⟨b,o,none⟩) 1 cap]).length cp):=hv.cell 0;have f0:w.frozen? ⟨pb,0,none⟩=false:=hv.frozen 0
 have c1:w.cell? ⟨g,ys.length,none⟩=some (.slice (some ⟨b,o,none⟩) 1 cap):=by
  rw [ho.cellAt _ Yd];simp
 simp only [List.length_append,List.length_cons,List.length_nil,Nat.zero_add] at c0 hnc;have hgp:g≠pb:=fun e=>ha (by rw [e];rfl)
 have hfin:Qak (w.setCell ⟨pb,0,none⟩ (.slice (some ⟨g,0,none⟩) ys.length cp)) B pb (.slice (some ⟨g,0,none⟩) ys.length cp) ys:=by
  refine ⟨hv.set_ 0 _,⟨by simp,.inr ⟨g,cp,cur,rfl,hg,(Below.heap_setCell _ _ _ _ hgp).trans hh,by omega,hcm,hcs,?_⟩⟩,by simpa [Value.ownBlock] using hgp⟩;have:=congrArg (List.take (ys.length*1)) htk;rw [List.take_take] at this;simpa [Nat.min_eq_left] using this
 have hchg:Chg (fun k=>k=pb∨(Value.slice (some ⟨g,0,none⟩) (ys++[Value.slice (some ⟨b,o,none⟩) 1 cap]).length cp).ownBlock=some k) w (w.setCell ⟨pb,0,none⟩ (.slice (some ⟨g,0,none⟩) ys.length cp)):=
  (Chg.refl _ _).setCell (fun _=> .inl rfl) _
 clear hv ho ha htk;go_enter Tryz.func134,Tryz.ntmps134;go_wp2_with fail;go_ret;exact ⟨rfl,_,hfin,rfl,hchg⟩
set_option maxHeartbeats 400000 in
theorem QpN {w:World} {B pb:Nat} {pv:Value} {ys:List Value} {b o l cap:Nat} (hp:Qak w B pb pv (ys++[.slice (some ⟨b,o,none⟩) (l+2) cap])) (hn:ys.length≤1073741824) (hl:l≤1073741824) (hc:l+2≤cap):
  Calls Tryz.prog 134 #[.pointer (some ⟨pb,0,none⟩)] w fun e w'=>e= .returned (.pointer (some ⟨b,o,none⟩))∧
   ∃pv',Qak w' B pb pv' (ys++[.slice (some ⟨b,o+4,none⟩) (l+1) (cap-1)])∧pv'.ownBlock=pv.ownBlock∧Chg (fun k=>k=pb∨pv.ownBlock=some k) w w':=by
 obtain ⟨hv,ho,ha⟩:=hp;rcases ho.2 with ⟨_,h0⟩|⟨g,cp,cur,rfl,hg,hh,hnc,hcm,hcs,htk⟩
 ·simp at h0
 have c0:w.cell? ⟨pb,0,none⟩=some (.slice (some ⟨g,0,none⟩) (ys++[Value.slice (some ⟨b,o,none⟩) (l+2) cap]).length cp):=hv.cell 0
 have c1:w.cell? ⟨g,ys.length,none⟩=some (.slice (some ⟨b,o,none⟩) (l+2) cap):=by
  rw [ho.cellAt _ Yd];simp
 have f1:w.frozen? ⟨g,ys.length,none⟩=false:=ho.frozenAt _;simp only [List.length_append,List.length_cons,List.length_nil,Nat.zero_add] at c0 hnc;have hgp:g≠pb:=fun e=>ha (by rw [e];rfl);have hst:=(ho.stored ys.length (.slice (some ⟨b,o+4,none⟩) (l+1) (cap-1))).1
 have hfin:Qak (w.setCell ⟨g,ys.length,none⟩ (.slice (some ⟨b,o+4,none⟩) (l+1) (cap-1))).drew B pb (.slice (some ⟨g,0,none⟩) (ys.length+1) cp) (ys++[.slice (some ⟨b,o+4,none⟩) (l+1) (cap-1)]):=by
  refine ⟨?_,?_,by simpa [Value.ownBlock] using hgp⟩
  ·have:=hv.far (p:=⟨g,ys.length,none⟩) (Ne.symm hgp) (.slice (some ⟨b,o+4,none⟩) (l+1) (cap-1));simp only [List.length_append,List.length_cons,List.length_nil,Nat.zero_add] at this;exact this
  ·simp at hst;have e:(ys++[Value.slice (some ⟨b,o+4,none⟩) (l+1) (cap-1)]).length=ys.length+1:=by simp
   rw [e];exact hst
 have hchg:Chg (fun k=>k=pb∨(Value.slice (some ⟨g,0,none⟩) (ys++[Value.slice (some ⟨b,o,none⟩) (l+2) cap]).length cp).ownBlock=some k) w (w.setCell ⟨g,ys.length,none⟩ (.slice (some ⟨b,o+4,none⟩) (l+1) (cap-1))).drew:=
  ((Chg.refl _ _).setCell (fun _=> .inr rfl) _).drew
 have hl1:(((l+2:Nat):Int)==1)=false:=by rw [beq_eq_false_iff_ne];omega
 clear hv ho ha htk hst;go_enter Tryz.func134,Tryz.ntmps134;go_wp2_with fail;go_region;go_wp2_with fail;go_ret;exact ⟨rfl,_,hfin,rfl,hchg⟩
set_option maxHeartbeats 400000 in
theorem QrY {w:World} (v:Value) (A:Option Addr) (c:Nat):Calls Tryz.prog 136 #[v,.slice A 0 c] w fun e w'=>e= .returned (.tuple #[])∧w=w':=by
 go_enter Tryz.func136,Tryz.ntmps136;go_wp2_with fail;go_end0;exact ⟨rfl,rfl⟩
set_option maxHeartbeats 400000 in
theorem QrX {w:World} {B pb:Nat} {pv:Value} {xs:List Value} {A:Option Addr} {l c:Nat} (hp:Qak w B pb pv xs) (hB:B≤w.heap.size) (hn:xs.length≤1073741824):
  Calls Tryz.prog 136 #[.pointer (some ⟨pb,0,none⟩),.slice A (l+1) c] w fun e w'=>e= .returned (.tuple #[])∧
   ∃pv',Qak w' B pb pv' (xs++[.slice A (l+1) c])∧(pv'.ownBlock=pv.ownBlock∨∃g,pv'.ownBlock=some g∧w.heap.size≤g)∧Chg (fun k=>k=pb∨pv.ownBlock=some k) w w':=by
 obtain ⟨hv,ho,ha⟩:=hp;obtain ⟨i0,hi0,hz0,hz1,hz2⟩:=info_parts Qol;have c0:w.cell? ⟨pb,0,none⟩=some pv:=hv.cell 0;have hW:Below w.heap.size w (w.alloc (.cells #[.slice A (l+1) c] 23)):=(Below.refl _ _).alloc (Nat.le_refl _) _;have ho':=Qg4 ho hW;have hlt:=hv.lt;have HB:=Lib.hid ha;clear ha;go_enter Tryz.func136,Tryz.ntmps136;go_wp2_with (at_builtin;refine Qao _ rfl (.tmp 10) (.tmp 12) _ rfl B 23 i0 _ 1 24 Tryz.underlying182 hi0 hz0 hz1 hz2 rfl Ya pv xs.length xs rfl ho' ⟨w.heap.size,0,none⟩ 1 1 [.slice A (l+1) c] rfl rfl (Qe2 w [.slice A (l+1) c] 23) Yap Yk Ya Yh ?next)
 case next=>
  intro v' w' hov hg hat;have cp:QD w' pb 182 #[pv]:=(hv.alloc _).grown hg (fun e=>HB.out e.symm);have c1:w'.cell? ⟨pb,0,none⟩=some pv:=cp.cell 0;have f1:w'.frozen? ⟨pb,0,none⟩=false:=cp.frozen 0;rcases hov.2 with ⟨_,h0⟩|⟨g,cap,cur,rfl,hgB,hh,hnc,hcm,hcs,htk⟩
  ·omega
  have hne:g≠pb:=by
   rcases hat with e|e
   ·intro e2;subst e2;exact HB.out e.symm
   ·simp [Value.ownBlock] at e;omega
  have hfin:Qak (w'.setCell ⟨pb,0,none⟩ (.slice (some ⟨g,0,none⟩) (xs.length+1) cap)) B pb (.slice (some ⟨g,0,none⟩) (xs.length+1) cap) (xs++[.slice A (l+1) c]):=by
   refine ⟨cp.set_ 0 _,?_,by simpa [Value.ownBlock] using hne⟩;have:=ownsRow_setCell_other hov (a:=⟨pb,0,none⟩) (by simpa [Value.ownBlock] using hne) (.slice (some ⟨g,0,none⟩) (xs.length+1) cap);simpa using this
  have hat':(Value.slice (some ⟨g,0,none⟩) (xs.length+1) cap).ownBlock=pv.ownBlock∨∃g',(Value.slice (some ⟨g,0,none⟩) (xs.length+1) cap).ownBlock=some g'∧w.heap.size≤g':=by
   rcases hat with e|e
   ·exact .inl e
   ·exact .inr ⟨_,e,by omega⟩
  have hchg:Chg (fun k=>k=pb∨pv.ownBlock=some k) w (w'.setCell ⟨pb,0,none⟩ (.slice (some ⟨g,0,none⟩) (xs.length+1) cap)):=by
   refine Chg.setCell ?_ (fun _=> .inl rfl) _;exact ((Chg.refl _ w).alloc _).trans (Chg.of_grown hg) fun k _ e=> .inr e
  have HX:=Lib.hid hat';clear hat hat' htk hov;go_wp2_with fail;go_end0;exact ⟨rfl,_,hfin,HX.out,hchg⟩
def Raw (w:World) (v:Value) (l:Nat) (xs:List Value):Prop:=
 ∃A c,v= .slice A l c∧l≤c∧xs.length=l*4∧(∀u∈xs,u.oneCell'=true)∧(0<l→∃b o,A=some ⟨b,o,none⟩∧∀j u,xs[j]?=some u→w.cell? ⟨b,o+j,none⟩=some u)
theorem Sl.raw {w:World} {p:Nat→Prop} {v:Value} {T:Ts} (h:Sl w p v T):∃xs,Raw w v T.length xs∧Cs w p T xs:=by
 obtain ⟨A,c,rfl,hc,hs⟩:=h;rcases Nat.eq_zero_or_pos T.length with h|h
 ·rw [Ts.nil_of_length h];exact ⟨[],⟨A,c,rfl,Nat.zero_le _,rfl,fun u hu=>(by cases hu),fun h=>absurd h (Nat.lt_irrefl _)⟩,rfl⟩
 ·obtain ⟨b,o,e,hseg⟩:=hs h;obtain ⟨xs,h1,h2⟩:=hseg.cells;exact ⟨xs,⟨A,c,rfl,hc,h1.length,h1.one,fun _=>⟨b,o,e,h2⟩⟩,h1⟩
set_option maxHeartbeats 400000 in
theorem Qk1 {w:World} {v:Value} {l:Nat} {xs:List Value} (hv:Raw w v l xs) (hn:l≤1073741824):
  Calls Tryz.prog 179 #[v] w fun e w'=>∃v',e= .returned v'∧w'.ownsRow w.heap.size 63 4 v' l xs∧Below w.heap.size w w':=by
 obtain ⟨A,c,rfl,hc,hlen,hone,hs⟩:=hv;have hnil:∀W,(binOp .eql 23 (.slice A l c) (.slice none 0 0)).run Tryz.prog W= .ok (.bool A.isNone) W:=fun W=>run_eql_slice_nil W _ _ A _ c Tryz.underlying23
 cases A with
 |none=>
  have hl:l=0:=by
   rcases Nat.eq_zero_or_pos l with h|h
   ·exact h
   ·obtain ⟨b,o,e,_⟩:=hs h;cases e
  subst hl;have hx:xs=[]:=List.eq_nil_of_length_eq_zero (by simpa using hlen);subst hx;clear hlen hs hone;go_enter Tryz.func179,Tryz.ntmps179;go_wp2_with fail;go_ret;exact ⟨_,rfl,World.ownsRow_nil _ _ _ _,Below.refl _ _⟩
 |some a=>
  obtain ⟨i0,hi0,hz0,hz1,hz2⟩:=info_parts Qdy
  have hcell:∀j u,xs[j]?=some u→w.cell? (a.add j)=some u:=by
   rcases Nat.eq_zero_or_pos l with h|h
   ·have hx:xs=[]:=List.eq_nil_of_length_eq_zero (by simpa [h] using hlen);subst hx;intro j u hu;simp at hu
   ·obtain ⟨b,o,e,h2⟩:=hs h;simp only [Option.some.injEq] at e;subst e;intro j u hu;have:=h2 j u hu;by_cases hj:j=0
    ·subst hj;simpa [Addr.add] using this
    ·simpa [Addr.add,hj] using this
  have hW:Below w.heap.size w (w.alloc (.cells #[] 63)):=(Below.refl _ _).alloc (Nat.le_refl _) _
  have ho:(w.alloc (.cells #[] 63)).ownsRow w.heap.size 63 4 (.slice (some ⟨w.heap.size,0,none⟩) 0 0) 0 []:=by
   simpa using World.ownsRow_lit (base:=w.heap.size) (e:=63) (size:=4) w #[] 0 (Nat.le_refl _) (by simp [maxLen]) Yd
  have hcell':∀j u,xs[j]?=some u→(w.alloc (.cells #[] 63)).cell? (a.add j)=some u:=fun j u hu=>(hW.cell (QaS (hcell j u hu))).trans (hcell j u hu);have H1:=Lib.hid hcell';have H2:=Lib.hid hone;have H3:=Lib.hid hlen;clear hcell hcell' hs hone hlen;go_enter Tryz.func179,Tryz.ntmps179;go_wp2_with (at_builtin;refine Qao _ rfl (.tmp 5) (.tmp 6) _ rfl w.heap.size 63 i0 _ 4 56 Tryz.underlying23 hi0 hz0 hz1 hz2 rfl Ya _ 0 [] rfl ho a l c xs rfl H3.out H1.out H2.out Yk Ya Yd ?next)
  case next=>
   intro v' w' hov hg hat
   have hb:Below w.heap.size w w':=by
    refine hW.grown hg Yd fun k hk=> ?_;simp [Value.ownBlock] at hk;omega
   go_wp2_with fail;go_ret;exact ⟨_,rfl,by simpa using hov,hb⟩
structure Lev where
 b:Nat
 o:Nat
 T:Ts
def push (T:Ts) (b o:Nat) (L:List Lev):List Lev:=if T.length=0 then L else ⟨b,o,T⟩::L
def QJ (L:List Lev):Nat:=(L.map fun l=>l.T.nodes).sum
theorem QT (T:Ts) (b o:Nat) (L:List Lev):QJ (push T b o L)=T.nodes+QJ L:=by
 unfold push;split
 ·rename_i h;rw [Ts.nil_of_length h];simp [Ts.nodes]
 ·simp [QJ]
def PV:List Lev→List Value→Prop
 |[],xs=>xs=[]
 |l::r,xs=>∃ys cap,xs=ys++[.slice (some ⟨l.b,l.o,none⟩) l.T.length cap]∧l.T.length≤cap∧0<l.T.length∧PV r ys
theorem PV.length:∀{L:List Lev} {xs:List Value},PV L xs→xs.length=L.length
 |[],xs,h=>by rw [show xs=[] from h];rfl
 |l::r,xs,⟨ys,cap,e,_,_,h⟩=>by rw [e];simp [h.length]
theorem PV.le:∀{L:List Lev} {xs:List Value},PV L xs→L.length≤QJ L
 |[],xs,h=>by simp [QJ]
 |l::r,xs,⟨ys,cap,e,_,h0,h⟩=>by
  have:=h.le;have:=l.T.length_le;simp only [List.length_cons,QJ,List.map_cons,List.sum_cons] at*;omega
theorem QmZ {w:World} {B pb:Nat} {pv:Value} {xs:List Value} {b o:Nat} {k n:Int} {s:ByteArray} {ar r:Ts} {L:List Lev} (hp:Qak w B pb pv xs) (hv:PV (⟨b,o,.cons k n s ar r⟩::L) xs) (hn:QJ (⟨b,o,.cons k n s ar r⟩::L)≤1073741824):
  Calls Tryz.prog 134 #[.pointer (some ⟨pb,0,none⟩)] w fun e w'=>e= .returned (.pointer (some ⟨b,o,none⟩))∧
   ∃pv' xs',Qak w' B pb pv' xs'∧PV (push r b (o+4) L) xs'∧pv'.ownBlock=pv.ownBlock∧Chg (fun k=>k=pb∨pv.ownBlock=some k) w w':=by
 have hle:=hv.le;obtain ⟨ys,cap,rfl,hcap,_,hys⟩:=hv;have hyl:=hys.length;have hrl:=r.length_le;simp only [List.length_cons,QJ,List.map_cons,List.sum_cons,Ts.nodes] at hle hn;simp only [Ts.length] at hp hcap
 cases hr:r.length with
 |zero=>
  rw [hr] at hp;refine (QpO hp Ya).mono ?_;rintro e w' ⟨he,pv',h1,h2,h3⟩;exact ⟨he,pv',ys,h1,by simpa [push,hr] using hys,h2,h3⟩
 |succ l=>
  rw [hr] at hp hcap;refine (QpN hp Ya Ya hcap).mono ?_;rintro e w' ⟨he,pv',h1,h2,h3⟩;refine ⟨he,pv',_,h1,?_,h2,h3⟩;have e:push r b (o+4) L=⟨b,o+4,r⟩::L:=by simp [push,hr]
  rw [e];exact ⟨ys,cap-1,by rw [hr],by show r.length≤_;omega,by show 0<r.length;omega,hys⟩
theorem Qmk {w:World} {B pb:Nat} {pv:Value} {xs:List Value} {A:Option Addr} {c:Nat} {T:Ts} {b o:Nat} {L:List Lev} (hp:Qak w B pb pv xs) (hv:PV L xs) (hB:B≤w.heap.size) (hn:QJ L≤1073741824) (hc:T.length≤c) (hA:0<T.length→A=some ⟨b,o,none⟩):
  Calls Tryz.prog 136 #[.pointer (some ⟨pb,0,none⟩),.slice A T.length c] w fun e w'=>e= .returned (.tuple #[])∧
   ∃pv' xs',Qak w' B pb pv' xs'∧PV (push T b o L) xs'∧(pv'.ownBlock=pv.ownBlock∨∃g,pv'.ownBlock=some g∧w.heap.size≤g)∧Chg (fun k=>k=pb∨pv.ownBlock=some k) w w':=by
 have hle:=hv.le;have hyl:=hv.length
 cases hl:T.length with
 |zero=>
  refine (QrY _ _ _).mono ?_;rintro e w' ⟨he,rfl⟩;exact ⟨he,pv,xs,hp,by simpa [push,hl] using hv,.inl rfl,Chg.refl _ _⟩
 |succ l=>
  refine (QrX hp hB Ya).mono ?_;rintro e w' ⟨he,pv',h1,h2,h3⟩;refine ⟨he,pv',_,h1,?_,h2,h3⟩;have e:push T b o L=⟨b,o,T⟩::L:=by simp [push,hl]
  rw [e];refine ⟨xs,c,?_,hc,by show 0<T.length;omega,hv⟩;rw [hA Ya,hl]
end Go.Proofs.YthliapbflkfdiacGreatDoor
