/- Steps of the proof. -/
import Derived.Test.YthliapbflkfdiacGreatDoorG0
import Derived.Test.YthliapbflkfdiacGreatDoorProg
set_option linter.unusedVariables false
set_option linter.unusedSimpArgs false
set_option maxRecDepth 100000
set_option maxHeartbeats 1000000
namespace Go.Proofs.YthliapbflkfdiacGreatDoor
open Go.Proofs.Tryz
open Go.RowKit
inductive Row(el sz:Nat):TH->Nat->T5->T0->Prop
 |nil_:Row el sz (.slice none 0 0) 0 [] []
 |own_ {b len cap:Nat} {xs sp:T5} (hx:xs.length=len*sz) (hc:(xs++sp).length=cap*sz) (oW:len<=cap) (tJ:0<cap):Row el sz (.slice (some ⟨b,0,none⟩) len cap) len xs [(b,.cells (xs++sp).toArray el)]
theorem Row.len_{el sz len:Nat}{v:TH}{xs:T5}{O:T0}(h:Row el sz v len xs O):xs.length=len*sz:=by
 cases h with
 |nil_=>simp
 |own_ hx _ _ _=>exact hx
theorem Row.form{el sz len:Nat}{v:TH}{xs:T5}{O:T0}(h:Row el sz v len xs O):∃A c,v= .slice A len c:=by
 cases h with
 |nil_=>grind
 |own_ _ _ _ _=>grind
theorem Row.built{el sz b len:Nat}{xs:T5}(hx:xs.length=len*sz)(hp:0<len):Row el sz (.slice (some ⟨b,0,none⟩) len len) len xs [(b,.cells xs.toArray el)]:=by
 have:=Row.own_ (el:=el) (sz:=sz) (b:=b) (len:=len) (cap:=len) (xs:=xs) (sp:=[]) hx (by grind) (XF _) hp;grind
section
variable{M:T6}{w0 w w':TG}{H H':T0}{F:T3}
theorem St.perm(h:St M w0 H F w)(hp:H.Perm H'):St M w0 H' F w:=
 ⟨fun p hq=>h.own p (hp.mem_iff.2 hq),(hp.pairwise_iff (fun{x y} Gj=>JS Gj)).1 h.apart,h.ext,fun p hq=>h.new p (hp.mem_iff.2 hq),
  fun φ hφ w2 hw=>h.facts φ hφ w2 (hw.mono fun k _ hk=>(hp.map _).mem_iff.2 hk)⟩
theorem St.sink{x:Nat×Obj}{L:T0}(h:St M w0 (x::(L++H)) F w):St M w0 (L++x::H) F w:=h.perm VP.symm
theorem St.raise{x:Nat×Obj}{L:T0}(h:St M w0 (L++x::H) F w):St M w0 (x::(L++H)) F w:=h.perm VP
theorem St.sink1{x p:Nat×Obj}{L:T0}(h:St M w0 (x::p::(L++H)) F w):St M w0 (p::(L++x::H)) F w:=h.perm (VP (l₁:=p::L)).symm
theorem St.raise1{x p:Nat×Obj}{L:T0}(h:St M w0 (p::(L++x::H)) F w):St M w0 (x::p::(L++H)) F w:=h.perm (VP (l₁:=p::L))
theorem St.raise2{x y p:Nat×Obj}{L:T0}(h:St M w0 (y::p::(L++x::H)) F w):St M w0 (x::y::p::(L++H)) F w:=h.perm (VP (l₁:=y::p::L))
theorem St.up3{x y p:Nat×Obj}(h:St M w0 (x::y::p::H) F w):St M w0 (p::x::y::H) F w:=h.perm (VP (l₁:=[x,y]))
theorem St.down3{x y p:Nat×Obj}(h:St M w0 (p::x::y::H) F w):St M w0 (x::y::p::H) F w:=h.perm (VP (l₁:=[x,y])).symm
theorem St.swap{x p:Nat×Obj}(h:St M w0 (x::p::H) F w):St M w0 (p::x::H) F w:=h.perm (List.Perm.swap _ _ _)
theorem St.dropL{L:T0}(h:St M w0 (L++H) F w):St M w0 H F w:=by
 induction L with
 |nil=>exact h
 |cons x L ih=>exact ih h.drop
end
theorem ZL{b:Nat}{ct:TypeId}:∀(vs:T5) (o:Nat) (cs:T5) (w:TG),w.heap[b]?=some (.cells cs.toArray ct)->o+vs.length<=cs.length->
  (w.setCells b o vs).heap[b]?=some (.cells (cs.take o++vs++cs.drop (o+vs.length)).toArray ct)/\BK [b] w (w.setCells b o vs)
 |[],o,cs,w,h,hl=>by simp_all[World.setCells,BK.refl]
 |v::r,o,cs,w,h,hl=>by
  simp only[XJ]at hl;have h1:=Qjo h o v;obtain⟨h2,h3⟩:=ZL r (o+1) (cs.set o v) _ h1 Yg;refine⟨?_,(Qjp b o v).trans h3⟩;unfold World.setCells;rw[h2];congr 3;have ho:o<cs.length:=by omega
  rw[List.take_set,List.drop_set,XB Ya]
  have:(cs.take (o+1)).set o v=cs.take o++[v]:=by
   rw[Xbp ho,List.set_append_right _ _ Yg];simp_all[JM]
  grind
def CV(l:AA):T5:=l.map fun b=>Value.int .u8 b.toNat
section
variable{P:Program}{n:Nat}{e:AW}{w:TG}{Q:Exit->Act->TG->Prop}{oI:TB}{rest:TC}{ty:TypeId}{pos:String}{after:TE}{d:Nat}
variable{M:T6}{w0:TG}{H H':T0}{F:T3}{b:Nat}{x y:Operand}{v:TH}{t tx:TypeId}
theorem QsG{el len k c':Nat}{xs ys:T5}{O:T0}{i:TypeInfo}{z:TH}{sp':T5}(hS:St M w0 H F w)(hx:ev n e x=v)(hy:ev n e y= .slice (some ⟨b,0,none⟩) k c')
  (hT:QE P t=some el) (sO:QE P tx=some el) (hi:P.info? el=some i) (hz:i.zero=some z) (wO:z.cells.size=i.size) (oE:Row el i.size v len xs O) (sP:ys.length=k*i.size) (h1:ys.all (·.oneCell')=true)
  (hP:H.Perm ((b,.cells (ys++sp').toArray el)::(O++H'))) (pZ:2*(len+k)*i.bytes<=281474976710656) (qU:len+k<=4611686018427387904) (hd:Nat.blt d n=true)
  (h:∀v' O' w',Row el i.size v' (len+k) (xs++ys) O'->St M w0 (O'++H') F w'->AU P Q oI rest n ((d,v')::e) w'):
  AU P Q oI (⟨some d,.call ⟨.builtin .append, #[x,y], #[t,tx]⟩,ty,pos,after,none⟩::rest) n e w:=by
 have hS:=hS.perm hP;have hb:=hS.own _ (X8 ..);have oG:=oE.len_
 have tK:∀qQ,(∀p∈((b,Obj.cells (ys++sp').toArray el)::(O++H')),qQ.heap[p.1]?=some p.2)->Src P i.size tx (.slice (some ⟨b,0,none⟩) k c') k ys qQ:=fun qQ ho=>by
  refine ZP qQ (D9 sO) ⟨b,0,none⟩ k c' ys sP (fun j u hj=> ?_) (fun u hu=>VK.1 h1 u hu)
  have tX:j<ys.length:=by
   grind
  rw[G7,Qs (ho _ (X8 ..)),XQ,VO tX];exact hj
 have Jl:∀r w2,(Builtin.append_ #[t,tx] ty #[v,.slice (some ⟨b,0,none⟩) k c']).run P w= .ok r w2->(execOp (ev n e) ⟨some d,.call ⟨.builtin .append, #[x,y], #[t,tx]⟩,ty,pos,after,none⟩).run P w= .ok (.value r) w2:=by
  exact YdT
 have grow:∀(A:T4) (cap:Nat),v= .slice A len cap->cap<len+k->(Builtin.firstCells i.size len (.slice A len cap)).run P w.drew= .ok xs.toArray w.drew->AU P Q oI (⟨some d,.call ⟨.builtin .append, #[x,y], #[t,tx]⟩,ty,pos,after,none⟩::rest) n e w:=by
  intro A cap hv pQ hold;have hn:=Xap pQ;have hr:=XaF (P:=P) w t tx ty el i z (D9 hT) hi hz A len cap xs hold (.slice (some ⟨b,0,none⟩) k c') k ys (tK w hS.own) pQ Ya (X9 (V7 _ hn) pZ);rw[<-hv]at hr;apply Zq.fI.1
  have rJ:len+k<=grownCap w (len+k) cap el:=by grind[grownCap,Question.cut]
  generalize grownCap w (len+k) cap el=nc at rJ;have zK:(Builtin.zeroCells z.cells (nc-(len+k)))=(Builtin.zeroCells z.cells (nc-(len+k))).toList.toArray:=by simp
  have tR:(Builtin.zeroCells z.cells (nc-(len+k))).toList.length=(nc-(len+k))*i.size:=by simp[Builtin.zeroCells,wO]
  generalize(Builtin.zeroCells z.cells (nc-(len+k))).toList=zl at zK tR;rw[zK]
  have uJ:=(hS.drew.alloc (.cells ((xs++ys)++zl).toArray el))
  rw[show(xs++ys).toArray++zl.toArray=((xs++ys)++zl).toArray by simp];refine h _ [(w.heap.size,.cells ((xs++ys)++zl).toArray el)] _ (Row.own_ ?_ ?_ rJ Ya) ?_
  .grind
  .exact YcK
  .have h3:St M w0 ((w.heap.size,.cells ((xs++ys)++zl).toArray el)::(b,Obj.cells (ys++sp').toArray el)::(O++H')) F _:=uJ;have h4:=h3.perm (List.Perm.swap _ _ _);have h5:=h4.drop;exact St.dropL (L:=O) h5.sink
 cases oE with
 |nil_=>
  by_cases hk:k=0
  .subst hk;obtain rfl:ys=[]:=VL (by omega)
   have hr:(Builtin.append_ #[t,tx] ty #[.slice none 0 0,.slice (some ⟨b,0,none⟩) 0 c']).run P w= .ok (.slice none 0 0) w:=by
    have hu:=VC (D9 hT) w;have pT:=VC (D9 sO) w;have rN:=(tK w hS.own).cells;simp[Builtin.append_,hu,pT,sizeOf,typeInfo,hi,Builtin.lenOf,rN]
   refine Qa (Jl _ _ hr) hd (h _ [] _ Row.nil_ hS.drop)
  .exact Yc2
 |own_ rR sX oW tJ=>
  rename_i bl cap sp;have rA:w.heap[bl]?=some (.cells (xs++sp).toArray el):=hS.own (bl,_) Yd;by_cases qR:len+k<=cap
  .have oS:(xs++sp).length=cap*i.size:=sX
   have uK:len*i.size+ys.length<=(xs++sp).length:=by rw[oS,sP,<-VM];exact V7 _ qR
   have hr:=XaG (P:=P) w t tx ty el i (D9 hT) hi bl 0 len cap (.slice (some ⟨b,0,none⟩) k c') k ys (tK w hS.own) qR
    (fun j hj=>by rw[Qs rA,XQ];grind) (fun j hj=>by simp[World.frozen?,rA])
   obtain⟨qG,rN⟩:=ZL ys (0+len*i.size) (xs++sp) w rA Ya;apply Zq.fI.1
   have hu:I7 ((b,Obj.cells (ys++sp').toArray el)::([(bl,Obj.cells (xs++sp).toArray el)]++H')) bl (.cells (xs++sp).toArray el) (.cells ((xs++sp).take (0+len*i.size)++ys++(xs++sp).drop (0+len*i.size+ys.length)).toArray el)
     ((b,Obj.cells (ys++sp').toArray el)::(bl,.cells ((xs++sp).take (0+len*i.size)++ys++(xs++sp).drop (0+len*i.size+ys.length)).toArray el)::H'):= .tail .head
   have h3:=(hS.turn hu rN qG).drop
   have e1:(xs++sp).take (0+len*i.size)=xs:=by grind
   have e2:(xs++sp).drop (0+len*i.size+ys.length)=sp.drop ys.length:=by
    simp_all[W6]
   rw[e1,e2]at h3;refine h _ _ _ (Row.own_ (b:=bl) (sp:=sp.drop ys.length) ?_ ?_ qR tJ) h3
   .grind
   grind
  .refine grow _ cap rfl Ya ?_;have:=W7 (P:=P) w.drew i.size len ⟨bl,0,none⟩ len cap xs rR (fun j u hj=> ?_)
   .exact BS
   .have tX:j<xs.length:=by
     grind
    exact YcF
def LV(P:Program)(el:TypeId):Option (Nat×Nat):=match P.info? el with
 |some i=>match i.zero with
  |some z=>bif Nat.beq z.cells.toList.length i.size then some (i.size,i.bytes)else none
  |none=>none
 |none=>none
theorem K6{el sz bts:Nat}(h:LV P el=some (sz,bts)):∃i z,P.info? el=some i/\i.zero=some z/\z.cells.size=i.size/\i.size=sz/\i.bytes=bts:=by
 unfold LV at h;split at h
 .rename_i i hi;split at h
  .rename_i z hz
   cases hb:Nat.beq z.cells.toList.length i.size with
   |false=>grind
   |true=>
    simp_all
  .cases h
 .cases h
theorem EQ{el len k c' sz bts:Nat}{xs ys:T5}{O:T0}(hS:St M w0 H F w)(hx:ev n e x=v)(hy:ev n e y= .slice (some ⟨b,0,none⟩) k c')
  (hT:QE P t=some el) (sO:QE P tx=some el) (hi:LV P el=some (sz,bts)) (oE:Row el sz v len xs O) (sP:ys.length=k*sz) (h1:ys.all (·.oneCell')=true)
  (hP:H.Perm ((b,.cells ys.toArray el)::(O++H'))) (pZ:2*(len+k)*bts<=281474976710656) (qU:len+k<=4611686018427387904) (hd:Nat.blt d n=true)
  (h:∀v' O' w',Row el sz v' (len+k) (xs++ys) O'->St M w0 (O'++H') F w'->AU P Q oI rest n ((d,v')::e) w'):
  AU P Q oI (⟨some d,.call ⟨.builtin .append, #[x,y], #[t,tx]⟩,ty,pos,after,none⟩::rest) n e w:=by
 obtain⟨_,_,h2,h3,h4,rfl,rfl⟩:=K6 hi;exact QsG (sp':=[]) hS hx hy hT sO h2 h3 h4 oE sP h1 (by grind) pZ qU hd h
theorem PO{f:FuncId}{R:Ending->TG->Prop}{k:List Item}{fn:Func}{a sz:Nat}{o:Nat}{cs vs:T5}{ct:TypeId}(hS:St M w0 H F w)(hf:P.funcs[f]?=some fn)(hr:fn.results= #[.cell a t])(hv:ev n e (.tmp a)= .pointer (some ⟨b,o,none⟩))
  (hA:KJ P t=some true) (hs:EW P t=some sz) (hb:At H b (.cells cs.toArray ct)) (hc:HK cs o sz vs) (hR:R (.returned (.agg vs.toArray)) w):AG P f R (.code .ret::k) (AF n e) w:=by
 unfold AG;intro fr _ wP hk;refine⟨.returned (.agg vs.toArray),w,{ fr.at (AF n e) (.code .ret::k)with mode:= .returning },hR,W2 step_ret,wP,rfl,rfl,hk,fn,?_,?_⟩
 .exact Yb1
 .show(results fn (DG n e)).run P w=_;have h1:=SM (w:=w) hA;have h2:=KH (w:=w) hs
  have h3:=Xai (P:=P) (w:=w) ⟨b,o,none⟩ vs (fun j v hj=>by
   rw[G7,Qs (hS.at_ hb)]
   have Ca:j<sz:=by
    rcases XY j sz with h|h
    .exact h
    .rw[XX YaD]at hj;cases hj
   grind[HK.get])
  rw[hc.length]at h3
  have rW:(DG n e).getD a undef= .pointer (some ⟨b,o,none⟩):=by rw[I3];exact hv
  simp only[ZA]at rW;simp only[results,hr];simp_all[asAddr,loadVar]
theorem Qms{el len k:Nat}{l:AA}{xs:T5}{O:T0}{i:TypeInfo}{z:TH}(hS:St M w0 H F w)(hx:ev n e x=v)(hy:ev n e y=sv l)(hk:l.length=k)
  (hT:QE P t=some el) (sO:LO P tx=true) (sY:i.size=1) (hi:P.info? el=some i) (hz:i.zero=some z) (wO:z.cells.size=i.size) (oE:Row el i.size v len xs O) (hP:H.Perm (O++H')) (pZ:2*(len+k)*i.bytes<=281474976710656) (qU:len+k<=4611686018427387904) (hd:Nat.blt d n=true)
  (h:∀v' O' w',Row el i.size v' (len+k) (xs++CV l) O'->St M w0 (O'++H') F w'->AU P Q oI rest n ((d,v')::e) w'):
  AU P Q oI (⟨some d,.call ⟨.builtin .append, #[x,y], #[t,tx]⟩,ty,pos,after,none⟩::rest) n e w:=by
 have hS:=hS.perm hP;have oG:=oE.len_;generalize hy2:CV l=ys at h
 have sP:ys.length=k*i.size:=by grind[CV]
 have tK:∀qQ:TG,Src P i.size tx (sv l) k ys qQ:=fun qQ=>by
  have h:=Src.ofString (P:=P) qQ (tx:=tx) (SX sO) ⟨l.toArray⟩;grind[CV,byteCells,GY]
 have Jl:∀r w2,(Builtin.append_ #[t,tx] ty #[v,sv l]).run P w= .ok r w2->(execOp (ev n e) ⟨some d,.call ⟨.builtin .append, #[x,y], #[t,tx]⟩,ty,pos,after,none⟩).run P w= .ok (.value r) w2:=by
  exact YdT
 have grow:∀(A:T4) (cap:Nat),v= .slice A len cap->cap<len+k->(Builtin.firstCells i.size len (.slice A len cap)).run P w.drew= .ok xs.toArray w.drew->AU P Q oI (⟨some d,.call ⟨.builtin .append, #[x,y], #[t,tx]⟩,ty,pos,after,none⟩::rest) n e w:=by
  intro A cap hv pQ hold;have hn:=Xap pQ;have hr:=XaF (P:=P) w t tx ty el i z (D9 hT) hi hz A len cap xs hold (sv l) k ys (tK w) pQ Ya (X9 (V7 _ hn) pZ);rw[<-hv]at hr;apply Zq.fI.1
  have rJ:len+k<=grownCap w (len+k) cap el:=by grind[grownCap,Question.cut]
  generalize grownCap w (len+k) cap el=nc at rJ;have zK:(Builtin.zeroCells z.cells (nc-(len+k)))=(Builtin.zeroCells z.cells (nc-(len+k))).toList.toArray:=by simp
  have tR:(Builtin.zeroCells z.cells (nc-(len+k))).toList.length=(nc-(len+k))*i.size:=by simp[Builtin.zeroCells,wO]
  generalize(Builtin.zeroCells z.cells (nc-(len+k))).toList=zl at zK tR;rw[zK]
  have uJ:=(hS.drew.alloc (.cells ((xs++ys)++zl).toArray el))
  rw[show(xs++ys).toArray++zl.toArray=((xs++ys)++zl).toArray by simp];refine h _ [(w.heap.size,.cells ((xs++ys)++zl).toArray el)] _ (Row.own_ ?_ ?_ rJ Ya) ?_
  .grind
  .grind
  .exact Yb3
 cases oE with
 |nil_=>
  by_cases rU:k=0
  .subst rU;have yL:l=[]:=VL hk;have Db:ys=[]:=VL (by omega);rw[Db]at h
   have hr:(Builtin.append_ #[t,tx] ty #[.slice none 0 0,sv l]).run P w= .ok (.slice none 0 0) w:=by
    have hu:=VC (D9 hT) w;have pT:=VC (SX sO) w;subst yL;simp[Builtin.append_,hu,pT,sizeOf,typeInfo,hi,Builtin.lenOf,Builtin.firstCells,GY]
   refine Qa (Jl _ _ hr) hd (h _ [] _ Row.nil_ hS)
  .exact Yc2
 |own_ rR sX oW tJ=>
  rename_i bl cap sp;have rA:w.heap[bl]?=some (.cells (xs++sp).toArray el):=hS.own (bl,_) Yd;by_cases qR:len+k<=cap
  .have oS:(xs++sp).length=cap*i.size:=sX
   have uK:len*i.size+ys.length<=(xs++sp).length:=by grind
   have hr:=XaG (P:=P) w t tx ty el i (D9 hT) hi bl 0 len cap (sv l) k ys (tK w) qR
    (fun j hj=>by rw[Qs rA,XQ];grind) (fun j hj=>by simp[World.frozen?,rA])
   obtain⟨qG,rN⟩:=ZL ys (0+len*i.size) (xs++sp) w rA Ya;apply Zq.fI.1
   have hu:I7 ([(bl,Obj.cells (xs++sp).toArray el)]++H') bl (.cells (xs++sp).toArray el) (.cells ((xs++sp).take (0+len*i.size)++ys++(xs++sp).drop (0+len*i.size+ys.length)).toArray el)
     ((bl,.cells ((xs++sp).take (0+len*i.size)++ys++(xs++sp).drop (0+len*i.size+ys.length)).toArray el)::H'):= .head
   have h3:=hS.turn hu rN qG
   have e1:(xs++sp).take (0+len*i.size)=xs:=by grind
   have e2:(xs++sp).drop (0+len*i.size+ys.length)=sp.drop ys.length:=by
    simp_all[W6]
   rw[e1,e2]at h3;refine h _ _ _ (Row.own_ (b:=bl) (sp:=sp.drop ys.length) ?_ ?_ qR tJ) h3
   .grind
   grind
  .refine grow _ cap rfl Ya ?_;have:=W7 (P:=P) w.drew i.size len ⟨bl,0,none⟩ len cap xs rR (fun j u hj=> ?_)
   .exact BS
   .have tX:j<xs.length:=by
     grind
    exact YcF
theorem QlD{el len:Nat}{l:AA}{xs:T5}{O:T0}(hS:St M w0 H F w)(hx:ev n e x=v)(hy:ev n e y=sv l)
  (hT:QE P t=some el) (sO:LO P tx=true) (hi:LV P el=some (1,1)) (oE:Row el 1 v len xs O)
  (hP:H.Perm (O++H')) (pZ:len+l.length<=140737488355328) (hd:Nat.blt d n=true)
  (h:∀v' O' w',Row el 1 v' (len+l.length) (xs++CV l) O'->St M w0 (O'++H') F w'->AU P Q oI rest n ((d,v')::e) w'):
  AU P Q oI (⟨some d,.call ⟨.builtin .append, #[x,y], #[t,tx]⟩,ty,pos,after,none⟩::rest) n e w:=by
 obtain⟨_,_,h2,h3,h4,h5,h6⟩:=K6 hi;refine Qms hS hx hy rfl hT sO h5 h2 h3 h4 TP hP RC Ya hd ?_;grind
end
section
variable{P:Program}{n:Nat}{e:AW}{w:TG}{ty:TypeId}{pos:String}{after:TE}{x y:Operand}{dst:TD}{t t2 el:TypeId}{a:Addr}
theorem Qij{j:TypeInfo}(hx:ev n e x= .pointer (some a))(hy:ev n e y= .pointer (some a))(hT:N0 P t=some el)(hi:P.info? el=some j):
  (execOp (ev n e) ⟨dst,.binOp .neq t x y t2,ty,pos,after,none⟩).run P w= .ok (.value (.bool false)) w:=by
 have h1:=Lib.run_neq_ptr_same (P:=P) w a (Qz7 hT) hi
 simp_all[execOp,eqGuard]
theorem QfT{u v:TH}{src dt:TypeId}(hx:ev n e x=u)(h:(convert src dt u).run P w= .ok v w):(execOp (ev n e) ⟨dst,.convert src dt x,ty,pos,after,none⟩).run P w= .ok (.value v) w:=by
 exact Ydh
theorem Qc7{u v:TH}{ts:Array TypeId}(hx:ev n e x=u)(h:(Builtin.unsafeSliceData_ ts ty #[u]).run P w= .ok v w):(execOp (ev n e) ⟨dst,.call ⟨.builtin .unsafeSliceData, #[x],ts⟩,ty,pos,after,none⟩).run P w= .ok (.value v) w:=by
 simp only[execOp,resolve,VZ,VE,JA,hx,bind,pure,Sem.bind,invoke,builtin];rw[XN,h];rfl
theorem Qei{u v r:TH}{ts:Array TypeId}{w':TG}(hx:ev n e x=u)(hy:ev n e y=v)(h:(Builtin.unsafeString_ ts ty #[u,v]).run P w= .ok r w'):(execOp (ev n e) ⟨dst,.call ⟨.builtin .unsafeString, #[x,y],ts⟩,ty,pos,after,none⟩).run P w= .ok (.value r) w':=by
 simp only[execOp,resolve,VZ,VE,JA,hx,hy,bind,pure,Sem.bind,invoke,builtin];rw[XN,h];rfl
theorem Qpw {g:FuncId} {fn:Func} {ex:T9->Sem TH} {u v:TH} {ar:Array Operand} {ts:Array TypeId} (ha:ar.map (ev n e)= #[u]) (hf:P.funcs[g]?=some fn) (Oe:(fn.name== "runtime.NumGoroutine")=false) (hb:fn.body.isNone=true) (hn:Extern.findNext fn=none) (he:Extern.find fn=some ex)
  (h:(ex #[u]).run P w= .ok v w):(execOp (ev n e) ⟨dst,.call ⟨.value (.func g),ar,ts⟩,ty,pos,after,none⟩).run P w= .ok (.value v) w:=by
 have h1:=run_callFunc_extern hf Oe hb hn he #[u] w;rw[h]at h1;rw[<-ha]at h1;simpa[execOp,resolve,ev,Deferred.ofValue,invoke,bind,Sem.bind,pure,Sem.run]using h1
end
abbrev DT(b:Nat):TH:= .pointer (some ⟨b,0,none⟩)
abbrev KL(p B V:TH):Obj:= .cells [p,B,V].toArray 165
def P8(b:Nat)(p:TH):Prop:=p= .pointer none\/p=DT b
section
variable{M:T6}{w0:TG}{H:T0}{F:T3}{b:Nat}
theorem QgC{w:TG}{cs:T5}{ct:TypeId}(h:w.heap[b]?=some (.cells cs.toArray ct)):w.shape? b=some (ct,cs.length):=by simp[World.shape?,h]
theorem Qg3(p:TH)(A A2:T4)(l c l2 c2:Nat)(w:TG)(hp:P8 b p)(hS:St M w0 ((b,KL p (.slice A l c) (.slice A2 l2 c2))::H) F w):
  Calls prog 107 #[DT b] w fun e w'=>e= .returned (.tuple #[])/\St M w0 ((b,KL (DT b) (.slice A l c) (.slice A2 l2 c2))::H) F w':=by
 have Mx:=QgC (hS.at_ .head);rcases hp with rfl|rfl
 .exact Ycg
 .exact YdB
abbrev H0(l:AA)(B:TH)(O:T0):Prop:=Row 5 1 B l.length (CV l) O
theorem Qi0(p B V:TH)(l x:AA)(O:T0)(A2:T4)(l2 c2:Nat)(hV:V= .slice A2 l2 c2)(w:TG)(hp:P8 b p)(hB:H0 l B O)(hl:l.length+x.length<=1099511627776)(hS:St M w0 ((b,KL p B V)::(O++H)) F w):
  Calls prog 66 #[DT b,sv x] w fun e w'=>∃B' O',e= .returned (.tuple #[.int .i64 (x.length:Nat),.nilIface])/\H0 (l++x) B' O'/\St M w0 ((b,KL (DT b) B' V)::(O'++H)) F w':=by
 subst hV;obtain⟨A,c,rfl⟩:=hB.form;apply Zq.nE.aY.Z.1;refine XE (Qg3 p A A2 _ c l2 c2 _ hp hS) ?_;rintro _ _ ⟨rfl,oD⟩;apply Zq.a.1;replace hS:=oD;clear oD;apply Zq.cZ.O.aE.g.nY.1;clear hS;intro B' O' _ sN hS;replace hS:=hS.raise;obtain⟨_,_,rfl⟩:=sN.form;apply Zq.O.L.J.1;clear hS;intro _ hS;apply Zq.b.h.c5.K.nO.iG.1;grind[CV]
theorem Qee(p B V:TH)(l:AA)(c:UInt8)(O:T0)(A2:T4)(l2 c2:Nat)(hV:V= .slice A2 l2 c2)(w:TG)(hp:P8 b p)(hB:H0 l B O)(hl:l.length+1<=1099511627776)(hS:St M w0 ((b,KL p B V)::(O++H)) F w):
  Calls prog 65 #[DT b,.int .u8 c.toNat] w fun e w'=>∃B' O',e= .returned .nilIface/\H0 (l++[c]) B' O'/\St M w0 ((b,KL (DT b) B' V)::(O'++H)) F w':=by
 subst hV;obtain⟨A,cc,rfl⟩:=hB.form;apply Zq.lR.e.Z.1;refine XE (Qg3 p A A2 _ cc l2 c2 _ hp hS) ?_;rintro _ _ ⟨rfl,oD⟩;apply Zq.a.1;replace hS:=oD;clear oD;apply Zq.cZ.O.aE.g.bH.1;clear hS;intro _ _ hS;apply Zq.lT.1;clear hS;intro B' O' _ sN hS;replace hS:=hS.raise;obtain⟨_,_,rfl⟩:=sN.form;apply Zq.O.L.J.1;clear hS;intro _ hS;apply Zq.b.e.n7.iG.1;grind[CV]
theorem St.dropMid'{w:TG}{p q:Nat×Obj}(h:St M w0 (p::([q]++H)) F w):St M w0 (p::H) F w:=h.swap.drop
theorem St.lose{g:Nat}{o:Obj}{w w':TG}(h:St M w0 ((g,o)::H) F w)(hx:BK [g] w w'):St M w0 H F w':=by
 have wN:BK (((g,o)::H).map (·.1)) w w':=hx.mono fun k _ hk=>by grind
 refine⟨fun q hq=> ?_,(VT.1 h.apart).2,h.over wN,fun q hq=>h.new q (XZ _ hq),fun φ hφ w2 hw=>h.facts φ hφ w2 (wN.trans (hw.mono fun k _ hk=>by grind))⟩;have xC:=h.own q (XZ _ hq);rw[hx.block q.1 (IW xC) (by simpa using JS ((VT.1 h.apart).1 q hq))];exact xC
theorem QlO(w:TG)(g n:Nat):BK [g] w (w.freeze ⟨g,0,none⟩ n):=by
 unfold World.freeze;split
 .exact BK.refl _ _
 .exact⟨rfl,rfl,rfl,by simp,fun k _ hk=>by
   grind⟩
theorem Qr7(p B V:TH)(l:AA)(O:T0)(A2:T4)(l2 c2:Nat)(hV:V= .slice A2 l2 c2)(w:TG)(hB:H0 l B O)(hl:l.length<=1099511627776)(hS:St M w0 ((b,KL p B V)::(O++H)) F w):
  Calls prog 69 #[DT b] w fun e w'=>e= .returned (sv l)/\St M w0 H F w':=by
 subst hV;have hF:=hS;have vL:Row 5 1 B l.length (CV l) O:=hB;clear hB;generalize rD:l.length=ll at vL;generalize rA:CV l=bl at vL
 cases vL with
 |nil_=>
  exact Ybv
 |own_ h1 h2 h3 h4=>
  rename_i g cap sp;have hg:w.heap[g]?=some (.cells (bl++sp).toArray 5):=hF.own (g,_) Yd;replace hS:=St.dropMid' hS;apply Zq.iD.e.E.i2.1;replace hS:=hS.drew;apply Zq.aU.cM.aN.aU.cM.aN.eH.aR.k2.eW.aR.1;by_cases yL:l=[]
  .exact Ydi
  .have Of:=Xbq (P:=prog) w.drew 167 3 9 5 Yc Yc g (bl++sp).length (QgC (w:=w.drew) hg) l yL YaJ Ya ?_
   .exact YbD
   .intro j x hx;subst rA;have hj:j<l.length:=(W8.1 hx).1
    have:(CV l++sp)[j]?=some (.int .u8 x.toNat):=by
     grind[CV]
    grind[World.drew,Addr.add,Qs]
end
section
variable{P:Program}{n:Nat}{e:AW}{w:TG}{ty:TypeId}{pos:String}{after:TE}{x y z:Operand}{dst:TD}{t:TypeId}
theorem QZ{i:Int}{A:T4}{len cap el sz:Nat}(hx:ev n e x= .slice A len cap)(hy:ev n e y= .int .i64 i)(hT:QE P t=some el)(hs:EW P el=some sz)(h0:0<=i)(h1:i<=cap):
  (execOp (ev n e) ⟨dst,.slice t x none (some y) none,ty,pos,after,none⟩).run P w= .ok (.value (.slice A i.toNat cap)) w:=by
 have h2:=VC (D9 hT) w;have h3:=KH (w:=w) hs;simp only[execOp,Instr.sliceAt,Instr.slice,hx,hy,X7,J5,bind,pure,Sem.bind];rw[XN,XN,h2];simp only[XW];rw[XN,h2];simp only[XW,Instr.sliceBounds,J6,X6,XT,bind,pure,Sem.bind];rw[XN,XN,R4 rfl h0 h1];simp only[XW];rw[show Sem.run P (Sem.pure (0,i.toNat,cap)) w= .ok (0,i.toNat,cap) w from rfl];simp_all[Addr.add,XN]
theorem Qcs{i:Int}{A:T4}{len cap el sz:Nat}(hx:ev n e x= .slice A len cap)(hy:ev n e y= .int .i64 i)(hT:QE P t=some el)(hs:EW P el=some sz)(h0:0<=i)(h1:i<=len):
  (execOp (ev n e) ⟨dst,.slice t x (some y) none none,ty,pos,after,none⟩).run P w= .ok (.value (.slice (if cap=i.toNat then A else A.map (·.add (i.toNat*sz))) (len-i.toNat) (cap-i.toNat))) w:=by
 have h2:=VC (D9 hT) w;have h3:=KH (w:=w) hs;simp only[execOp,Instr.sliceAt,Instr.slice,hx,hy,X7,J5,bind,pure,Sem.bind];rw[XN,XN,h2];simp only[XW];rw[XN,h2];simp only[XW,Instr.sliceBounds,J6,X6,XT,bind,pure,Sem.bind];rw[XN,XN,R4 rfl h0 h1];simp only[XW];rw[show Sem.run P (Sem.pure (i.toNat,len,cap)) w= .ok (i.toNat,len,cap) w from rfl];simp_all[XN]
theorem Qe0{i:Int}{b o len cap el sz:Nat}(hx:ev n e x= .slice (some ⟨b,o,none⟩) len cap)(hy:ev n e y= .int .i64 i)(hT:QE P t=some el)(hs:EW P el=some sz)(h0:0<=i)(h1:i<=len)(h2:i<cap):
  (execOp (ev n e) ⟨dst,.slice t x (some y) none none,ty,pos,after,none⟩).run P w= .ok (.value (.slice (some ⟨b,o+i.toNat*sz,none⟩) (len-i.toNat) (cap-i.toNat))) w:=by
 grind[Qcs,G7]
end
theorem Row.cut{el sz len cap m:Nat}{A:T4}{xs:T5}{O:T0}(h:Row el sz (.slice A len cap) len xs O)(hm:m<=len):Row el sz (.slice A m cap) m (xs.take (m*sz)) O:=by
 have hx:=h.len_;generalize hv:Value.slice A len cap=v at h
 cases h with
 |nil_=>
  simp only[JV]at hv;obtain⟨rfl,_,rfl⟩:=hv;obtain rfl:m=0:=by omega
  simpa using Row.nil_
 |own_ rR hc oW tJ=>
  rename_i b vU sp;simp only[JV]at hv;obtain⟨rfl,_,rfl⟩:=hv;have e:xs++sp=xs.take (m*sz)++(xs.drop (m*sz)++sp):=by rw[<-VB,VR]
  have wX:m*sz<=xs.length:=by simp_all[V7]
  have hr:=Row.own_ (el:=el) (sz:=sz) (b:=b) (len:=m) (cap:=cap) (xs:=xs.take (m*sz)) (sp:=xs.drop (m*sz)++sp) Yg (by grind) Ya tJ;grind
theorem Row.cap{el sz len cap:Nat}{A:T4}{l2:Nat}{xs:T5}{O:T0}(h:Row el sz (.slice A l2 cap) len xs O):len<=cap:=by
 generalize hv:Value.slice A l2 cap=v at h
 cases h with
 |nil_=>omega
 |own_ _ _ oW _=>grind
theorem Row.some_{el sz len cap l2:Nat}{A:T4}{xs:T5}{O:T0}(h:Row el sz (.slice A l2 cap) len xs O)(hl:0<len):∃g sp,A=some ⟨g,0,none⟩/\O=[(g,.cells (xs++sp).toArray el)]/\(xs++sp).length=cap*sz:=by
 generalize hv:Value.slice A l2 cap=v at h
 cases h with
 |nil_=>omega
 |own_ _ hc _ _=>grind
def AB(F:T3)(ψ:TG->Prop):Prop:=∀w,(∀φ∈F,φ w)->ψ w
theorem AB.mono{F F':T3}{ψ:TG->Prop}(h:AB F ψ)(hs:∀φ∈F,φ∈F'):AB F' ψ:=fun w hw=>h w fun φ hφ=>hw φ (hs φ hφ)
theorem AB.tail{F:T3}{φ ψ:TG->Prop}(h:AB F ψ):AB (φ::F) ψ:=h.mono fun _ h=>XZ _ h
theorem AB.imp{F:T3}{φ ψ:TG->Prop}(h:AB F φ)(g:∀w,φ w->ψ w):AB F ψ:=fun w hw=>g w (h w hw)
theorem AB.head{F:T3}{φ:TG->Prop}:AB (φ::F) φ:=fun w hw=>hw φ (.head _)
section
variable{M:T6}{w0 w w':TG}{H:T0}{F:T3}
theorem St.und(h:St M w0 H F w){ψ:TG->Prop}(hψ:AB F ψ):ψ w:=hψ w fun φ hφ=>h.fact hφ
theorem St.bareL{L:T0}(h:St M w0 (L++H) F w):St M w0 L [] w:=by
 refine⟨fun p hp=>h.own p (JO _ hp),(List.pairwise_append.1 h.apart).1,h.ext,fun p hp=>h.new p (JO _ hp),fun φ hφ=>by grind⟩
theorem St.bare1{x:Nat×Obj}(h:St M w0 (x::H) F w):St M w0 [x] [] w:=St.bareL (L:=[x]) h
theorem St.bare2{x y:Nat×Obj}(h:St M w0 (x::y::H) F w):St M w0 [x,y] [] w:=St.bareL (L:=[x,y]) h
theorem St.bare3{x y z:Nat×Obj}(h:St M w0 (x::y::z::H) F w):St M w0 [x,y,z] [] w:=St.bareL (L:=[x,y,z]) h
theorem St.only1{x:Nat×Obj}{w:TG}(h:St M w0 (x::H) F w):St M w0 [x] F w:=
 ⟨fun q hq=>h.own q (by grind),by simp,h.ext,fun q hq=>h.new q (by grind),fun φ hφ w' hw=>h.facts φ hφ w' (hw.mono fun k _ hk=>by grind)⟩
theorem St.only2{x y:Nat×Obj}{w:TG}(h:St M w0 (x::y::H) F w):St M w0 [x,y] F w:=
 ⟨fun q hq=>h.own q (by grind),by simpa using(VT.1 h.apart).1 y Yd,h.ext,fun q hq=>h.new q (by grind),fun φ hφ w' hw=>h.facts φ hφ w' (hw.mono fun k _ hk=>by grind)⟩
end
inductive Ts where
 |nil
 |cons (k n:Int) (s:TJ) (ar r:Ts)
def Ts.length:Ts->Nat
 | .nil=>0
 | .cons _ _ _ _ r=>r.length+1
def Ts.nodes:Ts->Nat
 | .nil=>0
 | .cons _ _ _ ar r=>ar.nodes+r.nodes+1
def Ts.app:Ts->Ts->Ts
 | .nil,y=>y
 | .cons k n s ar r,y=> .cons k n s ar (r.app y)
theorem Ts.length_le(T:Ts):T.length<=T.nodes:=by
 induction T with
 |nil=>exact XF _
 |cons k n s ar r _ ih=>grind[length,nodes]
theorem Ts.app_nil(T:Ts):T.app .nil=T:=by
 induction T with
 |nil=>rfl
 |cons k n s ar r _ ih=>grind[app]
theorem Ts.app_assoc(a b c:Ts):(a.app b).app c=a.app (b.app c):=by
 induction a with
 |nil=>rfl
 |cons k n s ar r _ ih=>grind[app]
theorem Ts.length_app(a b:Ts):(a.app b).length=a.length+b.length:=by
 induction a with
 |nil=>simp[app,length]
 |cons k n s ar r _ ih=>grind[length,app]
theorem Ts.nodes_app(a b:Ts):(a.app b).nodes=a.nodes+b.nodes:=by
 induction a with
 |nil=>simp[app,nodes]
 |cons k n s ar r _ ih=>grind[nodes,app]
theorem Ts.nil_of_length{T:Ts}(h:T.length=0):T= .nil:=by
 cases T with
 |nil=>rfl
 |cons k n s ar r=>simp[length]at h
def CY(w:TG)(p:Nat->Prop):Ts->Nat->Nat->Prop
 | .nil,_,_=>True
 | .cons k n s ar r,b,o=>p b/\w.cell? ⟨b,o,none⟩=some (.int .i64 k)/\w.cell? ⟨b,o+1,none⟩=some (.int .i64 n)/\w.cell? ⟨b,o+2,none⟩=some (.string s)/\
   (∃A c,w.cell? ⟨b,o+3,none⟩=some (.slice A ar.length c)/\ar.length<=c/\(0<ar.length->∃b' o',A=some ⟨b',o',none⟩/\CY w p ar b' o'))/\CY w p r b (o+4)
def Sl(w:TG)(p:Nat->Prop)(v:TH)(T:Ts):Prop:=
 ∃A c,v= .slice A T.length c/\T.length<=c/\(0<T.length->∃b o,A=some ⟨b,o,none⟩/\CY w p T b o)
theorem Q6{w:TG}{p:Nat->Prop}{k n:Int}{s:TJ}{ar r:Ts}{b o:Nat}:CY w p (.cons k n s ar r) b o↔
  p b/\w.cell? ⟨b,o,none⟩=some (.int .i64 k)/\w.cell? ⟨b,o+1,none⟩=some (.int .i64 n)/\w.cell? ⟨b,o+2,none⟩=some (.string s)/\
   (∃v,w.cell? ⟨b,o+3,none⟩=some v/\Sl w p v ar)/\CY w p r b (o+4):=by
 constructor
 .rintro⟨h1,h2,h3,h4,⟨A,c,h5,h6,h7⟩,h8⟩;exact⟨h1,h2,h3,h4,⟨_,h5,A,c,rfl,h6,h7⟩,h8⟩
 .rintro⟨h1,h2,h3,h4,⟨v,h5,A,c,rfl,h6,h7⟩,h8⟩;exact⟨h1,h2,h3,h4,⟨A,c,h5,h6,h7⟩,h8⟩
theorem P5{w:TG}{a:Addr}{v:TH}(h:w.cell? a=some v):a.block<w.heap.size:=by
 grind[World.cell?]
section
variable{w w':TG}{p q:Nat->Prop}
theorem CY.imp{T:Ts}:∀{b o:Nat},CY w p T b o->(∀k,p k->k<w.heap.size->q k)->CY w q T b o:=by
 induction T with
 |nil=>intros;trivial
 |cons k n s ar r rO qO=>
  intro b o h hq;obtain⟨h1,h2,h3,h4,⟨A,c,h5,h6,h7⟩,h8⟩:=h;refine⟨hq _ h1 (P5 h2),h2,h3,h4,⟨A,c,h5,h6,fun hl=> ?_⟩,qO h8 hq⟩;grind
theorem CY.imp'{T:Ts}:∀{b o:Nat},CY w p T b o->(∀k,p k->(∃j u,w.cell? ⟨k,j,none⟩=some u)->q k)->CY w q T b o:=by
 induction T with
 |nil=>intros;trivial
 |cons k n s ar r rO qO=>
  intro b o h hq;obtain⟨h1,h2,h3,h4,⟨A,c,h5,h6,h7⟩,h8⟩:=h;refine⟨hq _ h1 ⟨_,_,h2⟩,h2,h3,h4,⟨A,c,h5,h6,fun hl=> ?_⟩,qO h8 hq⟩;grind
theorem CY.keep{T:Ts}:∀{b o:Nat},CY w p T b o->(∀k,p k->k<w.heap.size->w'.heap[k]?=w.heap[k]?)->CY w' p T b o:=by
 induction T with
 |nil=>intros;trivial
 |cons k n s ar r rO qO=>
  intro b o h hk;obtain⟨h1,h2,h3,h4,⟨A,c,h5,h6,h7⟩,h8⟩:=h;have e:=hk b h1 (P5 h2);refine⟨h1,?_,?_,?_,⟨A,c,?_,h6,fun hl=> ?_⟩,qO h8 hk⟩
  .exact YdM
  .exact YdF
  .exact YdG
  .rw[JP (w:=w) (w':=w') (a:=⟨b,o+3,none⟩) e];exact h5
  grind
theorem Sl.imp{T:Ts}{v:TH}(h:Sl w p v T)(hq:∀k,p k->k<w.heap.size->q k):Sl w q v T:=by
 obtain⟨A,c,hv,hc,hs⟩:=h;refine⟨A,c,hv,hc,fun hl=> ?_⟩;grind[CY.imp]
theorem Sl.imp'{T:Ts}{v:TH}(h:Sl w p v T)(hq:∀k,p k->(∃j u,w.cell? ⟨k,j,none⟩=some u)->q k):Sl w q v T:=by
 obtain⟨A,c,hv,hc,hs⟩:=h;refine⟨A,c,hv,hc,fun hl=> ?_⟩;grind[CY.imp']
theorem Sl.keep{T:Ts}{v:TH}(h:Sl w p v T)(hk:∀k,p k->k<w.heap.size->w'.heap[k]?=w.heap[k]?):Sl w' p v T:=by
 obtain⟨A,c,hv,hc,hs⟩:=h;refine⟨A,c,hv,hc,fun hl=> ?_⟩;grind[CY.keep]
theorem CY.below{T:Ts}{b o:Nat}(h:CY w p T b o)(hb:Below w.heap.size w w'):CY w' p T b o:=h.keep fun k _ hk=>hb.block k hk
theorem Sl.below{T:Ts}{v:TH}(h:Sl w p v T)(hb:Below w.heap.size w w'):Sl w' p v T:=h.keep fun k _ hk=>hb.block k hk
theorem Sl.any{T:Ts}{v:TH}(h:Sl w p v T):Sl w (fun _=>True) v T:=h.imp fun _ _ _=>trivial
theorem Sl.form{T:Ts}{v:TH}(h:Sl w p v T):∃A c,v= .slice A T.length c/\Sl w p (.slice A T.length c) T:=by
 exact YdH
end
theorem Qbt(B:Nat)(w:TG)(n:Nat):Below B w (w.drewN n):=⟨rfl,rfl,rfl,XF _,fun _ _=>rfl⟩
def QR(w:TG)(g:Nat)(t:TypeId)(cs:T9):Prop:=w.heap[g]?=some (.cells cs t (0,0))
section
variable{w w':TG}{g:Nat}{t:TypeId}{cs:T9}
theorem QR.move(h:QR w g t cs)(e:w'.heap[g]?=w.heap[g]?):QR w' g t cs:=Eq.trans e h
theorem QR.lt(h:QR w g t cs):g<w.heap.size:=(Xak.1 h).1
theorem QR.cell(h:QR w g t cs)(i:Nat):w.cell? ⟨g,i,none⟩=cs[i]?:=by
 have:=cell_of_row w g i cs t (0,0) h;exact BS
theorem QR.frozen(h:QR w g t cs)(i:Nat):w.frozen? ⟨g,i,none⟩=false:=by
 have e:w.heap[g]?=some (.cells cs t (0,0)):=h;grind[World.frozen?]
theorem QR.new(w:TG)(t:TypeId)(cs:T9):QR (w.alloc (.cells cs t)) w.heap.size t cs:=by
 show(w.alloc _).heap[w.heap.size]?=_;rw[heap_alloc_new]
theorem QR.drew(h:QR w g t cs):QR w.drew g t cs:=h.move rfl
theorem QR.drewN(h:QR w g t cs)(n:Nat):QR (w.drewN n) g t cs:=h.move rfl
theorem QR.alloc(h:QR w g t cs)(o:Obj):QR (w.alloc o) g t cs:=h.move (JF w o g h.lt)
theorem QR.far(h:QR w g t cs){p:Addr}(hp:g≠p.block)(u:TH):QR (w.setCell p u) g t cs:=h.move (JT w p u g hp)
theorem QR.below(h:QR w g t cs)(hb:Below w.heap.size w w'):QR w' g t cs:=h.move (hb.block g h.lt)
theorem QR.grown{row:TD}(h:QR w g t cs)(hb:w.grownBy w' row)(hg:some g≠row):QR w' g t cs:=h.move (hb.block g h.lt hg)
theorem QR.set_(h:QR w g t cs)(i:Nat)(u:TH):QR (w.setCell ⟨g,i,none⟩ u) g t (cs.setIfInBounds i u):=by
 have e:w.heap[g]?=some (.cells cs t (0,0)):=h;show(w.setCell _ u).heap[g]?=_;grind[World.setCell]
theorem QR.four{a b c d:TH}(h:QR w g t #[a,b,c,d]):w.cell? ⟨g,0,none⟩=some a/\w.cell? ⟨g,1,none⟩=some b/\w.cell? ⟨g,2,none⟩=some c/\w.cell? ⟨g,3,none⟩=some d/\(∀o,w.frozen? ⟨g,o,none⟩=false):=
 ⟨h.cell 0,h.cell 1,h.cell 2,h.cell 3,h.frozen⟩
end
def Cs(w:TG)(p:Nat->Prop):Ts->T5->Prop
 | .nil,xs=>xs=[]
 | .cons k n s ar r,xs=>∃v ys,xs= .int .i64 k:: .int .i64 n:: .string s::v::ys/\Sl w p v ar/\Cs w p r ys
section
variable{w w':TG}{p q:Nat->Prop}
theorem Cs.length{T:Ts}:∀{xs:T5},Cs w p T xs->xs.length=T.length*4:=by
 induction T with
 |nil=>intro xs h;rw[show xs=[]from h];rfl
 |cons k n s ar r _ ih=>
  rintro xs ⟨_,_,rfl,_,h⟩;grind[Ts.length]
theorem Cs.imp{T:Ts}:∀{xs:T5},Cs w p T xs->(∀k,p k->k<w.heap.size->q k)->Cs w q T xs:=by
 induction T with
 |nil=>intro xs h _;exact h
 |cons k n s ar r _ ih=>
  rintro xs ⟨v,ys,rfl,hv,h⟩ hq;exact⟨v,ys,rfl,hv.imp hq,ih h hq⟩
theorem Cs.keep{T:Ts}:∀{xs:T5},Cs w p T xs->(∀k,p k->k<w.heap.size->w'.heap[k]?=w.heap[k]?)->Cs w' p T xs:=by
 induction T with
 |nil=>intro xs h _;exact h
 |cons k n s ar r _ ih=>
  rintro xs ⟨v,ys,rfl,hv,h⟩ hk;exact⟨v,ys,rfl,hv.keep hk,ih h hk⟩
theorem Cs.below{T:Ts}{xs:T5}(h:Cs w p T xs)(hb:Below w.heap.size w w'):Cs w' p T xs:=h.keep fun k _ hk=>hb.block k hk
theorem Cs.app{T:Ts}:∀{xs ys:T5} {U:Ts},Cs w p T xs->Cs w p U ys->Cs w p (T.app U) (xs++ys):=by
 induction T with
 |nil=>intro xs ys U h h';rw[show xs=[]from h];exact h'
 |cons k n s ar r _ ih=>
  rintro xs ys U ⟨v,zs,rfl,hv,h⟩ h';exact⟨v,zs++ys,rfl,hv,ih h h'⟩
theorem Cs.seg{T:Ts}:∀{xs:T5} {b o:Nat},Cs w p T xs->(0<T.length->p b)->(∀j u,xs[j]?=some u->w.cell? ⟨b,o+j,none⟩=some u)->CY w p T b o:=by
 induction T with
 |nil=>intros;trivial
 |cons k n s ar r _ ih=>
  rintro xs b o ⟨v,_,rfl,hv,h⟩ hp hc;have hb:p b:=hp YS;refine Q6.2 ⟨hb,by simpa using hc 0 _ rfl,hc 1 _ rfl,hc 2 _ rfl,⟨v,hc 3 _ rfl,hv⟩,ih h (fun _=>hb) fun j u hu=> ?_⟩;have:=hc (j+4) u (by grind)
  grind
theorem CY.cells{T:Ts}:∀{b o:Nat},CY w p T b o->∃xs,Cs w p T xs/\∀j u,xs[j]?=some u->w.cell? ⟨b,o+j,none⟩=some u:=by
 induction T with
 |nil=>intro b o _;exact⟨[],rfl,fun j u hu=>by grind⟩
 |cons k n s ar r _ ih=>
  intro b o h;obtain⟨h1,h2,h3,h4,⟨v,h5,h6⟩,h8⟩:=Q6.1 h;obtain⟨ys,hy,hc⟩:=ih h8;refine⟨_,⟨v,ys,rfl,h6,hy⟩,fun j u hu=> ?_⟩
  grind
theorem Cs.one{T:Ts}:∀{xs:T5},Cs w p T xs->∀u∈xs,u.oneCell'=true:=by
 induction T with
 |nil=>intro xs h u hu;rw[show xs=[]from h]at hu;cases hu
 |cons k n s ar r _ ih=>
  rintro xs ⟨_,_,rfl,⟨A,c,rfl,_⟩,h⟩ u hu;simp only[XV]at hu;rcases hu with rfl|rfl|rfl|rfl|hu
  .rfl
  .rfl
  .rfl
  .rfl
  grind
theorem Sl.own{T:Ts}{base:Nat}{e:TypeId}{v:TH}{xs:T5}(h:w.ownsRow base e 4 v T.length xs)(hc:Cs w p T xs)(hp:∀g,v.ownBlock=some g->p g):Sl w p v T:=by
 rcases h.2 with⟨rfl,hn⟩|⟨g,cap,cur,rfl,_,_,Gk,_⟩
 .exact⟨none,0,by rw[hn],by omega,fun hl=>absurd hl Ya⟩
 .refine⟨_,cap,rfl,Gk,fun _=>⟨g,0,rfl,hc.seg (fun _=>hp g rfl) fun j u hu=> ?_⟩⟩;have:=h.cells (g:=g) rfl j u hu;grind[Addr.add]
end
theorem QdK{P:Program}{w:TG}{a:Addr}{f:Fn}{x y:T9}{u:TH}(h:w.cell? a=some u)(hf:w.frozen? a=false):(store a (.func f x y)).run P w= .ok () (w.setCell a (.func f x y)):=by
 simp[store,Sem.run,h,hf]
theorem Qf7(w:TG)(u v:TH)(t:TypeId):(w.alloc (.cells #[u] t)).setCell ⟨w.heap.size,0,none⟩ v=w.alloc (.cells #[v] t):=by
 show({ w with heap:=(w.heap.push (.cells #[u] t)).modify w.heap.size _ }:TG)={ w with heap:=w.heap.push (.cells #[v] t) };congr 1;grind
theorem Qwt{a:T9}{i:Nat}{v:TH}(h:a[i]?=some v):a.setIfInBounds i v=a:=by
 grind
theorem TL{w:TG}{base:Nat}{e:TypeId}{size:Nat}{v:TH}{n:Nat}{xs:T5}(h:w.ownsRow base e size v n xs):∃A cap,v= .slice A n cap:=by
 rcases h.2 with⟨rfl,rfl⟩|⟨g,cap,cur,rfl,_⟩
 .grind
 grind
theorem Qum{w:TG}{base:Nat}{e:TypeId}{size:Nat}{A:T4}{n c:Nat}{xs:T5}(h:w.ownsRow base e size (.slice A n c) n xs):
  n<=c/\∃(g:Nat) (cur:T9),0<n->A=some ⟨g,0,none⟩/\base<=g/\QR w g e cur/\∀(j:Nat) u,xs[j]?=some u->cur[j]?=some u:=by
 rcases h.2 with⟨h1,rfl⟩|⟨g,cap,cur,h1,hb,hh,Gk,_,_,pY⟩
 .simp_all
 .simp only[JV,WG]at h1;obtain⟨rfl,rfl⟩:=h1;refine⟨Gk,g,cur,fun _=>⟨rfl,hb,hh,fun j u hu=> ?_⟩⟩;grind
theorem QmQ(w:TG)(cs:T5)(t:TypeId):∀j u,cs[j]?=some u->(w.alloc (.cells cs.toArray t)).cell? ((⟨w.heap.size,0,none⟩:Addr).add j)=some u:=by
 intro j u hu;have h:=(QR.new w t cs.toArray).cell j;grind[Addr.add]
theorem Qun{w w':TG}{base:Nat}{e:TypeId}{size:Nat}{v:TH}{n:Nat}{xs:T5}(h:w.ownsRow base e size v n xs)(hb:Below w.heap.size w w'):w'.ownsRow base e size v n xs:=
 h.kept (row:=none) ⟨hb.os,hb.tape,hb.output,hb.size,fun k hk _=>hb.block k hk⟩ (by grind)
theorem QbI{P:Program}(w:TG){oI:TB}{rest:TC}{o:Oper}{a:Act}{Q:Exit->Act->TG->Prop}(rK:o.guard=none)(s x:Operand)(t:TypeId)
  (ho:o.op= .call { callee:= .builtin .append,args:= #[s,x],argTypes:= #[t,t] })
  (base:Nat) (e:TypeId) (i:TypeInfo) (z:TH) (size bytes:Nat) (ht:P.underlying t=some (.slice e)) (hi:P.info? e=some i) (hz:i.zero=some z)
  (xD:i.size=size) (Oi:i.bytes=bytes) (wO:z.cells.size=size) (Dc:0<size)
  (v:TH) (n:Nat) (xs:T5) (hs:a.eval s=v) (uL:w.ownsRow base e size v n xs)
  (ad:Addr) (m c:Nat) (qC:T5) (hx:a.eval x= .slice (some ad) m c) (hl:qC.length=m*size) (De:∀j u,qC[j]?=some u->w.cell? (ad.add j)=some u) (h1:∀u∈qC,u.oneCell'=true)
  (Gm:n+m<=maxLen) (uM:(n+m)*bytes<=140737488355328) (Oj:base<=w.heap.size)
  (h:∀v' w',w'.ownsRow base e size v' (n+m) (xs++qC)->w.grownBy w' v.ownBlock->(v'.ownBlock=v.ownBlock\/v'.ownBlock=some w.heap.size)->wpList P oI Q rest (a.put o.dst v') w'):wpList P oI Q (o::rest) a w:=by
 refine Xah rK fun K hK=> ?_;obtain⟨v',w',hr,h2,h3,_,h5⟩:=run_append_own_at (P:=P) w base t o.type e i z size bytes ht hi hz xD Oi wO Dc v n xs uL ad m c qC hl De h1 Gm uM Oj;unfold Oper.wp execOp;simp only[ho,resolve,invoke,builtin,Sem.run_bind,Sem.run_pure,XW,VZ,VE,JA,hs,hx,hr];exact hK _ _ (h v' w' h2 h3 h5)
theorem TZ{s t:TJ}:s.toList=t.toList↔s=t:=by
 rw[V8,V8];constructor
 .intro h;have:s.data=t.data:=Array.toList_inj.1 h;cases s;simp_all
 grind
theorem CY.skip{w:TG}{p:Nat->Prop}{R:Ts}{b:Nat}:∀{D:Ts} {o:Nat},CY w p (D.app R) b o->CY w p R b (o+D.length*4):=by
 intro D
 induction D with
 |nil=>grind[Ts.app,Ts.length]
 |cons k n s ar r _ ih=>
  intro o h;have:=ih (Q6.1 h).2.2.2.2.2;grind[Ts.length]
theorem Sl.at_{w:TG}{p:Nat->Prop}{A:T4}{len c:Nat}{D R:Ts}(h:Sl w p (.slice A len c) (D.app R))(hR:0<R.length):
  ∃b o,A=some ⟨b,o,none⟩/\CY w p R b (o+D.length*4):=by
 obtain⟨_,_,e,_,hs⟩:=h;grind[Ts.length_app,CY.skip]
structure AM(S:Nat->Prop)(w w':TG):Prop where
 os:w'.os=w.os
 tape:w'.tape=w.tape
 output:w'.output=w.output
 size:w.heap.size<=w'.heap.size
 block:∀k,k<w.heap.size->¬S k->w'.heap[k]?=w.heap[k]?
section
variable{S S':Nat->Prop}{w w' qQ:TG}
theorem AM.refl(S:Nat->Prop)(w:TG):AM S w w:=⟨rfl,rfl,rfl,XF _,fun _ _ _=>rfl⟩
theorem AM.trans(h:AM S w w')(h':AM S' w' qQ)(hs:∀k,k<w.heap.size->S' k->S k):AM S w qQ:=
 ⟨h'.os.trans h.os,h'.tape.trans h.tape,h'.output.trans h.output,X9 h.size h'.size,fun k hk hS=>(h'.block k (W3 hk h.size) fun uW=>hS (hs k hk uW)).trans (h.block k hk hS)⟩
theorem AM.of_fresh(h:Below w.heap.size w w'):AM S w w':=⟨h.os,h.tape,h.output,h.size,fun k hk _=>h.block k hk⟩
theorem AM.of_grown{row:TD}(h:w.grownBy w' row):AM (fun k=>row=some k) w w':=⟨h.os,h.tape,h.output,h.size,fun k hk hS=>h.block k hk fun e=>hS e.symm⟩
theorem AM.below{B:Nat}(h:AM S w w')(hB:B<=w.heap.size)(hs:∀k,S k->k<w.heap.size->B<=k):Below B w w':=
 ⟨h.os,h.tape,h.output,h.size,fun k hk=>h.block k Ya fun hS=>by grind⟩
theorem AM.setCell(h:AM S w w'){p:Addr}(hp:p.block<w.heap.size->S p.block)(u:TH):AM S w (w'.setCell p u):=
 ⟨h.os,h.tape,h.output,by simpa[World.setCell]using h.size,fun k hk hS=>(JT w' p u k (fun e=>hS (e ▸ hp (e ▸ hk)))).trans (h.block k hk hS)⟩
theorem AM.alloc(h:AM S w w')(o:Obj):AM S w (w'.alloc o):=
 ⟨h.os,h.tape,h.output,X9 h.size Yd,fun k hk hS=>(JF w' o k (W3 hk h.size)).trans (h.block k hk hS)⟩
theorem AM.drew(h:AM S w w'):AM S w w'.drew:=⟨h.os,h.tape,h.output,h.size,h.block⟩
theorem QR.chg{g:Nat}{t:TypeId}{cs:T9}(h:QR w g t cs)(hc:AM S w w')(hg:¬S g):QR w' g t cs:=(hc.block g h.lt hg).trans h
theorem QpG{base:Nat}{e:TypeId}{size:Nat}{v:TH}{n:Nat}{xs:T5}(h:w.ownsRow base e size v n xs)(hc:AM S w w')(hv:∀g,v.ownBlock=some g->¬S g):w'.ownsRow base e size v n xs:=by
 obtain⟨h1,h2⟩:=h;refine⟨h1,?_⟩;rcases h2 with h2|⟨g,cap,cur,rfl,hg,hh,r⟩
 .grind
 .have hl:g<w.heap.size:=by
   grind
  exact .inr ⟨g,cap,cur,rfl,hg,(hc.block g hl (hv g rfl)).trans hh,r⟩
theorem Sl.chg{p:Nat->Prop}{T:Ts}{v:TH}(h:Sl w p v T)(hc:AM S w w')(hp:∀k,p k->¬S k):Sl w' p v T:=h.keep fun k hk hl=>hc.block k hl (hp k hk)
end
def EL(c:UInt8):Bool:=decide ((c.toNat:Int)>=65)&&decide ((c.toNat:Int)<=90)
def BF(c:UInt8):Bool:=decide ((c.toNat:Int)>=97)&&decide ((c.toNat:Int)<=122)
def AR(c:UInt8):Bool:=decide ((c.toNat:Int)>=48)&&decide ((c.toNat:Int)<=57)
def N4(c:UInt8):Bool:=([32,10,13,9]:AA).contains c
def BL(p:UInt8->Bool):AA->Nat
 |[]=>0
 |c::r=>bif p c then BL p r+1 else 0
theorem OM(p:UInt8->Bool):∀l:AA,BL p l<=l.length
 |[]=>XF _
 |c::r=>by
  have:=OM p r;grind[BL]
def FP(l:AA):AA:=l.dropWhile N4
theorem QqB(l:AA):(FP l).length<=l.length:=by
 unfold FP
 induction l with
 |nil=>simp
 |cons c r ih=>rw[Xa3];grind
def EP:AA:=[40,41,44,46,33]
def C9:AA->Nat
 |[]=>0
 |c::r=>
  if EL c||BF c then 1+BL BF r
  else if AR c then BL AR (c::r)
  else if c=45 then(if 0<BL AR r then 1+BL AR r else 0)
  else if([58,45]:AA).isPrefixOf (c::r)then 2
  else if EP.contains c then 1
  else 0
theorem Qnr(l:AA):C9 l<=l.length:=by
 cases l with
 |nil=>exact XF _
 |cons c r=>
  grind[OM,C9]
structure RS where
 token:AA
 rest:AA
 vars:List AA
 err:Int
def RS.fail(s:RS)(e:Int):RS:=⟨[],[],s.vars,if s.err=0 then e else s.err⟩
def RS.adv(s:RS):RS:=
 let t:=FP s.rest
 if C9 t=0/\t≠[]then s.fail 1 else⟨t.take (C9 t),t.drop (C9 t),s.vars,s.err⟩
def RS.take(s:RS)(tok:AA):RS:=if s.token=tok then s.adv else(s.fail 1).adv
def RS.left(s:RS):Nat:=s.token.length+s.rest.length
theorem Qhd(s:RS):s.adv.left<=s.rest.length:=by
 grind[RS.left,RS.adv,RS.fail,QqB]
theorem K9(s:RS)(h:s.token≠[]):s.adv.left<s.left:=by
 have:=Qhd s;unfold RS.left at*
 cases ht:s.token with
 |nil=>grind
 |cons c r=>grind
theorem QoI(s:RS)(e:Int):(s.fail e).left=0:=rfl
theorem take_left(s:RS)(t:AA):(s.take t).left<=s.left:=by
 grind[RS.left,RS.take,RS.fail,Qhd]
def OX:List AA->AA->Nat
 |[],_=>0
 |v::r,x=>if v=x then 0 else OX r x+1
def RS.var(s:RS)(x:AA):Nat×RS:=if x∈s.vars then(OX s.vars x,s)else(s.vars.length,{ s with vars:=s.vars++[x] })
structure Nd where
 k:Int
 n:Int
 s:AA
 ar:Ts
def Nd.zero:Nd:=⟨0,0,[],.nil⟩
def AJ:List Nd->Ts
 |[]=> .nil
 |x::r=> .cons x.k x.n ⟨x.s.toArray⟩ x.ar (AJ r)
section
variable(num:AA->Option Int)
def RS.number(s:RS)(tok:AA):Int×RS:=match num tok with|some n=>(n,s)|none=>(0,s.fail 1)
def C7(f:RS->Nd×RS):Nat->RS->List Nd×RS
 |0,s=>([],s)
 |fuel+1,s=>if s.token=[44]then
   let p:=f s.adv
   let q:=C7 f fuel p.2
   (p.1::q.1,q.2)
  else([],s)
def QY(f:RS->Nd×RS)(s:RS):List Nd×RS:=
 let p:=f s
 let q:=C7 f p.2.left p.2
 (p.1::q.1,q.2)
def G1:AA->UInt8
 |[]=>0
 |c::_=>c
def QI:Nat->RS->Nd×RS
 |0,s=>(Nd.zero,s.fail 1)
 |d+1,s=>
  if s.token=[]then(Nd.zero,s.fail 1)else
  let c:=G1 s.token
  let s1:=s.adv
  if EL c then(⟨0,(s1.var s.token).1,[],.nil⟩,(s1.var s.token).2)
  else if BF c&&(s1.token==[40])then
   let q:=QY (QI d) (s1.take [40])
   (⟨3,0,s.token,AJ q.1⟩,q.2.take [41])
  else if BF c||(c==33)then(⟨1,0,s.token,.nil⟩,s1)
  else if AR c||(c==45)then(⟨2,(s1.number num s.token).1,[],.nil⟩,(s1.number num s.token).2)
  else(Nd.zero,s1.fail 1)
end
theorem OH{c:UInt8}{n:Nat}(h:c.toNat=n):c=UInt8.ofNat n:=by subst h;simp
theorem Qj1(c:UInt8)(w:TG):Calls prog 114 #[.int .u8 c.toNat] w fun e w'=>e= .returned (.bool (EL c))/\w'=w:=by
 refine Qg func114 rfl ntmps114 rfl ?_;apply Zq.e.h.r.g.1;unfold EL;cases decide ((c.toNat:Int)>=65)
 .apply Zq.cG.a9.1;exact Yer
 .apply Zq.P.cP.a9.1;exact Yer
theorem Qcp(c:UInt8)(w:TG):Calls prog 116 #[.int .u8 c.toNat] w fun e w'=>e= .returned (.bool (BF c))/\w'=w:=by
 refine Qg func116 rfl ntmps116 rfl ?_;apply Zq.e.h.r.g.1;unfold BF;cases decide ((c.toNat:Int)>=97)
 .apply Zq.cG.a9.1;exact Yes
 .apply Zq.P.cP.a9.1;exact Yes
theorem Qep(c:UInt8)(w:TG):Calls prog 118 #[.int .u8 c.toNat] w fun e w'=>e= .returned (.bool (AR c))/\w'=w:=by
 refine Qg func118 rfl ntmps118 rfl ?_;apply Zq.e.h.r.g.1;unfold AR;cases decide ((c.toNat:Int)>=48)
 .apply Zq.cG.a9.1;exact Yet
 .apply Zq.P.cP.a9.1;exact Yet
theorem QiC(p:UInt8->Bool)(g:FuncId)(hc:Qg5 prog g=true)(hg:∀(c:UInt8) (w:TG),Calls prog g #[.int .u8 c.toNat] w fun e w'=>e= .returned (.bool (p c))/\w'=w)
  (l:AA) (w:TG) (hl:l.length<=1048576):Calls prog 172 #[sv l,.func (.func g) #[] #[]] w fun e w'=>e= .returned (.int .i64 (BL p l:Nat))/\w'=w:=by
 refine Qh func172 rfl ntmps172 rfl ?_;apply Zq.e.e.b8.1;refine Qp 5 (6::7::8::9::10::11::12::13::14::15::16::17::18::[]) (fun(R:AA) v w'=>w'=w/\∃D,l=D++R/\v= .int .i64 (D.length:Nat)/\BL p l=D.length+BL p R) (fun R=>R.length) (l) ?_ Yb ?_
 .exact UK
 rintro R _ _ _ ⟨rfl,D,hD,rfl,hN⟩ ih;have oG:l.length=D.length+R.length:=by grind
 cases R with
 |nil=>
  simp only[XP]at oG;apply Zq.aA.cH.bB.U.q.bE.aB.1;refine Qd func172 rfl Yb ?_;exact⟨by rw[hN];rfl,rfl⟩
 |cons c r=>
  simp only[XJ]at oG
  have Df:l[((D.length:Nat):Int).toNat]?=some c:=by grind
  apply Zq.aA.cH.n.n.aP.j.1;refine P4 (QnH rfl hc (QrM Yb)) rfl ?_;refine XE (hg c _) ?_;rintro _ _ ⟨rfl,rfl⟩;apply Zq.a.1
  cases hp:p c with
  |true=>
   apply Zq.H.eM.u.C.bO.1;refine ih (r) _ _ _ ?_ ?_ Yb Yc
   .simp
   .exact⟨rfl,D++[c],by grind,by simp,by grind[BL]⟩
  |false=>
   apply Zq.q.bE.aB.1;refine Qd func172 rfl Yb ?_;grind[BL]
structure LK:Prop where
 prefix_:∀(l m:AA) (w:TG),Calls prog 173 #[sv l,sv m] w fun e w'=>e= .returned (.bool (m.isPrefixOf l))/\w'=w
 sign:∀(c:UInt8) (w:TG),Calls prog 129 #[sv EP,.int .u8 c.toNat] w fun e w'=>(∃i:Int,e= .returned (.int .i64 i)/\decide (i>=0)=EP.contains c)/\w'=w
theorem QeV (L1 : LK) (l : AA) (w : TG) (hl : l.length <= 1048576) : Calls prog 113 #[sv l] w fun e w' => e = .returned (.int .i64 (C9 l : Nat)) /\ w' = w := by
 cases l with
 |nil=>
  apply Zq.lZ.e.b8.h.V.dQ.e.e7.1;exact FI
 | cons c r =>
  have h1:=OM BF r;have h2:=OM AR r;simp only[XJ]at hl;apply Zq.lZ.e.b8.h.V.bT.h.aP.F.1;refine XE (Qj1 c _) ?_;rintro _ _ ⟨rfl,rfl⟩;apply Zq.c0.1
  cases hu:EL c with
  |true=>
   apply Zq.cG.U.cR.h.i1.f.nM.1;rintro _ w2 ⟨rfl,rfl⟩;apply Zq.a.C.c.e7.eI.1;simp[C9,hu]
  |false=>
   apply Zq.P.aP.j.F.i6.1;rintro _ w2 ⟨rfl,rfl⟩;apply Zq.a.a9.1
   cases qI:BF c with
   |true=>
    apply Zq.cD.h.i1.f.nM.1;rintro _ w3 ⟨rfl,rfl⟩;apply Zq.a.C.c.e7.eI.1;grind[C9]
   |false=>
    apply Zq.bS.h.aP.F.1;refine XE (Qep c _) ?_;rintro _ w3 ⟨rfl,rfl⟩;apply Zq.aJ.1
    cases hd:AR c with
    |true=>
     apply Zq.cD.aF.1;refine XE (QiC AR _ Yc Qep (c::r) _ Yg) ?_;rintro _ w4 ⟨rfl,rfl⟩;apply Zq.aJ.e7.eI.1;grind[C9]
    |false=>
     by_cases hm:c=45
     .subst hm;apply Zq.bS.h.aP.l.dQ.h.i1.f.1;refine XE (QiC AR _ Yc Qep r _ Ya) ?_;rintro _ w4 ⟨rfl,rfl⟩;apply Zq.aJ.h.S.b.1;refine MI rfl (fun h=> ?_) (fun h=> ?_)
      .have h':0<BL AR r:=by grind
       apply Zq.h.C.c.e7.eI.1;grind[C9]
      .have h':¬0<BL AR r:=by grind
       apply Zq.aW.aX.e.e7.eI.1;grind[C9]
     .have hm':((c.toNat:Nat):Int)≠45:=fun h=>hm (OH (n:=45) Ya);apply Zq.bS.h.aP.l.bT.aF.1;refine XE (L1.prefix_ (c::r) [58,45] _) ?_;rintro _ w4 ⟨rfl,rfl⟩;apply Zq.aJ.1
      cases hp:([58,45]:AA).isPrefixOf (c::r)with
      |true=>
       apply Zq.cD.e.e7.eI.1;grind[C9]
      |false=>
       apply Zq.bS.h.aP.f.1;refine XE (L1.sign c _) ?_;rintro _ _ ⟨⟨_,rfl,hi⟩,rfl⟩;apply Zq.a.r.c.1;refine MI rfl (fun h=> ?_) (fun h=> ?_)
       .apply Zq.e.e7.eI.1
        grind[C9]
       .apply Zq.aW.aX.e.e7.eI.1
        grind[C9]
end Go.Proofs.YthliapbflkfdiacGreatDoor
