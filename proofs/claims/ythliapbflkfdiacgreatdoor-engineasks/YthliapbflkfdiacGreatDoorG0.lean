/- Steps of the proof. -/
import Derived.Test.YthliapbflkfdiacGreatDoorZ0
set_option linter.unusedVariables false
set_option linter.unusedSimpArgs false
set_option maxRecDepth 100000
set_option maxHeartbeats 1000000
namespace Go.Proofs.YthliapbflkfdiacGreatDoor
open Go.RowKit
abbrev AW:=List (Nat×TH)
def lk:AW->Nat->TH
 |[],_=>undef
 |(i,v)::e,j=>bif Nat.beq i j then v else lk e j
def DG(n:Nat)(e:AW):T9:=((List.range n).map (lk e)).toArray
def AF(n:Nat)(e:AW):Act:=⟨DG n e,[]⟩
def ev(n:Nat)(e:AW):Operand->TH
 | .tmp t=>bif Nat.blt t n then lk e t else undef
 | .const v=>v
 | .global g=> .pointer (some ⟨g,0,none⟩)
 | .func f=> .func (.func f) #[] #[]
theorem Qvy{t n:Nat}(h:¬t<n):Nat.blt t n=false:=by
 cases hb:Nat.blt t n with
 |false=>rfl
 |true=>exact absurd (by simp_all) h
theorem I3(n:Nat)(e:AW)(t:Nat):(DG n e).getD t undef=bif Nat.blt t n then lk e t else undef:=by
 by_cases h:t<n
 .have h':Nat.blt t n=true:=by simp_all
  simp[DG,h,h']
 grind[Qvy,DG]
theorem SL(n:Nat)(e:AW):(AF n e).eval=ev n e:=by
 funext x
 cases x with
 |tmp t=>exact I3 n e t
 |const v=>rfl
 |global g=>rfl
 |func f=>rfl
theorem SC{n:Nat}{e:AW}{d:Nat}{v:TH}(hd:Nat.blt d n=true):(AF n e).put (some d) v=AF n ((d,v)::e):=by
 have h':d<n:=by simp_all
 show(⟨(DG n e).setIfInBounds d v,[]⟩:Act)=⟨DG n ((d,v)::e),[]⟩;unfold DG;congr 1;apply Array.ext
 .simp
 .intro i h1 h2;simp only[XaZ,WY,WL,VQ,List.length_range]at h1;simp only[XaZ,List.getElem_toArray,List.getElem_set,List.getElem_map,List.getElem_range,lk];simp_all
def RG:Nat->T5->AW
 |_,[]=>[]
 |i,v::r=>(i,v)::RG (i+1) r
theorem Qre:∀(l:T5) (i j:Nat),lk (RG i l) (i+j)=l[j]?.getD undef
 |[],_,_=>by simp[RG,lk]
 |v::r,i,0=>by simp[RG,lk]
 |v::r,i,j+1=>by
  have h:Nat.beq i (i+(j+1))=false:=by
   cases hb:Nat.beq i (i+(j+1))with
   |false=>rfl
   |true=>simp_all
  simp only[RG,lk,h,WC];rw[show i+(j+1)=(i+1)+j by omega,Qre r (i+1) j];simp
theorem QvW{n:Nat}{l:T5}(hl:Nat.ble l.length n=true):(⟨l.toArray++Array.replicate (n-l.toArray.size) undef,[]⟩:Act)=AF n (RG 0 l):=by
 have hl:l.length<=n:=Xa0 hl;unfold AF DG;congr 1;apply Array.ext
 .grind
 .intro i h1 h2;simp only[List.getElem_toArray,List.getElem_map,List.getElem_range];have:=Qre l 0 i;grind
def AG(P:Program)(f:FuncId)(R:Ending->TG->Prop)(vG:List Item)(a:Act)(w:TG):Prop:=
 ∀(b:Frame) (cs:List Frame),b.fn=f->b.kind= .normal->∃e w' fr,R e w'/\Comes P (lone (b.at a vG) cs w) (lone fr cs w') e/\fr.fn=f/\fr.leaving P w' e
section
variable{P:Program}{f:FuncId}{R:Ending->TG->Prop}{k:List Item}{n:Nat}{e:AW}{w:TG}
theorem AG.step{vG Ie:List Item}{a a':Act}{w w':TG}(hs:∀(b:Frame) (cs:List Frame),Steps P (lone (b.at a vG) cs w) (lone (b.at a' Ie) cs w'))
  (h:AG P f R Ie a' w'):AG P f R vG a w:=fun b cs hb hk=>by
 obtain⟨e,w2,fr,hR,hc,qH⟩:=h b cs hb hk;grind[Comes.of_steps]
theorem AG.mono{R':Ending->TG->Prop}{vG:List Item}{a:Act}(h:AG P f R vG a w)(hr:∀e w,R e w->R' e w):AG P f R' vG a w:=fun b cs hb hk=>by
 obtain⟨e,w2,fr,hR,hc⟩:=h b cs hb hk;grind
theorem TU{fn:Func}{c:Code}{l:T5}(hf:P.funcs[f]?=some fn)(hb:fn.body=some c)(hn:fn.ntmps=n)(hl:Nat.ble l.length n=true)
  (h:AG P f R [.code c] (AF n (RG 0 l)) w):Calls P f l.toArray w R:=by
 intro cs
 let b:Frame:={ (default:Frame)with fn:=f,kind:= .normal }
 have Jn:Frame.enter P f l.toArray .normal=b.at (AF n (RG 0 l)) [.code c]:=by
  grind[Frame.enter,Frame.at,QvW]
 obtain⟨e,w',fr,hR,hc,hr1,zI⟩:=h b cs rfl rfl;grind
theorem Qp5{fn:Func}{c:Code}(hf:P.funcs[f]?=some fn)(hb:fn.body=some c)(hn:fn.ntmps=n)(hl:Nat.ble 0 n=true)
  (h:AG P f R [.code c] (AF n []) w):Calls P f #[] w R:=TU (l:=[]) hf hb hn hl h
theorem Qg{fn:Func}{c:Code}{a0:TH}(hf:P.funcs[f]?=some fn)(hb:fn.body=some c)(hn:fn.ntmps=n)(hl:Nat.ble 1 n=true)
  (h:AG P f R [.code c] (AF n [(0,a0)]) w):Calls P f #[a0] w R:=TU (l:=[a0]) hf hb hn hl h
theorem Qh{fn:Func}{c:Code}{a0 a1:TH}(hf:P.funcs[f]?=some fn)(hb:fn.body=some c)(hn:fn.ntmps=n)(hl:Nat.ble 2 n=true)
  (h:AG P f R [.code c] (AF n [(0,a0),(1,a1)]) w):Calls P f #[a0,a1] w R:=TU (l:=[a0,a1]) hf hb hn hl h
theorem QQ{fn:Func}{c:Code}{a0 a1 a2:TH}(hf:P.funcs[f]?=some fn)(hb:fn.body=some c)(hn:fn.ntmps=n)(hl:Nat.ble 3 n=true)
  (h:AG P f R [.code c] (AF n [(0,a0),(1,a1),(2,a2)]) w):Calls P f #[a0,a1,a2] w R:=TU (l:=[a0,a1,a2]) hf hb hn hl h
theorem TM{fn:Func}{c:Code}{a0 a1 a2 a3:TH}(hf:P.funcs[f]?=some fn)(hb:fn.body=some c)(hn:fn.ntmps=n)(hl:Nat.ble 4 n=true)
  (h:AG P f R [.code c] (AF n [(0,a0),(1,a1),(2,a2),(3,a3)]) w):Calls P f #[a0,a1,a2,a3] w R:=TU (l:=[a0,a1,a2,a3]) hf hb hn hl h
theorem Qet{fn:Func}{c:Code}{a0 a1 a2 a3 a4:TH}(hf:P.funcs[f]?=some fn)(hb:fn.body=some c)(hn:fn.ntmps=n)(hl:Nat.ble 5 n=true)
  (h:AG P f R [.code c] (AF n [(0,a0),(1,a1),(2,a2),(3,a3),(4,a4)]) w):Calls P f #[a0,a1,a2,a3,a4] w R:=TU (l:=[a0,a1,a2,a3,a4]) hf hb hn hl h
theorem Qw7{x y:Code}{a:Act}(h:AG P f R (.code x:: .code y::k) a w):AG P f R (.code (.seq x y)::k) a w:=h.step fun _ _=> .one step_seq
theorem Qvb{a:Act}(h:AG P f R k a w):AG P f R (.code .skip::k) a w:=h.step fun _ _=> .one step_skip
theorem QsQ{id:Nat}{c:Code}{a:Act}(h:AG P f R (.code c:: .inBlock id::k) a w):AG P f R (.code (.block id c)::k) a w:=h.step fun _ _=> .one step_block
theorem QoD{id:Nat}{a:Act}(h:AG P f R k a w):AG P f R (.inBlock id::k) a w:=h.step fun _ _=> .one step_inBlock
theorem Qvc{id:Nat}{k':List Item}{a:Act}(hk:exitTo id k=some k')(h:AG P f R k' a w):AG P f R (.code (.exit id)::k) a w:=h.step fun _ _=> .one (step_exit hk)
theorem QoA{c:Operand}{x y:Code}(hc:ev n e c= .bool true)(h:AG P f R (.code x::k) (AF n e) w):AG P f R (.code (.cond c x y)::k) (AF n e) w:=
 h.step fun _ _=> .one (step_cond (t:=true) (by rw[SL];exact hc))
theorem QlN{c:Operand}{x y:Code}(hc:ev n e c= .bool false)(h:AG P f R (.code y::k) (AF n e) w):AG P f R (.code (.cond c x y)::k) (AF n e) w:=
 h.step fun _ _=> .one (step_cond (t:=false) (by rw[SL];exact hc))
theorem MI{c:Operand}{x y:Code}{b:Bool}(hc:ev n e c= .bool b)(ht:b=true->AG P f R (.code x::k) (AF n e) w)(hf:b=false->AG P f R (.code y::k) (AF n e) w):
  AG P f R (.code (.cond c x y)::k) (AF n e) w:=by
 cases b with
 |true=>grind[QoA]
 |false=>grind[QlN]
theorem QgY{c:Code}{α:Type}(I:α->Act->TG->Prop)(μ:α->Nat){x:α}{a:Act}(h0:I x a w)
  (round:∀x a w,I x a w->(∀y a' w',μ y<μ x->I y a' w'->AG P f R (.inLoop c::k) a' w')->AG P f R (.code c:: .inLoop c::k) a w):AG P f R (.code (.loop c)::k) a w:=by
 have key:∀m x a w,μ x=m->I x a w->AG P f R (.code c:: .inLoop c::k) a w:=by
  intro m
  induction m using Nat.strongRecOn with
  |_ m ih=>
   grind[AG.step,Steps.one,step_inLoop]
 grind[AG.step,Steps.one,step_loop]
theorem QiQ{fn:Func}{v:TH}(hf:P.funcs[f]?=some fn)(hr:∀w,(results fn (DG n e)).run P w= .ok v w)(hR:R (.returned v) w):AG P f R (.code .ret::k) (AF n e) w:=by
 intro b cs hb hk;refine⟨.returned v,w,{ b.at (AF n e) (.code .ret::k)with mode:= .returning },hR,W2 step_ret,hb,rfl,rfl,hk,fn,?_,hr w⟩;exact Yei
theorem Qw9{fn:Func}{v:TH}(hf:P.funcs[f]?=some fn)(hr:∀w,(results fn (DG n e)).run P w= .ok v w)(hR:R (.returned v) w):AG P f R [] (AF n e) w:=by
 intro b cs hb hk;refine⟨.returned v,w,{ b.at (AF n e) []with mode:= .returning },hR,W2 step_end,hb,rfl,rfl,hk,fn,?_,hr w⟩;exact Yei
theorem QoB{fn:Func}(hf:P.funcs[f]?=some fn)(hr:fn.results= #[])(hR:R (.returned (.tuple #[])) w):AG P f R (.code .ret::k) (AF n e) w:=
 QiQ hf (fun _=>results_none hr _ _ _) hR
theorem QN{fn:Func}(hf:P.funcs[f]?=some fn)(hr:fn.results= #[])(hR:R (.returned (.tuple #[])) w):AG P f R [] (AF n e) w:=
 Qw9 hf (fun _=>results_none hr _ _ _) hR
theorem Qd{fn:Func}{t:Nat}{v:TH}(hf:P.funcs[f]?=some fn)(hr:fn.results= #[.tmp t])(hv:ev n e (.tmp t)=v)(hR:R (.returned v) w):AG P f R (.code .ret::k) (AF n e) w:=
 QiQ hf (fun w=>by rw[results_tmp hr,I3,<-hv];rfl) hR
theorem LP{fn:Func}{t u:Nat}{v v2:TH}(hf:P.funcs[f]?=some fn)(hr:fn.results= #[.tmp t,.tmp u])(hv:ev n e (.tmp t)=v)(pG:ev n e (.tmp u)=v2)(hR:R (.returned (.tuple #[v,v2])) w):AG P f R (.code .ret::k) (AF n e) w:=
 QiQ hf (fun w=>by rw[results_tmp2 hr,I3,I3,<-hv,<-pG];rfl) hR
theorem Qfi{fn:Func}{t u x:Nat}{v v2 v3:TH}(hf:P.funcs[f]?=some fn)(hr:fn.results= #[.tmp t,.tmp u,.tmp x])(hv:ev n e (.tmp t)=v)(pG:ev n e (.tmp u)=v2)(qZ:ev n e (.tmp x)=v3)(hR:R (.returned (.tuple #[v,v2,v3])) w):AG P f R (.code .ret::k) (AF n e) w:=
 QiQ hf (fun w=>by
  rw[<-hv,<-pG,<-qZ];simp only[results,hr];have h:=I3 n e;simp only[ZA]at h
  simp[ev,h]) hR
def qk(P:Program)(f:FuncId)(R:Ending->TG->Prop)(k:List Item):Exit->Act->TG->Prop
 | .normal,a,w=>AG P f R k a w
 |_,_,_=>False
theorem QhH{c:Code}{a:Act}(h:c.wp P (qk P f R k) a w):AG P f R (.code c::k) a w:=by
 intro b cs hb hk;obtain⟨e,_,_,hq,Xe⟩:=h b k cs
 cases e with
 |normal=>
  obtain⟨e2,w2,fr,hR,hc,qH⟩:=hq b cs hb hk;exact⟨e2,w2,fr,hR,hc.of_steps Xe,qH⟩
 |exit id=>exact hq.elim
 |goto l=>exact hq.elim
 |ret=>exact hq.elim
 |panic ch=>exact hq.elim
 |outgrown=>exact hq.elim
def AU(P:Program)(Q:Exit->Act->TG->Prop)(oI:TB)(l:TC)(n:Nat)(e:AW)(w:TG):Prop:=wpList P oI Q l (AF n e) w
theorem Qp2{id:Nat}{l:TC}(h:AU P (qk P f R k) l.toArray l n e w):AG P f R (.code (.region id l.toArray false)::k) (AF n e) w:=QhH (wp_region_lit h)
theorem QwP{oI:TB}(h:AG P f R k (AF n e) w):AU P (qk P f R k) oI [] n e w:=h
end
section
variable{P:Program}{n:Nat}{e:AW}{w:TG}{Q:Exit->Act->TG->Prop}
variable{oI:TB}{rest:TC}{ty:TypeId}{pos:String}{after:TE}{d:Nat}
theorem Qa{op:Op}{v:TH}{w':TG}(hr:(execOp (ev n e) ⟨some d,op,ty,pos,after,none⟩).run P w= .ok (.value v) w')(hd:Nat.blt d n=true)
  (h:AU P Q oI rest n ((d,v)::e) w'):AU P Q oI (⟨some d,op,ty,pos,after,none⟩::rest) n e w:=by
 refine Xah rfl fun K hK=> ?_;unfold Oper.wp;rw[SL,hr];show K _ _;rw[SC hd];exact hK _ _ h
theorem Qoh{op:Op}{w':TG}(hr:(execOp (ev n e) ⟨none,op,ty,pos,after,none⟩).run P w= .ok .skip w')
  (h:AU P Q oI rest n e w'):AU P Q oI (⟨none,op,ty,pos,after,none⟩::rest) n e w:=by
 refine Xah rfl fun K hK=> ?_;unfold Oper.wp;rw[SL,hr];exact hK _ _ h
def yd(oI:TB)(n:Nat)(e:AW)(j:Nat):Option TH:=(oI[j]?).bind fun o=>o.dst.bind fun t=>bif Nat.blt t n then some (lk e t)else none
theorem QiY{j:Nat}{b:Bool}(h:yd oI n e j=some (.bool b)):yielded oI (DG n e) j=some b:=by
 unfold yd at h;unfold yielded
 cases ho:oI[j]? with
 |none=>grind
 |some o=>
  rw[ho]at h;simp only[VU]at h⊢
  cases hd:o.dst with
  |none=>grind
  |some t=>
   grind[DG,Qvy]
theorem QkS{op:Op}{dst:TD}{j:Nat}{g b:Bool}(hy:yd oI n e j=some (.bool b))(hb:b=g):Region.wanted ⟨dst,op,ty,pos,after,some (j,g)⟩ (yielded oI (AF n e).tmps)=true:=by
 grind[Region.wanted,AF,QiY]
theorem Qne{op:Op}{dst:TD}{j:Nat}{g b:Bool}(hy:yd oI n e j=some (.bool b))(hb:(!b)=g):Region.wanted ⟨dst,op,ty,pos,after,some (j,g)⟩ (yielded oI (AF n e).tmps)=false:=by
 subst hb;simp[Region.wanted,AF,QiY hy]
theorem QuO{op:Op}{dst:TD}{j:Nat}{g b:Bool}(hy:yd oI n e j=some (.bool b))(hb:b=g)
  (h:AU P Q oI (⟨dst,op,ty,pos,after,none⟩::rest) n e w):AU P Q oI (⟨dst,op,ty,pos,after,some (j,g)⟩::rest) n e w:=by
 unfold AU at h⊢;unfold wpList at h⊢;rw[XB (by simp[Region.wanted])]at h;rw[XB (QkS hy hb)];exact h
theorem QwO{op:Op}{j:Nat}{g b:Bool}(hy:yd oI n e j=some (.bool b))(hb:(!b)=g)(hd:Nat.blt d n=true)
  (h:AU P Q oI rest n ((d,undef)::e) w):AU P Q oI (⟨some d,op,ty,pos,after,some (j,g)⟩::rest) n e w:=by
 grind[AU,wpList,Qne,SC]
def Qg5 (P:Program) (g:FuncId):Bool:=match P.funcs[g]? with|some fn=>fn.name != "runtime.NumGoroutine" &&fn.body.isSome|none=>false
theorem Qh8{g:FuncId}{args:T9}(h:Qg5 P g=true):(callFunc g args).run P w= .ok (.enter g args) w:=by
 unfold Qg5 at h
 cases hf:P.funcs[g]? with
 |none=>grind
 |some fn=>
  rw[hf]at h;simp only[XI,bne_iff_ne,ne_eq]at h;obtain⟨h1,h2⟩:=h
  cases hb:fn.body with
  |none=>grind
  |some c=>simp[callFunc,hf,h1,hb,Go.program,Sem.run,bind,Sem.bind,pure]
theorem P4{op:Op}{g:FuncId}{args:T9}{w':TG}(hr:(execOp (ev n e) ⟨some d,op,ty,pos,after,none⟩).run P w= .ok (.enter g args) w')(hd:Nat.blt d n=true)
  (h:Calls P g args w' fun x w'=>∃v,x= .returned v/\AU P Q oI rest n ((d,v)::e) w'):AU P Q oI (⟨some d,op,ty,pos,after,none⟩::rest) n e w:=by
 refine Xah rfl fun K hK=> ?_;unfold Oper.wp;rw[SL,hr];refine h.mono fun x w' hx=> ?_;obtain⟨v,rfl,hx⟩:=hx;show K _ _;rw[SC hd];exact hK _ _ hx
theorem S8{g:FuncId}{Ob:Array Operand}{ts:Array TypeId}{args:T9}{dst:TD}(hg:Qg5 P g=true)(ha:Ob.map (ev n e)=args):
  (execOp (ev n e) ⟨dst,.call ⟨.value (.func g),Ob,ts⟩,ty,pos,after,none⟩).run P w= .ok (.enter g args) w:=by
 have:=Qh8 (w:=w) (args:=args) hg;rw[<-ha]at this⊢;simpa[execOp,resolve,ev,Deferred.ofValue,invoke,bind,Sem.bind,pure,Sem.run]using this
theorem QnH{x:Operand}{g:FuncId}{cap:T9}{Ob:Array Operand}{ts:Array TypeId}{args:T9}{dst:TD}(hx:ev n e x= .func (.func g) #[] cap)(hg:Qg5 P g=true)(ha:Ob.map (ev n e)=args):
  (execOp (ev n e) ⟨dst,.call ⟨.value x,Ob,ts⟩,ty,pos,after,none⟩).run P w= .ok (.enter g (args++cap)) w:=by
 have:=Qh8 (w:=w) (args:=args++cap) hg;rw[<-ha]at this⊢;simpa[execOp,resolve,hx,Deferred.ofValue,invoke,bind,Sem.bind,pure,Sem.run]using this
theorem QmX:(#[]:Array Operand).map (ev n e)= #[]:=by simp
theorem QrM{a:Operand}{x:TH}(h:ev n e a=x): #[a].map (ev n e)= #[x]:=by simp[h]
theorem QxR{a b:Operand}{x y:TH}(h:ev n e a=x)(h2:ev n e b=y): #[a,b].map (ev n e)= #[x,y]:=by grind
theorem QxQ{a b c:Operand}{x y z:TH}(h:ev n e a=x)(h2:ev n e b=y)(h3:ev n e c=z): #[a,b,c].map (ev n e)= #[x,y,z]:=by grind
theorem Qzt{a b c o:Operand}{x y z u:TH}(h:ev n e a=x)(h2:ev n e b=y)(h3:ev n e c=z)(h4:ev n e o=u): #[a,b,c,o].map (ev n e)= #[x,y,z,u]:=by grind
theorem QgF{x:Operand}{v:TH}{dst:TD}(h:ev n e x=v):(execOp (ev n e) ⟨dst,.move x,ty,pos,after,none⟩).run P w= .ok (.value v) w:=by subst h;rfl
theorem Qfr{x:Operand}{v:TH}{dst:TD}(h:ev n e x=v):(execOp (ev n e) ⟨dst,.assign x,ty,pos,after,none⟩).run P w= .ok (.value v) w:=by subst h;rfl
theorem Qk4{c x y:Operand}{v:TH}{dst:TD}(hc:ev n e c= .bool true)(h:ev n e x=v):(execOp (ev n e) ⟨dst,.pick c x y,ty,pos,after,none⟩).run P w= .ok (.value v) w:=by
 simp_all[execOp,asBool]
theorem Qk5{c x y:Operand}{v:TH}{dst:TD}(hc:ev n e c= .bool false)(h:ev n e y=v):(execOp (ev n e) ⟨dst,.pick c x y,ty,pos,after,none⟩).run P w= .ok (.value v) w:=by
 simp_all[execOp,asBool]
theorem Qjy{x:Operand}{vs:T5}{i:Nat}{v:TH}{dst:TD}(hx:ev n e x= .tuple vs.toArray)(hv:vs[i]?=some v):(execOp (ev n e) ⟨dst,.extract x i,ty,pos,after,none⟩).run P w= .ok (.value v) w:=by
 simp_all[execOp,Instr.extract]
end
attribute [irreducible] AU AG
structure BK(M:T6)(w w':TG):Prop where
 os:w'.os=w.os
 tape:w'.tape=w.tape
 output:w'.output=w.output
 size:w.heap.size<=w'.heap.size
 block:∀k,k<w.heap.size->k∉M->w'.heap[k]?=w.heap[k]?
theorem BK.refl(M:T6)(w:TG):BK M w w:=⟨rfl,rfl,rfl,XF _,fun _ _ _=>rfl⟩
theorem BK.trans{M:T6}{a b c:TG}(h:BK M a b)(g:BK M b c):BK M a c:=
 ⟨g.os.trans h.os,g.tape.trans h.tape,g.output.trans h.output,X9 h.size g.size,fun k hk hm=>(g.block k (W3 hk h.size) hm).trans (h.block k hk hm)⟩
theorem BK.mono{M M':T6}{a b:TG}(h:BK M a b)(hs:∀k,k<a.heap.size->k∈M->k∈M'):BK M' a b:=
 ⟨h.os,h.tape,h.output,h.size,fun k hk hm=>h.block k hk fun h'=>hm (hs k hk h')⟩
theorem BK.below{a b:TG}(h:BK [] a b):Below a.heap.size a b:=⟨h.os,h.tape,h.output,h.size,fun k hk=>h.block k hk Yd⟩
theorem Below.ext{M:T6}{a b:TG}(h:Below a.heap.size a b):BK M a b:=⟨h.os,h.tape,h.output,h.size,fun k hk _=>h.block k hk⟩
structure St(M:T6)(w0:TG)(H:T0)(F:T3)(w:TG):Prop where
 own:∀p∈H,w.heap[p.1]?=some p.2
 apart:H.Pairwise fun p q=>p.1≠q.1
 ext:BK M w0 w
 new:∀p∈H,p.1∈M\/w0.heap.size<=p.1
 facts:∀φ∈F,∀w',BK (H.map (·.1)) w w'->φ w'
inductive At:T0->Nat->Obj->Prop
 |head {H:T0} {b:Nat} {o:Obj}:At ((b,o)::H) b o
 |tail {H:T0} {b:Nat} {o:Obj} {p:Nat×Obj}:At H b o->At (p::H) b o
inductive I7:T0->Nat->Obj->Obj->T0->Prop
 |head {H:T0} {b:Nat} {o o':Obj}:I7 ((b,o)::H) b o o' ((b,o')::H)
 |tail {H H':T0} {b:Nat} {o o':Obj} {p:Nat×Obj}:I7 H b o o' H'->I7 (p::H) b o o' (p::H')
section
variable{M:T6}{w0 w w':TG}{H H':T0}{F:T3}{b:Nat}{o o':Obj}
theorem IW(h:w.heap[b]?=some o):b<w.heap.size:=by
 grind
theorem St.start(w:TG):St [] w [] [] w:=⟨by simp,by simp,BK.refl _ _,by simp,by simp⟩
theorem St.fact(h:St M w0 H F w){φ:TG->Prop}(hm:φ∈F):φ w:=h.facts φ hm w (BK.refl _ _)
theorem St.learn(h:St M w0 H F w){φ:TG->Prop}(hφ:∀w',BK (H.map (·.1)) w w'->φ w'):St M w0 H (φ::F) w:=
 ⟨h.own,h.apart,h.ext,h.new,fun ψ hψ w' hw=>by
  grind[facts]⟩
theorem St.forget(h:St M w0 H F w){F':T3}(hs:∀φ∈F',φ∈F):St M w0 H F' w:=⟨h.own,h.apart,h.ext,h.new,fun φ hφ=>h.facts φ (hs φ hφ)⟩
theorem St.over(h:St M w0 H F w)(hw:BK (H.map (·.1)) w w'):BK M w0 w':=
 ⟨hw.os.trans h.ext.os,hw.tape.trans h.ext.tape,hw.output.trans h.ext.output,X9 h.ext.size hw.size,fun k hk hm=>by
  have Xf:k∉H.map (·.1):=fun Xf=>by
   obtain⟨p,hp,rfl⟩:=X3.1 Xf;grind[new]
  exact(hw.block k (W3 hk h.ext.size) Xf).trans (h.ext.block k hk hm)⟩
theorem St.base(h:St M w0 H F w){φ:TG->Prop}(hφ:∀w',BK M w0 w'->φ w'):St M w0 H (φ::F) w:=h.learn fun w' hw=>hφ w' (h.over hw)
theorem St.grow(h:St M w0 H F w)(hb:Below w.heap.size w w'):St M w0 H F w':=
 ⟨fun p hp=>(hb.block _ (IW (h.own p hp))).trans (h.own p hp),h.apart,h.ext.trans (Below.ext hb),h.new,fun φ hφ w2 hw=>h.facts φ hφ w2 ((Below.ext hb).trans hw)⟩
theorem St.drew(h:St M w0 H F w):St M w0 H F w.drew:=h.grow ⟨rfl,rfl,rfl,XF _,fun _ _=>rfl⟩
theorem St.alloc(h:St M w0 H F w)(o:Obj):St M w0 ((w.heap.size,o)::H) F (w.alloc o):=by
 have hg:=h.grow ((XR w.heap.size w).alloc (XF _) o);refine⟨fun p hp=> ?_,?_,hg.ext,fun p hp=> ?_,fun φ hφ w2 hw=> ?_⟩
 .rcases XV.1 hp with rfl|hp
  .show(w.heap.push o)[w.heap.size]?=some o;simp
  grind[own]
 .refine VT.2 ⟨fun q hq=> ?_,h.apart⟩;have:=IW (h.own q hq);omega
 .rcases XV.1 hp with rfl|hp
  .exact .inr h.ext.size
  grind[new]
 .refine h.facts φ hφ w2 ⟨hw.os,hw.tape,hw.output,X9 Yd hw.size,fun k hk hm=> ?_⟩;have:=hw.block k Yg (by grind);simp_all[JF]
theorem At.mem(h:At H b o):(b,o)∈H:=by
 induction h with
 |head=>simp
 |tail _ ih=>grind
theorem St.at_(h:St M w0 H F w)(ha:At H b o):w.heap[b]?=some o:=h.own _ ha.mem
theorem I7.at_(h:I7 H b o o' H'):At H b o:=by
 induction h with
 |head=>exact .head
 |tail _ ih=>exact .tail ih
theorem I7.keys(h:I7 H b o o' H'):H'.map (·.1)=H.map (·.1):=by
 induction h with
 |head=>rfl
 |tail _ ih=>simp[ih]
theorem I7.mem(h:I7 H b o o' H'){q:Nat×Obj}(hq:q∈H')(hp:H.Pairwise fun p q=>p.1≠q.1):(q=(b,o'))\/(q∈H/\q.1≠b):=by
 induction h with
 |head=>
  rcases XV.1 hq with rfl|hq
  .exact NA
  .exact .inr ⟨XZ _ hq,JS ((VT.1 hp).1 q hq)⟩
 |tail h ih=>
  rcases XV.1 hq with rfl|hq
  .exact .inr ⟨by simp,(VT.1 hp).1 _ h.at_.mem⟩
  grind
theorem St.drop{p:Nat×Obj}(h:St M w0 (p::H) F w):St M w0 H F w:=
 ⟨fun q hq=>h.own q (XZ _ hq),(VT.1 h.apart).2,h.ext,fun q hq=>h.new q (XZ _ hq),
  fun φ hφ w2 hw=>h.facts φ hφ w2 (hw.mono fun k _ hk=>XZ _ hk)⟩
theorem St.unlearn{φ:TG->Prop}(h:St M w0 H (φ::F) w):St M w0 H F w:=h.forget fun ψ hψ=>XZ _ hψ
theorem St.cell0(h:St [] w0 H F w){a:Addr}{v:TH}(hc:w0.cell? a=some v):w.cell? a=some v:=by
 have hl:a.block<w0.heap.size:=by
  grind[World.cell?]
 rw[h.ext.below.cell hl];exact hc
theorem St.turn(h:St M w0 H F w)(u:I7 H b o o' H')(hx:BK [b] w w')(ho:w'.heap[b]?=some o'):St M w0 H' F w':=by
 have wM:b∈H.map (·.1):=X3.2 ⟨_,u.at_.mem,rfl⟩
 have wN : BK (H.map (·.1)) w w' := hx.mono fun k _ hk => by
                                grind
 refine⟨fun q hq=> ?_,?_,h.over wN,fun q hq=> ?_,fun φ hφ w2 hw=>h.facts φ hφ w2 (wN.trans (by grind[I7.keys]))⟩
 .rcases u.mem hq h.apart with rfl|⟨h1,h2⟩
  .exact ho
  .rw[hx.block q.1 (IW (h.own q h1)) (by grind)];grind[own]
 .have hk:=List.pairwise_map.2 h.apart;rw[<-u.keys]at hk;grind
 .rcases u.mem hq h.apart with rfl|⟨h1,h2⟩
  .exact h.new (b,o) u.at_.mem
  grind[new]
end
inductive TX:T5->Nat->TH->Prop
 |z {v:TH} {l:T5}:TX (v::l) 0 v
 |s {v u:TH} {l:T5} {i:Nat}:TX l i v->TX (u::l) (i+1) v
theorem TX.get{l:T5}{i:Nat}{v:TH}(h:TX l i v):l[i]?=some v:=by
 induction h with
 |z=>rfl
 |s _ ih=>grind
inductive HK:T5->Nat->Nat->T5->Prop
 |z {l:T5}:HK l 0 0 []
 |t {v:TH} {l vs:T5} {k:Nat}:HK l 0 k vs->HK (v::l) 0 (k+1) (v::vs)
 |s {u:TH} {l vs:T5} {i k:Nat}:HK l i k vs->HK (u::l) (i+1) k vs
theorem HK.length{l:T5}{i k:Nat}{vs:T5}(h:HK l i k vs):vs.length=k:=by
 induction h with
 |z=>rfl
 |t _ ih=>simp[ih]
 |s _ ih=>exact ih
theorem HK.get{l:T5}{i k:Nat}{vs:T5}(h:HK l i k vs):∀j,j<k->l[i+j]?=vs[j]?:=by
 induction h with
 |z=>omega
 |t _ ih=>
  grind
 |s _ ih=>grind
inductive FH:T5->Nat->TH->T5->Prop
 |z {v u:TH} {l:T5}:FH (u::l) 0 v (v::l)
 |s {v u:TH} {l l':T5} {i:Nat}:FH l i v l'->FH (u::l) (i+1) v (u::l')
theorem FH.eq{l l':T5}{i:Nat}{v:TH}(h:FH l i v l'):l'=l.set i v/\i<l.length:=by
 induction h with
 |z=>simp
 |s _ ih=>grind
section
variable{P:Program}{n:Nat}{e:AW}{w:TG}{Q:Exit->Act->TG->Prop}{oI:TB}{rest:TC}{ty:TypeId}{pos:String}{after:TE}{d:Nat}
variable{M:T6}{w0:TG}{H H':T0}{F:T3}{b o:Nat}{x:Operand}{v:TH}{dst:TD}{t:TypeId}
def KJ(P:Program)(t:TypeId):Option Bool:=match P.underlying t with|some (.struct _)=>some true|some (.array _ _)=>some true|some _=>some false|none=>none
def EW(P:Program)(t:TypeId):TD:=(P.info? t).map (·.size)
theorem SM{g:Bool}(h:KJ P t=some g):(isAgg t).run P w= .ok g w:=by
 unfold KJ at h;unfold isAgg underlying;simp only[Go.program,bind,Sem.bind,Sem.run]
 cases hu:P.underlying t with
 |none=>grind
 |some td=>rw[hu]at h;cases td<;>simp_all[pure,Sem.bind]
theorem KH{s:Nat}(h:EW P t=some s):(sizeOf t).run P w= .ok s w:=by
 unfold EW at h
 cases hi:P.info? t with
 |none=>grind
 |some i=>
  simp_all[sizeOf,typeInfo]
theorem Qm{a:Addr}(ha:ev n e x= .pointer (some a))(hA:KJ P t=some false)(hc:w.cell? a=some v):
  (execOp (ev n e) ⟨dst,.load t x,ty,pos,after,none⟩).run P w= .ok (.value v) w:=by
 simp_all[Sem.run,SM,execOp,Instr.loadAt,Instr.sureAddr,loadVar]
theorem U7{a:Addr}{cs:T5}(ha:ev n e x= .pointer (some a))(hA:KJ P t=some true)(hs:EW P t=some cs.length)(hc:∀j v,cs[j]?=some v->w.cell? (a.add j)=some v):
  (execOp (ev n e) ⟨dst,.load t x,ty,pos,after,none⟩).run P w= .ok (.value (.agg cs.toArray)) w:=by
 have h1:=SM (w:=w) hA;have h2:=KH (w:=w) hs;have h3:=Xai (P:=P) (w:=w) a cs hc;simp_all[execOp,Instr.loadAt,Instr.sureAddr,loadVar]
theorem G7(b o j:Nat):(⟨b,o,none⟩:Addr).add j=⟨b,o+j,none⟩:=by grind[Addr.add]
theorem Qs{cs:T5}{ct:TypeId}{fz:Nat×Nat}(h:w.heap[b]?=some (.cells cs.toArray ct fz))(o:Nat):w.cell? ⟨b,o,none⟩=cs[o]?:=by simp[World.cell?,h]
theorem Qf{cs:T5}{ct:TypeId}(hS:St M w0 H F w)(ha:ev n e x= .pointer (some ⟨b,o,none⟩))(hA:KJ P t=some false)(hb:At H b (.cells cs.toArray ct))(hn:TX cs o v):
  (execOp (ev n e) ⟨dst,.load t x,ty,pos,after,none⟩).run P w= .ok (.value v) w:=Qm ha hA (by rw[Qs (hS.at_ hb)];exact hn.get)
theorem Qb{cs vs:T5}{ct:TypeId}{k:Nat}(hS:St M w0 H F w)(ha:ev n e x= .pointer (some ⟨b,o,none⟩))(hA:KJ P t=some true)(hs:EW P t=some k)(hb:At H b (.cells cs.toArray ct))(hn:HK cs o k vs):
  (execOp (ev n e) ⟨dst,.load t x,ty,pos,after,none⟩).run P w= .ok (.value (.agg vs.toArray)) w:=by
 refine U7 ha hA (by grind[HK.length]) fun j v hj=> ?_;rw[G7,Qs (hS.at_ hb)]
 grind[HK.length,HK.get]
theorem Q7{v0 v1 v2 v3:TH}(ha:ev n e x= .pointer (some ⟨b,o,none⟩))(hA:KJ P t=some true)(hs:EW P t=some 4)
  (h0:w.cell? ⟨b,o,none⟩=some v0) (h1:w.cell? ⟨b,o+1,none⟩=some v1) (h2:w.cell? ⟨b,o+2,none⟩=some v2) (h3:w.cell? ⟨b,o+3,none⟩=some v3):
  (execOp (ev n e) ⟨dst,.load t x,ty,pos,after,none⟩).run P w= .ok (.value (.agg #[v0,v1,v2,v3])) w:=by
 refine U7 (cs:=[v0,v1,v2,v3]) ha hA hs fun j v hj=> ?_;grind[G7]
theorem M3{v0 v1:TH}(ha:ev n e x= .pointer (some ⟨b,o,none⟩))(hA:KJ P t=some true)(hs:EW P t=some 2)
  (h0:w.cell? ⟨b,o,none⟩=some v0) (h1:w.cell? ⟨b,o+1,none⟩=some v1):
  (execOp (ev n e) ⟨dst,.load t x,ty,pos,after,none⟩).run P w= .ok (.value (.agg #[v0,v1])) w:=by
 refine U7 (cs:=[v0,v1]) ha hA hs fun j v hj=> ?_;grind[G7]
theorem NI{v0 v1 v2:TH}(ha:ev n e x= .pointer (some ⟨b,o,none⟩))(hA:KJ P t=some true)(hs:EW P t=some 3)
  (h0:w.cell? ⟨b,o,none⟩=some v0) (h1:w.cell? ⟨b,o+1,none⟩=some v1) (h2:w.cell? ⟨b,o+2,none⟩=some v2):
  (execOp (ev n e) ⟨dst,.load t x,ty,pos,after,none⟩).run P w= .ok (.value (.agg #[v0,v1,v2])) w:=by
 refine U7 (cs:=[v0,v1,v2]) ha hA hs fun j v hj=> ?_;grind[G7]
theorem QgG{v0 v1 v2 v3 v4 v5:TH}(ha:ev n e x= .pointer (some ⟨b,o,none⟩))(hA:KJ P t=some true)(hs:EW P t=some 6)
  (h0:w.cell? ⟨b,o,none⟩=some v0) (h1:w.cell? ⟨b,o+1,none⟩=some v1) (h2:w.cell? ⟨b,o+2,none⟩=some v2) (h3:w.cell? ⟨b,o+3,none⟩=some v3) (h4:w.cell? ⟨b,o+4,none⟩=some v4) (h5:w.cell? ⟨b,o+5,none⟩=some v5):
  (execOp (ev n e) ⟨dst,.load t x,ty,pos,after,none⟩).run P w= .ok (.value (.agg #[v0,v1,v2,v3,v4,v5])) w:=by
 refine U7 (cs:=[v0,v1,v2,v3,v4,v5]) ha hA hs fun j v hj=> ?_;grind[G7]
def QAe(P:Program)(s:TypeId)(i:Nat):TD:=match P.underlying s with
 |some (.struct fs)=>match fs[i]? with
  |some f=>match EW P f.type with
   |some 0=>none
   |some _=>some f.offset
   |none=>none
  |none=>none
 |_=>none
theorem Qi{s i off:Nat}(ha:ev n e x= .pointer (some ⟨b,o,none⟩))(hf:QAe P s i=some off):
  (execOp (ev n e) ⟨dst,.fieldAddr s x i,ty,pos,after,none⟩).run P w= .ok (.value (.pointer (some ⟨b,o+off,none⟩))) w:=by
 unfold QAe at hf;split at hf
 .rename_i fs hu;split at hf
  .rename_i fl hi;split at hf
   .cases hf
   .rename_i k rU hk;cases hf
    have h1:=VC hu w;have h2:=KH (w:=w) hk;simp_all[execOp,Instr.fieldAt,Instr.sureAddr,fieldPlace,G7]
   grind
  grind
 grind
theorem QyF{s:TypeId}{cs:T5}(hS:St M w0 H F w)(hx:(ev n e x).cells=cs.toArray)(hd:Nat.blt d n=true)
  (h:∀b w',St M w0 ((b,.cells cs.toArray s)::H) F w'->AU P Q oI rest n ((d,.pointer (some ⟨b,0,none⟩))::e) w'):
  AU P Q oI (⟨some d,.box s x,ty,pos,after,none⟩::rest) n e w:=by
 apply Zq.k7.1;simp only[execOp,Instr.box,newVar,newRow,newObj,hx,bind,pure,Sem.bind,Sem.run];rfl
def PC(P:Program)(t:TypeId):Option TH:=(P.info? t).bind (·.zero)
theorem Qjq(h:PC P t=some v):(zeroValue t).run P w= .ok v w:=by
 unfold PC at h
 cases hi:P.info? t with
 |none=>grind
 |some i=>
  simp_all[zeroValue,typeInfo]
theorem UF{s:TypeId}{cs:T5}(hS:St M w0 H F w)(hz:PC P s=some v)(hx:v.cells=cs.toArray)(hd:Nat.blt d n=true)
  (h:∀b w',St M w0 ((b,.cells cs.toArray s)::H) F w'->AU P Q oI rest n ((d,.pointer (some ⟨b,0,none⟩))::e) w'):
  AU P Q oI (⟨some d,.alloc s,ty,pos,after,none⟩::rest) n e w:=by
 apply Zq.k7.1;have h1:=Qjq (w:=w) hz;simp only[execOp,Instr.alloc,bind,pure];rw[XN,XN,h1];simp only[XW,newVar,newRow,newObj,hx,bind,pure,Sem.bind,Sem.run];rfl
theorem Qjp(b o:Nat)(v:TH):BK [b] w (w.setCell ⟨b,o,none⟩ v):=
 ⟨rfl,rfl,rfl,by simp_all,fun k _ hk=>JT _ _ _ _ (by grind)⟩
theorem Qjo{cs:T5}{ct:TypeId}(h:w.heap[b]?=some (.cells cs.toArray ct))(o:Nat)(v:TH):(w.setCell ⟨b,o,none⟩ v).heap[b]?=some (.cells (cs.set o v).toArray ct):=by
 simp[World.setCell,J4,h]
theorem Qsi{y:Operand}{u:TH}{a:Addr}(ha:ev n e x= .pointer (some a))(hy:ev n e y=v)(hs:EW P t=some 1)(h1:v.oneCell'=true)(hc:w.cell? a=some u)(hf:w.frozen? a=false):
  (execOp (ev n e) ⟨none,.store t x y,ty,pos,after,none⟩).run P w= .ok .skip (w.setCell a v):=by
 have h2:=KH (w:=w) hs
 have pJ:v.cells= #[v]:=by cases v<;>simp_all[Value.cells,Value.oneCell']
 have h3:=run_store P w (a.add 0) v .plain h1;have Jo:a.add 0=a:=by simp[Addr.add]
 rw[Jo,hc]at h3;simp only[execOp,ha,hy,Instr.storeAt,Instr.sureAddr,storeVar,bind,pure,Sem.bind];simp_all[storeCells,XN]
theorem K7{y:Operand}{cs Ig:T5}{ct:TypeId}(hS:St M w0 H F w)(ha:ev n e x= .pointer (some ⟨b,o,none⟩))(hy:ev n e y=v)(hs:EW P t=some 1)(h1:v.oneCell'=true)
  (AD:At H b (.cells cs.toArray ct)) (hp:FH cs o v Ig) (hu:I7 H b (.cells cs.toArray ct) (.cells Ig.toArray ct) H')
  (h:∀w',St M w0 H' F w'->AU P Q oI rest n e w'):AU P Q oI (⟨none,.store t x y,ty,pos,after,none⟩::rest) n e w:=by
 have hb:=hS.at_ hu.at_;have hq:=hp.eq;refine Qoh (Qsi (u:=cs[o]'hq.2) ha hy hs h1 (by rw[Qs hb];grind) (by simp[World.frozen?,hb])) (h _ (hS.turn hu (Qjp _ _ _) ?_));grind[Qjo]
end
section
variable{P:Program}{n:Nat}{e:AW}{w:TG}{Q:Exit->Act->TG->Prop}{oI:TB}{rest:TC}{ty:TypeId}{pos:String}{after:TE}{d:Nat}
variable{M:T6}{w0:TG}{H H':T0}{F:T3}{b o:Nat}{x y:Operand}{v:TH}{dst:TD}{t t2:TypeId}
theorem N8{i:Int}(h1: -9223372036854775808<=i)(h2:i<=9223372036854775807):IntKind.i64.wrap i=i:=by
 rw[IntKind.wrap_i64];omega
theorem QtY{a c:Int}(hx:ev n e x= .int .i64 a)(hy:ev n e y= .int .i64 c)(h1: -9223372036854775808<=a+c)(h2:a+c<=9223372036854775807):
  (execOp (ev n e) ⟨dst,.binOp .add t x y t2,ty,pos,after,none⟩).run P w= .ok (.value (.int .i64 (a+c))) w:=by
 have:(execOp (ev n e) ⟨dst,.binOp .add t x y t2,ty,pos,after,none⟩).run P w= .ok (.value (.int .i64 (IntKind.i64.wrap (a+c)))) w:=by simp only[execOp,hx,hy];rfl
 grind[N8]
theorem QtV{a c:Int}(hx:ev n e x= .int .i64 a)(hy:ev n e y= .int .i64 c)(h1: -9223372036854775808<=a-c)(h2:a-c<=9223372036854775807):
  (execOp (ev n e) ⟨dst,.binOp .sub t x y t2,ty,pos,after,none⟩).run P w= .ok (.value (.int .i64 (a-c))) w:=by
 have:(execOp (ev n e) ⟨dst,.binOp .sub t x y t2,ty,pos,after,none⟩).run P w= .ok (.value (.int .i64 (IntKind.i64.wrap (a-c)))) w:=by simp only[execOp,hx,hy];rfl
 grind[N8]
def QE(P:Program)(t:TypeId):Option TypeId:=match P.underlying t with|some (.slice el)=>some el|_=>none
def LO(P:Program)(t:TypeId):Bool:=match P.underlying t with|some .string=>true|_=>false
theorem D9{el:TypeId}(h:QE P t=some el):P.underlying t=some (.slice el):=by
 unfold QE at h;grind
theorem SX(h:LO P t=true):P.underlying t=some .string:=by
 unfold LO at h;grind
theorem Qc8{el:TypeId}{A:T4}{l c:Nat}{ts:Array TypeId}(hx:ev n e x= .slice A l c)(ht:ts[0]?=some t)(hT:QE P t=some el):
  (execOp (ev n e) ⟨dst,.call ⟨.builtin .len, #[x],ts⟩,ty,pos,after,none⟩).run P w= .ok (.value (.int .i64 l)) w:=by
 have h1:=VC (D9 hT) w;exact Yb2
theorem QkC{s:TJ}{ts:Array TypeId}(hx:ev n e x= .string s)(ht:ts[0]?=some t)(hT:LO P t=true):
  (execOp (ev n e) ⟨dst,.call ⟨.builtin .len, #[x],ts⟩,ty,pos,after,none⟩).run P w= .ok (.value (.int .i64 s.size)) w:=by
 have h1:=VC (SX hT) w;exact Yb2
theorem Qik{s:TJ}{i:Int}(hx:ev n e x= .string s)(hy:ev n e y= .int .i64 i)(hT:LO P t=true)(h0:0<=i)(h1:i.toNat<s.size):
  (execOp (ev n e) ⟨dst,.index t x y,ty,pos,after,none⟩).run P w= .ok (.value (.int .u8 (s[i.toNat]'h1).toNat)) w:=by
 have h2:=VC (SX hT) w;simp only[execOp,Instr.index,hx,hy,asIntOf,bind,pure,Sem.bind];rw[XN,XN,h2];simp_all
theorem Q0{el sz:Nat}{i:Int}{l c:Nat}(hx:ev n e x= .slice (some ⟨b,o,none⟩) l c)(hy:ev n e y= .int .i64 i)(hT:QE P t=some el)(hs:EW P el=some sz)(h0:0<=i)(h1:i<l):
  (execOp (ev n e) ⟨dst,.indexAddr t x y,ty,pos,after,none⟩).run P w= .ok (.value (.pointer (some ⟨b,o+i.toNat*sz,none⟩))) w:=by
 have h2:=VC (D9 hT) w;simp_all[KH,execOp,Instr.indexAt,asIntOf,G7]
def bound(n:Nat)(e:AW)(h:Option Operand)(Xg:Int):Option Int:=match h with|none=>some Xg|some z=>match ev n e z with| .int _ i=>some i|_=>none
theorem R4{z:TH}{k:IntKind}{i:Int}{m:Nat}{cd:BoundsCode}(hz:z= .int k i)(h0:0<=i)(h1:i<=m):(Instr.sliceBound z m cd).run P w= .ok i.toNat w:=by
 subst hz;simp only[Instr.sliceBound,asIntOf,bind,pure,Sem.bind,XB (And.intro h0 h1)];rfl
theorem Qmd{s:TJ}{i:Int}(hx:ev n e x= .string s)(hy:ev n e y= .int .i64 i)(hT:LO P t=true)(h0:0<=i)(h1:i<=s.size):
  (execOp (ev n e) ⟨dst,.slice t x (some y) none none,ty,pos,after,none⟩).run P w= .ok (.value (.string (s.extract i.toNat s.size))) w:=by
 exact Ya1
theorem Qkz{s:TJ}{i:Int}(hx:ev n e x= .string s)(hy:ev n e y= .int .i64 i)(hT:LO P t=true)(h0:0<=i)(h1:i<=s.size):
  (execOp (ev n e) ⟨dst,.slice t x none (some y) none,ty,pos,after,none⟩).run P w= .ok (.value (.string (s.extract 0 i.toNat))) w:=by
 exact Ya1
theorem Qh6{fn:Fn}{fs cs:Array Operand}{vs us:T9}(h1:fs.map (ev n e)=vs)(h2:cs.map (ev n e)=us):
  (execOp (ev n e) ⟨dst,.makeFunc fn fs cs,ty,pos,after,none⟩).run P w= .ok (.value (.func fn vs us)) w:=by
 subst h1 h2;rfl
theorem Qb4{k:IntKind}{a:Int}(hx:ev n e x= .int k a)(hy:ev n e y= .int k a):
  (execOp (ev n e) ⟨dst,.binOp .eql t x y t2,ty,pos,after,none⟩).run P w= .ok (.value (.bool true)) w:=by
 have:(execOp (ev n e) ⟨dst,.binOp .eql t x y t2,ty,pos,after,none⟩).run P w= .ok (.value (.bool (a==a))) w:=by
  exact Yp
 grind
theorem Qe1{k:IntKind}{a:Int}(hx:ev n e x= .int k a)(hy:ev n e y= .int k a):
  (execOp (ev n e) ⟨dst,.binOp .neq t x y t2,ty,pos,after,none⟩).run P w= .ok (.value (.bool false)) w:=by
 have:(execOp (ev n e) ⟨dst,.binOp .neq t x y t2,ty,pos,after,none⟩).run P w= .ok (.value (.bool (a !=a))) w:=by
  exact Yp
 grind
theorem Qht{k:IntKind}{a c:Int}(hx:ev n e x= .int k a)(hy:ev n e y= .int k c)(h:a≠c):
  (execOp (ev n e) ⟨dst,.binOp .eql t x y t2,ty,pos,after,none⟩).run P w= .ok (.value (.bool false)) w:=by
 have:(execOp (ev n e) ⟨dst,.binOp .eql t x y t2,ty,pos,after,none⟩).run P w= .ok (.value (.bool (a==c))) w:=by
  exact Yp
 grind
theorem Qsj{k:IntKind}{a c:Int}(hx:ev n e x= .int k a)(hy:ev n e y= .int k c)(h:a≠c):
  (execOp (ev n e) ⟨dst,.binOp .neq t x y t2,ty,pos,after,none⟩).run P w= .ok (.value (.bool true)) w:=by
 have:(execOp (ev n e) ⟨dst,.binOp .neq t x y t2,ty,pos,after,none⟩).run P w= .ok (.value (.bool (a !=c))) w:=by
  exact Yp
 grind
theorem Qpt{k:IntKind}{a c:Int}(hx:ev n e x= .int k a)(hy:ev n e y= .int k c)(h:a<c):
  (execOp (ev n e) ⟨dst,.binOp .lss t x y t2,ty,pos,after,none⟩).run P w= .ok (.value (.bool true)) w:=by
 have:(execOp (ev n e) ⟨dst,.binOp .lss t x y t2,ty,pos,after,none⟩).run P w= .ok (.value (.bool (decide (a<c)))) w:=by
  exact Yp
 grind
theorem Qsk{k:IntKind}{a c:Int}(hx:ev n e x= .int k a)(hy:ev n e y= .int k c)(h:¬(a<c)):
  (execOp (ev n e) ⟨dst,.binOp .lss t x y t2,ty,pos,after,none⟩).run P w= .ok (.value (.bool false)) w:=by
 have:(execOp (ev n e) ⟨dst,.binOp .lss t x y t2,ty,pos,after,none⟩).run P w= .ok (.value (.bool (decide (a<c)))) w:=by
  exact Yp
 grind
theorem Qpu{k:IntKind}{a c:Int}(hx:ev n e x= .int k a)(hy:ev n e y= .int k c)(h:a<=c):
  (execOp (ev n e) ⟨dst,.binOp .leq t x y t2,ty,pos,after,none⟩).run P w= .ok (.value (.bool true)) w:=by
 have:(execOp (ev n e) ⟨dst,.binOp .leq t x y t2,ty,pos,after,none⟩).run P w= .ok (.value (.bool (decide (a<=c)))) w:=by
  exact Yp
 grind
theorem Qsl{k:IntKind}{a c:Int}(hx:ev n e x= .int k a)(hy:ev n e y= .int k c)(h:¬(a<=c)):
  (execOp (ev n e) ⟨dst,.binOp .leq t x y t2,ty,pos,after,none⟩).run P w= .ok (.value (.bool false)) w:=by
 have:(execOp (ev n e) ⟨dst,.binOp .leq t x y t2,ty,pos,after,none⟩).run P w= .ok (.value (.bool (decide (a<=c)))) w:=by
  exact Yp
 grind
theorem Qjw{k:IntKind}{a c:Int}(hx:ev n e x= .int k a)(hy:ev n e y= .int k c)(h:a>c):
  (execOp (ev n e) ⟨dst,.binOp .gtr t x y t2,ty,pos,after,none⟩).run P w= .ok (.value (.bool true)) w:=by
 have:(execOp (ev n e) ⟨dst,.binOp .gtr t x y t2,ty,pos,after,none⟩).run P w= .ok (.value (.bool (decide (a>c)))) w:=by
  exact Yp
 grind
theorem Qk8{k:IntKind}{a c:Int}(hx:ev n e x= .int k a)(hy:ev n e y= .int k c)(h:¬(a>c)):
  (execOp (ev n e) ⟨dst,.binOp .gtr t x y t2,ty,pos,after,none⟩).run P w= .ok (.value (.bool false)) w:=by
 have:(execOp (ev n e) ⟨dst,.binOp .gtr t x y t2,ty,pos,after,none⟩).run P w= .ok (.value (.bool (decide (a>c)))) w:=by
  exact Yp
 grind
theorem Qjx{k:IntKind}{a c:Int}(hx:ev n e x= .int k a)(hy:ev n e y= .int k c)(h:a>=c):
  (execOp (ev n e) ⟨dst,.binOp .geq t x y t2,ty,pos,after,none⟩).run P w= .ok (.value (.bool true)) w:=by
 have:(execOp (ev n e) ⟨dst,.binOp .geq t x y t2,ty,pos,after,none⟩).run P w= .ok (.value (.bool (decide (a>=c)))) w:=by
  exact Yp
 grind
theorem Qk9{k:IntKind}{a c:Int}(hx:ev n e x= .int k a)(hy:ev n e y= .int k c)(h:¬(a>=c)):
  (execOp (ev n e) ⟨dst,.binOp .geq t x y t2,ty,pos,after,none⟩).run P w= .ok (.value (.bool false)) w:=by
 have:(execOp (ev n e) ⟨dst,.binOp .geq t x y t2,ty,pos,after,none⟩).run P w= .ok (.value (.bool (decide (a>=c)))) w:=by
  exact Yp
 grind
theorem Qf9{k:IntKind}{a c:Int}(hx:ev n e x= .int k a)(hy:ev n e y= .int k c)(h:a=c):
  (execOp (ev n e) ⟨dst,.binOp .eql t x y t2,ty,pos,after,none⟩).run P w= .ok (.value (.bool true)) w:=Qb4 hx (by grind)
theorem Qps{k:IntKind}{a c:Int}(hx:ev n e x= .int k a)(hy:ev n e y= .int k c)(h:a=c):
  (execOp (ev n e) ⟨dst,.binOp .neq t x y t2,ty,pos,after,none⟩).run P w= .ok (.value (.bool false)) w:=Qe1 hx (by grind)
def N0(P:Program)(t:TypeId):Option TypeId:=match P.underlying t with|some (.pointer el)=>some el|_=>none
theorem Qz7{el:TypeId}(h:N0 P t=some el):P.underlying t=some (.pointer el):=by
 unfold N0 at h;grind
theorem QdC{el:TypeId}{q:T4}(hT:N0 P t=some el):(Op.equal t (.pointer q) (.pointer none)).run P w= .ok q.isNone w:=by
 have h1:=VC (Qz7 hT) w;unfold Op.equal Op.maxDepth;rw[show(10000:Nat)=9999+1 from rfl,Op.equalIn];simp only[bind,pure];rw[XN,h1];cases q<;>rfl
theorem QjB{el:TypeId}{q:T4}(hx:ev n e x= .pointer q)(hy:ev n e y= .pointer none)(hT:N0 P t=some el):
  (execOp (ev n e) ⟨dst,.binOp .eql t x y t2,ty,pos,after,none⟩).run P w= .ok (.value (.bool q.isNone)) w:=by
 have h1:=QdC (w:=w) (q:=q) hT
 have h2:(execOp (ev n e) ⟨dst,.binOp .eql t x y t2,ty,pos,after,none⟩)=(Op.equal t (.pointer q) (.pointer none)).bind fun r=> .pure (.value (.bool r)):=by
  exact YbV
 rw[h2,XN,h1];rfl
theorem QjA{el:TypeId}(hx:ev n e x= .pointer none)(hy:ev n e y= .pointer none)(hT:N0 P t=some el):
  (execOp (ev n e) ⟨dst,.binOp .eql t x y t2,ty,pos,after,none⟩).run P w= .ok (.value (.bool true)) w:=QjB hx hy hT
theorem QkD{el:TypeId}{a:Addr}(hx:ev n e x= .pointer (some a))(hy:ev n e y= .pointer none)(hT:N0 P t=some el):
  (execOp (ev n e) ⟨dst,.binOp .eql t x y t2,ty,pos,after,none⟩).run P w= .ok (.value (.bool false)) w:=QjB hx hy hT
theorem ZV{a:Addr}(hx:ev n e x= .pointer (some a)):(execOp (ev n e) ⟨dst,.nilCheck x,ty,pos,after,none⟩).run P w= .ok (.value (.pointer (some a))) w:=by
 simp_all[execOp]
end
def UO:T5->Nat->T5->T5
 |l,_,[]=>l
 |l,i,v::r=>UO (l.set i v) (i+1) r
theorem QoG(off:Nat):∀(r:T5) (k:Nat) (l:T5),((r.zipIdx k).foldl (fun(cs:T9) (p:TH×Nat)=>cs.setIfInBounds (off+p.2) p.1) l.toArray)=(UO l (off+k) r).toArray
 |[],k,l=>by simp[UO]
 |v::r,k,l=>by
  rw[List.zipIdx_cons,List.foldl_cons];simp only[XaZ];rw[QoG off r (k+1) (l.set (off+k) v),UO,WE]
def RM(tP:Nat->Option (Nat×Nat)):T5->List (Nat×TH)->Option (T5)
 |cells,[]=>some cells
 |cells,(i,v)::rest=>match tP i with
  |none=>none
  |some (off,size)=>bif !Nat.beq v.cells.toList.length size|| !Nat.ble (off+v.cells.toList.length) cells.length then none else RM tP (UO cells off v.cells.toList) rest
theorem Qp6(tP:Nat->Option (Nat×Nat)):∀(pl:List (Nat×TH)) (cells:T5) {r:T5},RM tP cells pl=some r->Instr.fill tP cells.toArray pl=some r.toArray
 |[],cells,r,h=>by simp only[RM,XU]at h;subst h;rfl
 | (i, v) :: rest, cells, r, h => by
  unfold RM at h;unfold Instr.fill
  cases hp:tP i with
  |none=>grind
  |some q=>
   obtain⟨off,size⟩:=q;rw[hp]at h;simp only at h⊢
   cases hb:(!Nat.beq v.cells.toList.length size|| !Nat.ble (off+v.cells.toList.length) cells.length)with
   |true=>grind
   |false=>
    rw[hb]at h;simp only[XaB,Bool.not_eq_false']at hb;have h1:v.cells.size=size:=by simp_all
    have h2:=Xa0 hb.2;rw[XA (by grind)];simp only[WC]at h;have:=QoG off v.cells.toList 0 cells;rw[XaC]at this
    have he:(v.cells.zipIdx.foldl (fun cs (p:TH×Nat)=>cs.setIfInBounds (off+p.2) p.1) cells.toArray)=(UO cells off v.cells.toList).toArray:=by
     grind[Array.toList_zipIdx]
    show Instr.fill tP (v.cells.zipIdx.foldl (fun cs (p:TH×Nat)=>cs.setIfInBounds (off+p.2) p.1) cells.toArray) rest=_;rw[he];exact Qp6 tP rest _ h
inductive NO:T5->Nat->T5->T5->Prop
 |z {l:T5}:NO l 0 [] l
 |t {u v:TH} {l l' vs:T5}:NO l 0 vs l'->NO (u::l) 0 (v::vs) (v::l')
 |s {u:TH} {l l' vs:T5} {i:Nat}:NO l i vs l'->NO (u::l) (i+1) vs (u::l')
theorem NO.eq{l l' vs:T5}{i:Nat}(h:NO l i vs l'):l'=l.take i++vs++l.drop (i+vs.length)/\i+vs.length<=l.length:=by
 induction h with
 |z=>simp
 |t _ ih=>grind
 |s _ ih=>grind
section
variable{P:Program}{n:Nat}{e:AW}{w:TG}{Q:Exit->Act->TG->Prop}{oI:TB}{rest:TC}{ty:TypeId}{pos:String}{after:TE}{d:Nat}
variable{M:T6}{w0:TG}{H H':T0}{F:T3}{b o:Nat}{x y:Operand}{v:TH}{dst:TD}{t t2:TypeId}
inductive SB(n:Nat)(e:AW):List (Nat×Operand)->List (Nat×TH)->Prop
 |nil:SB n e [] []
 |cons {i:Nat} {x:Operand} {v:TH} {ps:List (Nat×Operand)} {pl:List (Nat×TH)} (h:ev n e x=v):SB n e ps pl->SB n e ((i,x)::ps) ((i,v)::pl)
theorem SB.eq{n:Nat}{e:AW}{ps:List (Nat×Operand)}{pl:List (Nat×TH)}(h:SB n e ps pl):(ps.map fun p=>(p.1,ev n e p.2))=pl:=by
 induction h with
 |nil=>rfl
 |cons h _ ih=>grind
def TT(P:Program):List Field->Option (List (Nat×Nat))
 |[]=>some []
 |f::r=>match EW P f.type with
  |none=>none
  |some s=>match TT P r with
   |none=>none
   |some l=>some ((f.offset,s)::l)
theorem Qk3:∀{fs:List Field} {l:List (Nat×Nat)},TT P fs=some l->(fs.mapM (m:=Sem) fun f=>do pure (f.offset,<-sizeOf f.type)).run P w= .ok l w
 |[],l,h=>by simp_all[TT]
 |f::r,l,h=>by
  unfold TT at h
  cases hc:EW P f.type with
  |none=>grind
  |some s=>
   rw[hc]at h;simp only at h
   cases hr:TT P r with
   |none=>grind
   |some l'=>
    rw[hr]at h;simp only[XU]at h;subst h;have h1:=KH (w:=w) hc;have h2:=Qk3 hr;simp_all
def QxL(P:Program)(t:TypeId)(pl:List (Nat×TH)):Option (T5):=match P.underlying t with
 |some (.struct fs)=>match PC P t,TT P fs.toList with
  |some z,some l=>RM (fun i=>l[i]?) z.cells.toList pl
  |_,_=>none
 |_=>none
theorem QD{parts:List (Nat×Operand)}{pl:List (Nat×TH)}{cells:T5}(hp:SB n e parts pl)(h:QxL P t pl=some cells):
  (execOp (ev n e) ⟨dst,.build t parts.toArray,ty,pos,after,none⟩).run P w= .ok (.value (.agg cells.toArray)) w:=by
 rw[<-hp.eq]at h;unfold QxL at h;split at h
 .rename_i fs hu;split at h
  .rename_i z l hz hl;have h1:=Qjq (w:=w) hz;have h2:=VC hu w;have h3:=Qk3 (w:=w) hl;have h4:=Qp6 _ _ _ h;simp only[execOp,Instr.build,bind,pure,VZ];rw[XN,XN,h1];simp only[XW];rw[XN,h2];simp only[XW];rw[XN]
   have h5:(fs.mapM (m:=Sem) fun f=>(sizeOf f.type).bind fun a=> .pure (f.offset,a)).run P w= .ok l.toArray w:=by
    simp only[bind,pure]at h3;rw[Array.mapM_eq_mapM_toList];simp_all
   simp_all
  .cases h
 .cases h
def Qz5(P:Program)(t:TypeId)(len:Nat)(pl:List (Nat×TH)):Option (TypeId×T5):=match QE P t with
 |some el=>match EW P el,PC P el with
  |some sz,some z=>bif Nat.ble (len*sz) 64&&Nat.blt 0 (len*sz)&&Nat.blt 0 z.cells.toList.length then(RM (fun i=>some (i*sz,sz)) ((List.range (len*sz)).map fun j=>z.cells.toList.getD (j%z.cells.toList.length) undef) pl).map (fun l=>(el,l))else none
  |_,_=>none
 |none=>none
theorem RD{len:Nat}{parts:List (Nat×Operand)}{pl:List (Nat×TH)}{el:TypeId}{cells:T5}(hS:St M w0 H F w)(hp:SB n e parts pl)(h:Qz5 P t len pl=some (el,cells))(hd:Nat.blt d n=true)
  (hk:∀b w',St M w0 ((b,.cells cells.toArray el)::H) F w'->AU P Q oI rest n ((d,.slice (some ⟨b,0,none⟩) len len)::e) w'):
  AU P Q oI (⟨some d,.buildSlice t len parts.toArray,ty,pos,after,none⟩::rest) n e w:=by
 refine Qa (v:= .slice (some ⟨w.heap.size,0,none⟩) len len) (w':=w.alloc (.cells cells.toArray el)) ?_ hd (hk _ _ (hS.alloc _));rw[<-hp.eq]at h;unfold Qz5 at h;split at h
 .rename_i el' hT;split at h
  .rename_i sz z hs hz
   cases hb:(Nat.ble (len*sz) 64&&Nat.blt 0 (len*sz)&&Nat.blt 0 z.cells.toList.length)with
   |false=>grind
   |true=>
    rw[hb]at h;simp only[WD]at h
    cases hf:RM (fun i=>some (i*sz,sz)) ((List.range (len*sz)).map fun j=>z.cells.toList.getD (j%z.cells.toList.length) undef) (parts.map fun p=>(p.1,ev n e p.2))with
    |none=>grind
    |some l=>
     rw[hf]at h;simp only[X7,XU,J7]at h;obtain⟨rfl,rfl⟩:=h;have h1:=VC (D9 hT) w;have h2:=KH (w:=w) hs;have h3:=Qjq (w:=w) hz;have h4:=Qp6 _ _ _ hf;simp only[XI]at hb;have oW:=Xa0 hb.1.1;have tI:0<len*sz:=by simp_all
     have hzp:0<z.cells.size:=by simp_all
     simp only[execOp,Instr.buildSlice,bind,pure,VZ];rw[XN,XN,h1];simp only[XW];rw[XN,h2];have hn:¬len*sz>2^24:=by omega
     have h0:¬len*sz=0:=by omega
     simp only[XW,XA hn,XA h0,Sem.bind];rw[XN,h3]
     have h6:((Array.range (len*sz)).map (fun x=>z.cells[x%z.cells.size]!))=((List.range (len*sz)).map fun j=>z.cells.toList.getD (j%z.cells.toList.length) undef).toArray:=by
      rw[<-List.toArray_range,VZ];grind[Nat.mod_lt]
     simp only[XW,h6];rw[h4];rfl
  .cases h
 .cases h
theorem Qfy{vs cs Ig:T5}{ct:TypeId}(hS:St M w0 H F w)(ha:ev n e x= .pointer (some ⟨b,o,none⟩))(hy:ev n e y= .agg vs.toArray)(hs:EW P t=some vs.length)(h1:vs.all (·.oneCell')=true)
  (AD:At H b (.cells cs.toArray ct)) (hp:NO cs o vs Ig) (hu:I7 H b (.cells cs.toArray ct) (.cells Ig.toArray ct) H')
  (h:∀w',St M w0 H' F w'->AU P Q oI rest n e w'):AU P Q oI (⟨none,.store t x y,ty,pos,after,none⟩::rest) n e w:=by
 have hb:=hS.at_ hu.at_;obtain⟨rE,Bz⟩:=hp.eq;have oM:=run_storeCells_at (P:=P) b o ct vs 0 cs.toArray w hb (by omega) (fun v hv=>VK.1 h1 v hv);have h2:=KH (w:=w) hs;simp only[XaC]at oM;rw[<-rE]at oM;refine Qoh (w':=w.setRow b Ig.toArray) ?_ (h _ (hS.turn hu ?_ (setRow_heap w b _ _ _ _ hb)))
 .simp only[execOp,ha,hy,Instr.storeAt,Instr.sureAddr,storeVar,bind,pure,Sem.bind];simp_all[Value.cells,XN]
 .exact⟨rfl,rfl,rfl,by simp_all,fun k _ hk=>by
   grind[World.setRow]⟩
end
section
variable{P:Program}{oI:TB}{Q:Exit->Act->TG->Prop}{md:Region.Mode}{S:TG->Prop}{n:Nat}
def R8(P:Program)(md:Region.Mode)(oI:TB)(Q:Exit->Act->TG->Prop)(S:TG->Prop)(n:Nat):Nat->Array Bool->Act->TG->Prop
 |0,oH,a,w=>Region.ready md oI oH=[]/\Q .normal a w
 |fuel+1,oH,a,w=>
  (Region.ready md oI oH=[]->Q .normal a w)/\
  ∀i∈Region.ready md oI oH,wpOp P oI Q i (fun a' w'=>(i<n->S w')/\R8 P md oI Q S n fuel (oH.setIfInBounds i true) a' w') a w
theorem QeP:∀(fuel:Nat) (oH:Array Bool) (a:Act) (w:TG),R8 P md oI Q S n fuel oH a w->wpAny P md oI Q fuel oH a w
 |0,_,_,_,h=>h
 |fuel+1,_,_,_,h=>⟨h.1,fun i hi=>ZZ (fun a' w' h'=>QeP fuel _ a' w' h'.2) (h.2 i hi)⟩
theorem Qi2{i:Nat}{oi:Oper}{v:TH}(hi:oI[i]?=some oi)(tU:∀(j:Nat) (o:Oper) cs b,oI[j]?=some o->o.op≠.select cs b)
  (hQ:∀c a w,Q (.panic c) (a.put oi.dst v) w->Q (.panic c) a w) (rX:n<oI.size->Region.sinkB md oI n=true/\Region.chainB md oI n=true) (tW:i<n):
  ∀(fuel:Nat) (oH:Array Bool) (a:Act) (w:TG),HeadInv md oI n oH->
   (∀j oj,oI[j]?=some oj->j≠i->oH.getD j true=false->(∀e∈oj.after,Region.binds md e=true->e.on≠i)->oi.apart oI oj=true)->
   i∈Region.ready md oI oH->YieldsIf P oI S oi v a->S w->
   R8 P md oI Q S n fuel (oH.setIfInBounds i true) (a.put oi.dst v) w->R8 P md oI Q S n (fuel+1) oH a w:=by
 intro fuel
 induction fuel with
 |zero=>
  intro oH a w _ _ hr hy hS H;refine⟨fun h=>(by grind),fun j hj=> ?_⟩;by_cases Fi:j=i
  .exact Yd8
  .have:=ready_mono hj Fi;rw[H.1]at this;grind
 |succ fuel ih=>
  intro oH a w pJ Ih hr hy hS H;refine⟨fun h=>(by grind),fun j hj=> ?_⟩;by_cases Fi:j=i
  .exact Yd8
  .have h1:=H.2 j (ready_mono hj Fi);obtain⟨Oc,oj,Vk,pO⟩:=mem_ready.1 hj;have h0:=(mem_ready.1 hr).1
   have Od:j<n:=by
    rcases XY j n with h|h
    .exact h
    .have hjs:j<oI.size:=(Xak.1 Vk).1;obtain⟨hs,hc⟩:=rX Ya;exact absurd hj (tail_waits hs hc Ya pJ _ i rfl tW h0 j h)
   have Jp:∀e∈oj.after,Region.binds md e=true->e.on≠i:=fun e he hb wZ=>by
    grind
   have h2:=wpOp_putIf Vk (Ih j oj Vk Fi Oc Jp) (fun cs b=>tU i oi cs b hi) (fun cs b=>tU j oj cs b Vk) hQ hy h1
   have Jq:∀k ok,oI[k]?=some ok->k≠i->(oH.setIfInBounds j true).getD k true=false->
     (∀e∈ok.after,Region.binds md e=true->e.on≠i)->oi.apart oI ok=true:=fun k ok hk hki vT sE=>by
    refine Ih k ok hk hki ?_ sE;by_cases Ca:j=k
    .grind
    simp_all
   refine ZZ (fun a' w' h3=>⟨fun _=>h3.2.1 Od,ih (oH.setIfInBounds j true) a' w' (pJ.set hj Od) Jq (ready_mono hr (JS Fi)) h3.1 (h3.2.1 Od) ?_⟩) h2;grind[Array.setIfInBounds_comm]
def LJ(P:Program)(oI:TB)(Q:Exit->Act->TG->Prop)(S:TG->Prop)(tail:TC):List (Nat×Bool)->Act->TG->Prop
 |[],a,w=>wpList P oI Q tail a w
 |(i,true)::r,a,w=>∃o v,oI[i]?=some o/\YieldsIf P oI S o v a/\(∀c a w,Q (.panic c) (a.put o.dst v) w->Q (.panic c) a w)/\LJ P oI Q S tail r (a.put o.dst v) w
 |(i,false)::r,a,w=>∃o,oI[i]?=some o/\wpList P oI (Exit.then (fun a' w'=>S w'/\LJ P oI Q S tail r a' w') Q) [o] a w
def PP(md:Region.Mode)(oI:TB)(n:Nat):List (Nat×Bool)->Array Bool->Bool
 |[],oH=>Region.seqB md oI (oI.size-n) n oH
 |(i,true)::r,oH=>(Region.ready md oI oH).contains i&&Region.free md oI oH i&&decide (i<n)&&PP md oI n r (oH.setIfInBounds i true)
 |(i,false)::r,oH=>decide (Region.ready md oI oH=[i])&&decide (i<n)&&PP md oI n r (oH.setIfInBounds i true)
theorem QeN:∀(l:TC) (k:Nat) (oH:Array Bool) (a:Act) (w:TG),n<=k->(∀j,l[j]?=oI[k+j]?)->
  Region.seqB md oI l.length k oH=true->wpList P oI Q l a w->R8 P md oI Q S n l.length oH a w
 |[],_,_,_,_,_,_,hB,h=>⟨by grind[Region.seqB],h⟩
 |o::l,k,oH,a,w,hk,hl,hB,h=>by
  have h0:oI[k]?=some o:=by simpa using(hl 0).symm
  simp only[XJ,Region.seqB,XI,XO]at hB;refine⟨fun h1=>(by grind),fun i hi=> ?_⟩;rw[hB.1]at hi;have hik:i=k:=by grind
  subst hik
  have hw:wpOp P oI Q i (wpList P oI Q l) a w:=by unfold wpOp;simp only[h0];exact h
  exact ZZ (fun a' w' h'=>⟨fun h2=>absurd h2 Ya,QeN l (i+1) _ a' w' Ya (fun j=>by have:=hl (j+1);grind) hB.2 h'⟩) hw
theorem Qh0{i:Nat}{o:Oper}{K:Act->TG->Prop}{a:Act}{w:TG}(ho:oI[i]?=some o)(h:wpList P oI (Exit.then K Q) [o] a w):wpOp P oI Q i K a w:=by
 unfold wpOp;simp only[ho];unfold wpList at h;split
 .rename_i hw;rw[XB hw]at h;rcases h with h|⟨h1,a0,w0,h2⟩
  .left;unfold Oper.wp at*;generalize(execOp a.eval o).run P w=r at*
   cases r with
   |ok nx w'=>
    cases nx<;>simp only[Oper.upon]at h⊢
    case value u=>exact h
    case skip=>exact h
    case defer d=>exact h
    case enter f args=>
     refine XE h fun e qQ he=> ?_
     cases e with
     |returned u=>exact he
     |panicked c=>exact he
     |outgrown=>obtain⟨a0,w0,h2⟩:=he;exact⟨a0,w0,h2⟩
    case row row args=>exact Rows.mono h fun u qQ he=>he
   |halt x w'=>
    cases x<;>simp only[Oper.upon]at h⊢
    case panic u=>exact h
  .exact .inr ⟨h1,a0,w0,h2⟩
 .rename_i hw;rw[XA hw]at h;exact h
theorem QeO(tU:Region.noSelect oI=true)(tail:TC)(xB:∀j,tail[j]?=oI[n+j]?)(My:tail.length=oI.size-n)(rX:n<oI.size->Region.sinkB md oI n=true/\Region.chainB md oI n=true):∀(zJ:List (Nat×Bool)) (oH:Array Bool) (a:Act) (w:TG),HeadInv md oI n oH->S w->
  PP md oI n zJ oH=true->LJ P oI Q S tail zJ a w->R8 P md oI Q S n (zJ.length+tail.length) oH a w
 |[],oH,a,w,_,_,hB,h=>by
  simp only[PP]at hB;rw[XP,XQ];exact QeN tail n oH a w (XF _) xB (by grind) h
 |(i,true)::r,oH,a,w,pJ,hS,hB,h=>by
  simp only[PP,XI,XO]at hB;obtain⟨⟨⟨hr,hf⟩,tW⟩,sN⟩:=hB;obtain⟨o,_,ho,hy,hQ,h'⟩:=h;have uI:i∈Region.ready md oI oH:=by grind
  rw[XJ,show r.length+1+tail.length=(r.length+tail.length)+1 by omega]
  exact Qi2 ho (Region.noSelect_spec tU) hQ rX tW _ oH a w pJ (Region.free_spec ho hf) uI hy hS
   (QeO tU tail xB My rX r _ _ _ (pJ.set uI tW) hS sN h')
 |(i,false)::r,oH,a,w,pJ,hS,hB,h=>by
  simp only[PP,XI,XO]at hB;obtain⟨⟨hr,tW⟩,sN⟩:=hB;obtain⟨o,ho,h'⟩:=h
  have Xi:i∈Region.ready md oI oH:=by grind
  rw[XJ,show r.length+1+tail.length=(r.length+tail.length)+1 by omega];refine⟨fun h1=>(by grind),fun j hj=> ?_⟩;rw[hr]at hj;have Fi:j=i:=by grind
  subst Fi;exact ZZ (fun a' w' h3=>⟨fun _=>h3.1,QeO tU tail xB My rX r _ _ _ (pJ.set Xi tW) h3.1 sN h3.2⟩) (Qh0 ho h')
theorem Qc4{id:Nat}{a:Act}{w:TG}{l:TC}(S:TG->Prop)(n:Nat)(zJ:List (Nat×Bool))(hm:P.follows .mixedOrders=true)
  (hB:(Region.noSelect l.toArray&&decide (zJ.length=n)&&decide (n<=l.length)&&(decide (n=l.length)||(Region.sinkB .any l.toArray n&&Region.chainB .any l.toArray n))&&PP .any l.toArray n zJ (Array.replicate l.toArray.size false))=true) (hS:S w.drew)
  (h:LJ P l.toArray Q S (l.drop n) zJ a w.drew):(Code.region id l.toArray true).wp P Q a w:=by
 simp only[XI,XO]at hB;obtain⟨⟨⟨⟨tU,oG⟩,_⟩,Jr⟩,hB⟩:=hB
 have pJ:HeadInv .any l.toArray n (Array.replicate l.toArray.size false):=
  ⟨by simp,fun j oj _ hl=>(by rw[XaD]at hl;cases hl),fun t _ ht=>getD_in (by grind) (XaD _ _)⟩
 have rX:n<l.toArray.size->Region.sinkB .any l.toArray n=true/\Region.chainB .any l.toArray n=true:=fun h=>by
  grind
 have yA:(l.drop n).length=l.toArray.size-n:=by simp
 have H:=QeO (md:= .any) (n:=n) tU (l.drop n) (fun j=>by simp[UW]) yA rX zJ _ a w.drew pJ hS hB h;refine wp_region_any hm ?_
 have e:zJ.length+(l.drop n).length=l.toArray.size:=by grind
 rw[e]at H;exact QeP _ _ _ _ H
theorem ZE{tail:TC}{i:Nat}{r:List (Nat×Bool)}{a:Act}{w:TG}{o:Oper}(ho:oI[i]?=some o)(hg:o.guard=none)
  (h:∃v,(∀w',S w'->(execOp a.eval o).run P w'= .ok (.value v) w')/\(∀c a w,Q (.panic c) (a.put o.dst v) w->Q (.panic c) a w)/\LJ P oI Q S tail r (a.put o.dst v) w):LJ P oI Q S tail ((i,true)::r) a w:=by
 obtain⟨v,hy,hQ,h⟩:=h;exact⟨o,v,ho,.inl ⟨by simp[Region.wanted,hg],hy⟩,hQ,h⟩
theorem Qi1{tail:TC}{i:Nat}{r:List (Nat×Bool)}{a:Act}{w:TG}{o:Oper}(ho:oI[i]?=some o)
  (h:wpList P oI (Exit.then (fun a' w'=>S w'/\LJ P oI Q S tail r a' w') Q) [o] a w):LJ P oI Q S tail ((i,false)::r) a w:=⟨o,ho,h⟩
end
section
variable{P:Program}{f:FuncId}{R:Ending->TG->Prop}{k:List Item}{n:Nat}{e:AW}{w:TG}{S:TG->Prop}{oI:TB}{tail:TC}{r:List (Nat×Bool)}
variable{ty:TypeId}{pos:String}{after:TE}{d i:Nat}
def Ord(P:Program)(f:FuncId)(R:Ending->TG->Prop)(k:List Item)(oI:TB)(S:TG->Prop)(tail:TC)(r:List (Nat×Bool))(n:Nat)(e:AW)(w:TG):Prop:=
 LJ P oI (qk P f R k) S tail r (AF n e) w
theorem QH{id:Nat}{l:TC}(S:TG->Prop)(m:Nat)(zJ:List (Nat×Bool))(hm:P.follows .mixedOrders=true)
  (hB:(Region.noSelect l.toArray&&decide (zJ.length=m)&&decide (m<=l.length)&&(decide (m=l.length)||(Region.sinkB .any l.toArray m&&Region.chainB .any l.toArray m))&&PP .any l.toArray m zJ (Array.replicate l.toArray.size false))=true)
  (hS:S w.drew) (h:Ord P f R k l.toArray S (l.drop m) zJ n e w.drew):AG P f R (.code (.region id l.toArray true)::k) (AF n e) w:=
 QhH (Qc4 S m zJ hm hB hS h)
theorem Qe{op:Op}{v:TH}(ho:oI[i]?=some ⟨some d,op,ty,pos,after,none⟩)(hr:∀w',S w'->(execOp (ev n e) ⟨some d,op,ty,pos,after,none⟩).run P w'= .ok (.value v) w')(hd:Nat.blt d n=true)
  (h:Ord P f R k oI S tail r n ((d,v)::e) w):Ord P f R k oI S tail ((i,true)::r) n e w:=by
 exact YbL
theorem Q3{op:Op}{v:TH}{j:Nat}{g b:Bool}(ho:oI[i]?=some ⟨some d,op,ty,pos,after,some (j,g)⟩)(hy:yd oI n e j=some (.bool b))(hb:b=g)
  (hr:∀w',S w'->(execOp (ev n e) ⟨some d,op,ty,pos,after,none⟩).run P w'= .ok (.value v) w') (hd:Nat.blt d n=true)
  (h:Ord P f R k oI S tail r n ((d,v)::e) w):Ord P f R k oI S tail ((i,true)::r) n e w:=by
 refine⟨_,v,ho,.inl ⟨QkS hy hb,fun w' hw=>by rw[SL];exact hr w' hw⟩,fun c a w h=>h.elim,?_⟩;rw[SC hd];exact h
theorem QwH{op:Op}{j:Nat}{g b:Bool}(ho:oI[i]?=some ⟨some d,op,ty,pos,after,some (j,g)⟩)(hy:yd oI n e j=some (.bool b))(hb:(!b)=g)(hd:Nat.blt d n=true)
  (h:Ord P f R k oI S tail r n ((d,undef)::e) w):Ord P f R k oI S tail ((i,true)::r) n e w:=by
 refine⟨_,undef,ho,.inr ⟨Qne hy hb,rfl⟩,fun c a w h=>h.elim,?_⟩;rw[SC hd];exact h
def qo(P:Program)(f:FuncId)(R:Ending->TG->Prop)(k:List Item)(oI:TB)(S:TG->Prop)(tail:TC)(r:List (Nat×Bool)):Exit->Act->TG->Prop:=
 Exit.then (fun a' w'=>S w'/\LJ P oI (qk P f R k) S tail r a' w') (qk P f R k)
theorem Qyx{o:Oper}(ho:oI[i]?=some o)(h:AU P (qo P f R k oI S tail r) oI [o] n e w):Ord P f R k oI S tail ((i,false)::r) n e w:=by unfold AU at h;exact⟨o,ho,h⟩
theorem PT(hS:S w)(h:Ord P f R k oI S tail r n e w):AU P (qo P f R k oI S tail r) oI [] n e w:=by unfold AU;exact⟨hS,h⟩
theorem Qyw(h:AU P (qk P f R k) oI tail n e w):Ord P f R k oI S tail [] n e w:=by unfold AU at h;exact h
end
attribute [irreducible] Ord
def has:T6->Nat->Bool
 |[],_=>false
 |i::r,j=>Nat.beq i j||has r j
def keep(S:T6):AW->AW
 |[]=>[]
 |(i,v)::e=>bif has S i then keep S e else(i,v)::keep S e
def DJ(jv:Nat->TH):T6->AW
 |[]=>[]
 |i::r=>(i,jv i)::DJ jv r
theorem Qmw{S:T6}{i:Nat}(h:has S i=false):∀e:AW,lk (keep S e) i=lk e i
 |[]=>rfl
 | (j, v) :: e => by
  unfold keep
  cases hj:has S j with
  |true=>
   have oN:Nat.beq j i=false:=by
    cases hb:Nat.beq j i with
    |false=>rfl
    |true=>simp_all
   simp only[WD,lk,oN,WC];exact Qmw h e
  |false=>
   simp only[WC,lk];rw[Qmw h e]
theorem QuV(jv:Nat->TH)(e:AW)(i:Nat):∀J:T6,lk (DJ jv J++e) i=bif has J i then jv i else lk e i
 |[]=>rfl
 |j::J=>by
  simp only[DJ,VI,lk,has]
  cases hb:Nat.beq j i with
  |true=>simp_all
  |false=>simp only[WC,Bool.false_or];exact QuV jv e i J
theorem QvX{n:Nat}{e e':AW}(h:∀i,lk e i=lk e' i):AF n e=AF n e':=by
 simp_all[AF,DG]
theorem LF{n:Nat}{S:T6}{e e0:AW}(h:keep S e=keep S e0):AF n e=AF n (DJ (lk e) S++e0):=by
 refine QvX fun i=> ?_;rw[QuV]
 cases hi:has S i with
 |true=>rfl
 |false=>rw[WC,<-Qmw hi e,h,Qmw hi e0]
section
variable{P:Program}{f:FuncId}{R:Ending->TG->Prop}{k:List Item}{n:Nat}{e:AW}{w:TG}{c:Code}{α:Type}
theorem QhK(J:T6)(I:α->TG->Prop)(μ:α->Nat)(x:α)(h0:I x w)
  (round:∀(x:α) (w:TG) (jv:Nat->TH),I x w->(∀(y:α) (e':AW) (w':TG),μ y<μ x->I y w'->keep J e'=keep J e->AG P f R (.inLoop c::k) (AF n e') w')->
   AG P f R (.code c:: .inLoop c::k) (AF n (DJ jv J++e)) w):AG P f R (.code (.loop c)::k) (AF n e) w:=by
 refine QgY (fun x a w=>I x w/\∃jv,a=AF n (DJ jv J++e)) μ ⟨h0,lk e,LF rfl⟩ ?_;rintro x a w ⟨hI,jv,rfl⟩ ih;exact round x w jv hI fun y e' w' hy Da hk=>ih y _ w' hy ⟨Da,lk e',LF hk⟩
theorem Qp(s:Nat)(J:T6)(I:α->TH->TG->Prop)(μ:α->Nat)(x:α){v:TH}(h0:I x v w)(hv:lk e s=v)
  (round:∀(x:α) (v:TH) (w:TG) (jv:Nat->TH),I x v w->(∀(y:α) (v':TH) (e':AW) (w':TG),μ y<μ x->I y v' w'->lk e' s=v'->keep (s::J) e'=keep (s::J) e->AG P f R (.inLoop c::k) (AF n e') w')->
   AG P f R (.code c:: .inLoop c::k) (AF n ((s,v)::(DJ jv J++e))) w):AG P f R (.code (.loop c)::k) (AF n e) w:=by
 refine QgY (fun x a w=>∃v,I x v w/\∃jv:Nat->TH,jv s=v/\a=AF n (DJ jv (s::J)++e)) μ ⟨v,h0,lk e,hv,LF rfl⟩ ?_;rintro x a w ⟨v,hI,jv,rfl,rfl⟩ ih;exact round x _ w jv hI fun y v' e' w' hy Da h1 hk=>ih y _ w' hy ⟨v',Da,lk e',h1,LF hk⟩
theorem Qx(s t:Nat)(J:T6)(I:α->TH->TH->TG->Prop)(μ:α->Nat)(x:α){v u:TH}(h0:I x v u w)(hv:lk e s=v)(hu:lk e t=u)
  (round:∀(x:α) (v u:TH) (w:TG) (jv:Nat->TH),I x v u w->(∀(y:α) (v' u':TH) (e':AW) (w':TG),μ y<μ x->I y v' u' w'->lk e' s=v'->lk e' t=u'->keep (s::t::J) e'=keep (s::t::J) e->AG P f R (.inLoop c::k) (AF n e') w')->
   AG P f R (.code c:: .inLoop c::k) (AF n ((s,v)::(t,u)::(DJ jv J++e))) w):AG P f R (.code (.loop c)::k) (AF n e) w:=by
 refine QgY (fun x a w=>∃v u,I x v u w/\∃jv:Nat->TH,jv s=v/\jv t=u/\a=AF n (DJ jv (s::t::J)++e)) μ ⟨v,u,h0,lk e,hv,hu,LF rfl⟩ ?_;rintro x a w ⟨v,u,hI,jv,rfl,rfl,rfl⟩ ih;exact round x _ _ w jv hI fun y v' u' e' w' hy Da h1 h2 hk=>ih y _ w' hy ⟨v',u',Da,lk e',h1,h2,LF hk⟩
theorem QhJ(s t z:Nat)(J:T6)(I:α->TH->TH->TH->TG->Prop)(μ:α->Nat)(x:α){v u q:TH}(h0:I x v u q w)(hv:lk e s=v)(hu:lk e t=u)(hq:lk e z=q)
  (round:∀(x:α) (v u q:TH) (w:TG) (jv:Nat->TH),I x v u q w->(∀(y:α) (v' u' q':TH) (e':AW) (w':TG),μ y<μ x->I y v' u' q' w'->lk e' s=v'->lk e' t=u'->lk e' z=q'->keep (s::t::z::J) e'=keep (s::t::z::J) e->AG P f R (.inLoop c::k) (AF n e') w')->
   AG P f R (.code c:: .inLoop c::k) (AF n ((s,v)::(t,u)::(z,q)::(DJ jv J++e))) w):AG P f R (.code (.loop c)::k) (AF n e) w:=by
 refine QgY (fun x a w=>∃v u q,I x v u q w/\∃jv:Nat->TH,jv s=v/\jv t=u/\jv z=q/\a=AF n (DJ jv (s::t::z::J)++e)) μ ⟨v,u,q,h0,lk e,hv,hu,hq,LF rfl⟩ ?_;rintro x a w ⟨v,u,q,hI,jv,rfl,rfl,rfl,rfl⟩ ih;exact round x _ _ _ w jv hI fun y v' u' q' e' w' hy Da h1 h2 h3 hk=>ih y _ w' hy ⟨v',u',q',Da,lk e',h1,h2,h3,LF hk⟩
variable{M:T6}{w0:TG}{H:T0}{F:T3}
theorem Qp3(hS:St M w0 H F w)(s:Nat)(J:T6)(I:α->TH->Prop)(μ:α->Nat)(x:α){v:TH}(h0:I x v)(Js:lk e s=v)
  (round:∀(x:α) (v:TH) (w:TG) (jv:Nat->TH),I x v->St M w0 H F w->(∀(y:α) (v':TH) (e':AW) (w':TG),μ y<μ x->I y v'->St M w0 H F w'->lk e' s=v'->keep (s::J) e'=keep (s::J) e->AG P f R (.inLoop c::k) (AF n e') w')->
   AG P f R (.code c:: .inLoop c::k) (AF n ((s,v)::(DJ jv J++e))) w):AG P f R (.code (.loop c)::k) (AF n e) w:=by
 refine Qp s J (fun x v w=>I x v/\St M w0 H F w) μ x ⟨h0,hS⟩ Js ?_;grind
theorem QoC{k vG:List Item}(J:T6)(Φ:TG->Prop)(h:(∀(e':AW) (w':TG),Φ w'->keep J e'=keep J e->AG P f R k (AF n e') w')->AG P f R vG (AF n e) w)
  (h2:∀(jv:Nat->TH) (w':TG),Φ w'->AG P f R k (AF n (DJ jv J++e)) w'):AG P f R vG (AF n e) w:=
 h fun e' w' hΦ hk=>by rw[LF hk];grind
theorem Qgj{c1:Item}(J:T6)(Φ:TG->Prop)
  (h:(∀(e':AW) (w':TG),Φ w'->keep J e'=keep J e->AG P f R k (AF n e') w')->AG P f R (c1::k) (AF n e) w)
  (h2:∀(jv:Nat->TH) (w':TG),Φ w'->AG P f R k (AF n (DJ jv J++e)) w'):AG P f R (c1::k) (AF n e) w:=QoC J _ h h2
theorem Qp4{c1 c2:Item}(J:T6)(Φ:TG->Prop)
  (h:(∀(e':AW) (w':TG),Φ w'->keep J e'=keep J e->AG P f R k (AF n e') w')->AG P f R (c1::c2::k) (AF n e) w)
  (h2:∀(jv:Nat->TH) (w':TG),Φ w'->AG P f R k (AF n (DJ jv J++e)) w'):AG P f R (c1::c2::k) (AF n e) w:=QoC J _ h h2
end
abbrev AA:=TI
abbrev sv(l:AA):TH:= .string ⟨l.toArray⟩
theorem Qxs(s:TJ):∃l:AA,s=⟨l.toArray⟩:=⟨s.data.toList,by grind⟩
theorem Qpj(l:AA):∀(k i:Nat) (tQ:TI),k=l.length-i->ByteArray.toList.loop ⟨l.toArray⟩ i tQ=tQ.reverse++l.drop i:=by
 intro k
 induction k with
 |zero=>
  grind[ByteArray.toList.loop,ByteArray.size,List.drop_eq_nil_of_le]
 |succ k ih=>
  intro i tQ hk;unfold ByteArray.toList.loop;have hi:i<l.length:=by omega
  simp only[ByteArray.size,WY,hi,X5];rw[ih (i+1) _ Ya];rw[Xbo hi];simp[ByteArray.get!,hi]
theorem NX(l:AA):(⟨l.toArray⟩:TJ).toList=l:=by
 simp_all
theorem GY(l:AA):(⟨l.toArray⟩:TJ).size=l.length:=by simp[ByteArray.size]
theorem QhM(l:AA)(i j:Nat):(⟨l.toArray⟩:TJ).extract i j=⟨((l.take j).drop i).toArray⟩:=by
 apply ByteArray.ext;grind[ByteArray.data_extract]
section
variable{P:Program}{n:Nat}{e:AW}{w:TG}{ty:TypeId}{pos:String}{after:TE}{x y:Operand}{dst:TD}{t t2:TypeId}{l m:AA}
theorem Qpv{ts:Array TypeId}(hx:ev n e x=sv l)(ht:ts[0]?=some t)(hT:LO P t=true):
  (execOp (ev n e) ⟨dst,.call ⟨.builtin .len, #[x],ts⟩,ty,pos,after,none⟩).run P w= .ok (.value (.int .i64 (l.length:Nat))) w:=by
 grind[QkC,GY]
theorem Qme{i:Int}{c:UInt8}(hx:ev n e x=sv l)(hy:ev n e y= .int .i64 i)(hT:LO P t=true)(h0:0<=i)(h1:l[i.toNat]?=some c):
  (execOp (ev n e) ⟨dst,.index t x y,ty,pos,after,none⟩).run P w= .ok (.value (.int .u8 c.toNat)) w:=by
 have hl:i.toNat<l.length:=by
  grind
 rw[Qik hx hy hT h0 (by grind[GY])]
 have:(⟨l.toArray⟩:TJ)[i.toNat]'(by grind[GY])=c:=by
  rw[VN hl]at h1;exact V9 h1
 rw[this]
theorem QfQ{i:Int}(hx:ev n e x=sv l)(hy:ev n e y= .int .i64 i)(hT:LO P t=true)(h0:0<=i)(h1:i.toNat<=l.length):
  (execOp (ev n e) ⟨dst,.slice t x (some y) none none,ty,pos,after,none⟩).run P w= .ok (.value (sv (l.drop i.toNat))) w:=by
 simp_all[Qmd,GY,QhM]
theorem Qh5{i:Int}(hx:ev n e x=sv l)(hy:ev n e y= .int .i64 i)(hT:LO P t=true)(h0:0<=i)(h1:i.toNat<=l.length):
  (execOp (ev n e) ⟨dst,.slice t x none (some y) none,ty,pos,after,none⟩).run P w= .ok (.value (sv (l.take i.toNat))) w:=by
 simp_all[Qkz,GY,QhM]
theorem Qjz(hx:ev n e x=sv l)(hy:ev n e y=sv m):
  (execOp (ev n e) ⟨dst,.binOp .eql t x y t2,ty,pos,after,none⟩).run P w= .ok (.value (.bool (l==m))) w:=by
 have:(execOp (ev n e) ⟨dst,.binOp .eql t x y t2,ty,pos,after,none⟩).run P w= .ok (.value (.bool ((⟨l.toArray⟩:TJ).toList==(⟨m.toArray⟩:TJ).toList))) w:=by
  simp only[execOp,hx,hy];rfl
 simp_all
theorem Qjs(hx:ev n e x=sv l)(hy:ev n e y=sv m):
  (execOp (ev n e) ⟨dst,.binOp .neq t x y t2,ty,pos,after,none⟩).run P w= .ok (.value (.bool (l !=m))) w:=by
 have:(execOp (ev n e) ⟨dst,.binOp .neq t x y t2,ty,pos,after,none⟩).run P w= .ok (.value (.bool (!((⟨l.toArray⟩:TJ).toList==(⟨m.toArray⟩:TJ).toList)))) w:=by
  simp only[execOp,hx,hy];rfl
 grind[NX]
theorem Qhu(hx:ev n e x=sv l)(hy:ev n e y=sv m)(hb:l.length+m.length<=9223372036854775807):
  (execOp (ev n e) ⟨dst,.binOp .add t x y t2,ty,pos,after,none⟩).run P w= .ok (.value (sv (l++m))) w:=by
 have h1:¬(((⟨l.toArray⟩:TJ).size+(⟨m.toArray⟩:TJ).size:Nat):Int)>IntKind.i64.max:=by
  grind[IntKind.max,GY,IntKind.bits]
 have h2:(⟨l.toArray⟩:TJ)++⟨m.toArray⟩=⟨(l++m).toArray⟩:=by
  apply ByteArray.ext;simp_all
 simp_all[execOp,Sem.bind,eqGuard,binOp,Op.stringOp]
end
end Go.Proofs.YthliapbflkfdiacGreatDoor
