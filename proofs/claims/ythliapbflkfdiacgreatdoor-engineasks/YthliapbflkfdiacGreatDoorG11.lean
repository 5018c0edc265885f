/- Steps of the proof. -/
import Derived.Test.YthliapbflkfdiacGreatDoorG10
set_option linter.unusedVariables false
set_option linter.unusedSimpArgs false
set_option maxRecDepth 100000
set_option maxHeartbeats 1000000
namespace Go.Proofs.YthliapbflkfdiacGreatDoor
open Go.Proofs.Tryz
open Go.RowKit
section
variable{M:T6}{w0:TG}{H:T0}{F0:T3}{b:Nat}{P:List LC}{pA:T4}{pc vars:Nat}
end
inductive GZ where
 |tail
 |read (i:Nat) (p:GZ)
 |pick (i:Nat) (p more:GZ)
 |none
def GZ.heads:GZ->T6
 | .pick i _ more=>i::more.heads
 |_=>[]
section
variable{P:Program}{oI:TB}{Q:Exit->Act->TG->Prop}{md:Region.Mode}{S:TG->Prop}{n:Nat}
def OY(P:Program)(oI:TB)(Q:Exit->Act->TG->Prop)(S:TG->Prop)(tail:TC):GZ->Act->TG->Prop
 | .tail,a,w=>wpList P oI Q tail a w
 | .read i p,a,w=>∃o v,oI[i]?=some o/\YieldsIf P oI S o v a/\(∀c a w,Q (.panic c) (a.put o.dst v) w->Q (.panic c) a w)/\OY P oI Q S tail p (a.put o.dst v) w
 | .pick i p more,a,w=>(∃o,oI[i]?=some o/\wpList P oI (Exit.then (fun a' w'=>S w'/\OY P oI Q S tail p a' w') Q) [o] a w)/\OY P oI Q S tail more a w
 | .none,_,_=>True
def G3(md:Region.Mode)(oI:TB)(n:Nat):GZ->Nat->Array Bool->Bool->Bool
 | .tail,d,oH,top=>top&&decide (d=0)&&Region.seqB md oI (oI.size-n) n oH
 | .read i p,d,oH,top=>top&&decide (0<d)&&(Region.ready md oI oH).contains i&&Region.free md oI oH i&&decide (i<n)&&G3 md oI n p (d-1) (oH.setIfInBounds i true) true
 | .pick i p more,d,oH,top=>(!top||decide (Region.ready md oI oH=(GZ.pick i p more).heads))&&decide (0<d)&&decide (i<n)&&G3 md oI n p (d-1) (oH.setIfInBounds i true) true&&G3 md oI n more d oH false
 | .none,_,_,top=> !top
theorem QnU{tail:TC}{a:Act}{w:TG}{d:Nat}{oH:Array Bool}:∀(pl:GZ),G3 md oI n pl d oH false=true->OY P oI Q S tail pl a w->∀j∈pl.heads,j<n/\0<d/\∃p o,oI[j]?=some o/\G3 md oI n p (d-1) (oH.setIfInBounds j true) true=true/\wpList P oI (Exit.then (fun a' w'=>S w'/\OY P oI Q S tail p a' w') Q) [o] a w
 | .tail,h,_,j,hj=>by simp[GZ.heads]at hj
 | .read i p,h,_,j,hj=>by simp[GZ.heads]at hj
 | .none,h,_,j,hj=>by simp[GZ.heads]at hj
 | .pick i p more,h,hw,j,hj=>by
  simp only[G3,XI,XO]at h;obtain⟨⟨⟨⟨_,hd⟩,tW⟩,h1⟩,h2⟩:=h;simp only[GZ.heads,XV]at hj;rcases hj with rfl|hj
  .obtain⟨⟨o,ho,hl⟩,_⟩:=hw;exact⟨tW,hd,p,o,ho,h1,hl⟩
  .exact QnU more h2 hw.2 j hj
theorem Ql5(tU:Region.noSelect oI=true)(tail:TC)(xB:∀j,tail[j]?=oI[n+j]?)(My:tail.length=oI.size-n)(rX:n<oI.size->Region.sinkB md oI n=true/\Region.chainB md oI n=true):∀(d:Nat) (pl:GZ) (oH:Array Bool) (a:Act) (w:TG),HeadInv md oI n oH->S w->
  G3 md oI n pl d oH true=true->OY P oI Q S tail pl a w->R8 P md oI Q S n (d+tail.length) oH a w:=by
 intro d
 induction d with
 |zero=>
  intro pl oH a w pJ hS hB h
  cases pl with
  |tail=>
   simp only[G3,XI]at hB;rw[XQ];exact QeN tail n oH a w (XF _) xB (by rw[My];exact hB.2) h
  |read i p=>simp[G3]at hB
  |pick i p more=>simp[G3]at hB
  |none=>simp[G3]at hB
 |succ d ih=>
  intro pl oH a w pJ hS hB h
  cases pl with
  |tail=>simp[G3]at hB
  |none=>simp[G3]at hB
  |read i p=>
   simp only[G3,XI,XO]at hB;obtain⟨⟨⟨⟨_,hr⟩,hf⟩,tW⟩,sN⟩:=hB;obtain⟨o,_,ho,hy,hQ,h'⟩:=h;have uI:i∈Region.ready md oI oH:=by simpa using hr
   rw[show d+1+tail.length=(d+tail.length)+1 by omega]
   exact Qi2 ho (Region.noSelect_spec tU) hQ rX tW _ oH a w pJ (Region.free_spec ho hf) uI hy hS
    (ih p _ _ _ (pJ.set uI tW) hS sN h')
  |pick i p more=>
   have hB0:G3 md oI n (.pick i p more) (d+1) oH false=true:=by
    simp only[G3,XI,XO]at hB⊢;obtain⟨⟨⟨⟨_,hd⟩,tW⟩,h1⟩,h2⟩:=hB;exact⟨⟨⟨⟨by simp,hd⟩,tW⟩,h1⟩,h2⟩
   have hr:Region.ready md oI oH=(GZ.pick i p more).heads:=by
    simp only[G3,XI,XO]at hB;simpa using hB.1.1.1.1
   have hk:=QnU (P:=P) (Q:=Q) (S:=S) (tail:=tail) (a:=a) (w:=w) _ hB0 h;rw[show d+1+tail.length=(d+tail.length)+1 by omega];refine⟨fun h1=>(by rw[h1]at hr;cases hr),fun j hj=> ?_⟩;obtain⟨Od,_,q,o,ho,hq,hl⟩:=hk j (by rw[<-hr];exact hj);exact ZZ (fun a' w' h3=>⟨fun _=>h3.1,ih q _ _ _ (pJ.set hj Od) h3.1 hq h3.2⟩) (Qh0 ho hl)
theorem Qkx{id:Nat}{a:Act}{w:TG}{l:TC}(S:TG->Prop)(n:Nat)(pl:GZ)(hm:P.follows .mixedOrders=true)
  (hB:(Region.noSelect l.toArray&&decide (n<=l.length)&&(decide (n=l.length)||(Region.sinkB .any l.toArray n&&Region.chainB .any l.toArray n))&&G3 .any l.toArray n pl n (Array.replicate l.toArray.size false) true)=true) (hS:S w.drew)
  (h:OY P l.toArray Q S (l.drop n) pl a w.drew):(Code.region id l.toArray true).wp P Q a w:=by
 simp only[XI,XO]at hB;obtain⟨⟨⟨tU,_⟩,Jr⟩,hB⟩:=hB
 have pJ:HeadInv .any l.toArray n (Array.replicate l.toArray.size false):=
  ⟨by simp,fun j oj _ hl=>(by rw[XaD]at hl;cases hl),fun t _ ht=>getD_in (by simpa using ht) (XaD _ _)⟩
 have rX:n<l.toArray.size->Region.sinkB .any l.toArray n=true/\Region.chainB .any l.toArray n=true:=fun h=>by
  simp only[Xal,XI,XO]at Jr;rcases Jr with e|e
  .simp at h;omega
  .exact e
 have yA:(l.drop n).length=l.toArray.size-n:=by simp
 have H:=Ql5 (md:= .any) (n:=n) tU (l.drop n) (fun j=>by simp[UW]) yA rX n pl _ a w.drew pJ hS hB h;refine wp_region_any hm ?_
 have e:n+(l.drop n).length=l.toArray.size:=by rw[yA];simp;omega
 rw[e]at H;exact QeP _ _ _ _ H
end
section
variable{P:Program}{f:FuncId}{R:Ending->TG->Prop}{k:List Item}{n:Nat}{e:AW}{w:TG}{S:TG->Prop}{oI:TB}{tail:TC}{r more:GZ}
variable{ty:TypeId}{pos:String}{after:TE}{d i:Nat}
def OG(P:Program)(f:FuncId)(R:Ending->TG->Prop)(k:List Item)(oI:TB)(S:TG->Prop)(tail:TC)(r:GZ)(n:Nat)(e:AW)(w:TG):Prop:=
 OY P oI (qk P f R k) S tail r (AF n e) w
theorem K1{id:Nat}{l:TC}(S:TG->Prop)(m:Nat)(pl:GZ)(hm:P.follows .mixedOrders=true)
  (hB:(Region.noSelect l.toArray&&decide (m<=l.length)&&(decide (m=l.length)||(Region.sinkB .any l.toArray m&&Region.chainB .any l.toArray m))&&G3 .any l.toArray m pl m (Array.replicate l.toArray.size false) true)=true)
  (hS:S w.drew) (h:OG P f R k l.toArray S (l.drop m) pl n e w.drew):AG P f R (.code (.region id l.toArray true)::k) (AF n e) w:=
 QhH (Qkx S m pl hm hB hS h)
theorem Qj{op:Op}{v:TH}(ho:oI[i]?=some ⟨some d,op,ty,pos,after,none⟩)(hr:∀w',S w'->(execOp (ev n e) ⟨some d,op,ty,pos,after,none⟩).run P w'= .ok (.value v) w')(hd:Nat.blt d n=true)
  (h:OG P f R k oI S tail r n ((d,v)::e) w):OG P f R k oI S tail (.read i r) n e w:=by
 exact YbL
def qp(P:Program)(f:FuncId)(R:Ending->TG->Prop)(k:List Item)(oI:TB)(S:TG->Prop)(tail:TC)(r:GZ):Exit->Act->TG->Prop:=
 Exit.then (fun a' w'=>S w'/\OY P oI (qk P f R k) S tail r a' w') (qk P f R k)
theorem QA{o:Oper}(ho:oI[i]?=some o)(h:AU P (qp P f R k oI S tail r) oI [o] n e w)(h2:OG P f R k oI S tail more n e w):OG P f R k oI S tail (.pick i r more) n e w:=by unfold AU at h;exact⟨⟨o,ho,h⟩,h2⟩
theorem QwG{o:Oper}(ho:oI[i]?=some o)(h:AU P (qp P f R k oI S tail r) oI [o] n e w):OG P f R k oI S tail (.pick i r .none) n e w:=by unfold AU at h;exact⟨⟨o,ho,h⟩,trivial⟩
theorem M4(hS:S w)(h:OG P f R k oI S tail r n e w):AU P (qp P f R k oI S tail r) oI [] n e w:=by unfold AU;exact⟨hS,h⟩
theorem QwF(h:AU P (qk P f R k) oI tail n e w):OG P f R k oI S tail .tail n e w:=by unfold AU at h;exact h
theorem Qd9{c1:Item}(s t:Nat)(J:T6)(Φ:TH->TH->TG->Prop)
  (h:(∀(v u:TH) (e':AW) (w':TG),Φ v u w'->lk e' s=v->lk e' t=u->keep (s::t::J) e'=keep (s::t::J) e->AG P f R k (AF n e') w')->AG P f R (c1::k) (AF n e) w)
  (h2:∀(jv:Nat->TH) (v u:TH) (w':TG),Φ v u w'->AG P f R k (AF n ((s,v)::(t,u)::(DJ jv J++e))) w'):AG P f R (c1::k) (AF n e) w:=
 h fun v u e' w' hΦ h1 h3 hk=>by
  have:=h2 (lk e') v u w' hΦ;rw[LF hk];have e2:DJ (lk e') (s::t::J)++e=(s,v)::(t,u)::(DJ (lk e') J++e):=by simp[DJ,h1,h3]
  rw[e2];exact BS
theorem QhI{c1:Item}(s t u:Nat)(J:T6)(Φ:TH->TH->TH->TG->Prop)
  (h:(∀(v v2 v3:TH) (e':AW) (w':TG),Φ v v2 v3 w'->lk e' s=v->lk e' t=v2->lk e' u=v3->keep (s::t::u::J) e'=keep (s::t::u::J) e->AG P f R k (AF n e') w')->AG P f R (c1::k) (AF n e) w)
  (h2:∀(jv:Nat->TH) (v v2 v3:TH) (w':TG),Φ v v2 v3 w'->AG P f R k (AF n ((s,v)::(t,v2)::(u,v3)::(DJ jv J++e))) w'):AG P f R (c1::k) (AF n e) w:=
 h fun v v2 v3 e' w' hΦ h1 h3 h4 hk=>by
  have:=h2 (lk e') v v2 v3 w' hΦ;rw[LF hk];have e2:DJ (lk e') (s::t::u::J)++e=(s,v)::(t,v2)::(u,v3)::(DJ (lk e') J++e):=by simp[DJ,h1,h3,h4]
  rw[e2];exact BS
theorem Qw8{c1 c2:Item}(s:Nat)(J:T6)(Φ:TH->TG->Prop)
  (h:(∀(v:TH) (e':AW) (w':TG),Φ v w'->lk e' s=v->keep (s::J) e'=keep (s::J) e->AG P f R k (AF n e') w')->AG P f R (c1::c2::k) (AF n e) w)
  (h2:∀(jv:Nat->TH) (v:TH) (w':TG),Φ v w'->AG P f R k (AF n ((s,v)::(DJ jv J++e))) w'):AG P f R (c1::c2::k) (AF n e) w:=
 h fun v e' w' hΦ h1 hk=>by
  have:=h2 (lk e') v w' hΦ;rw[LF hk];have e2:DJ (lk e') (s::J)++e=(s,v)::(DJ (lk e') J++e):=by simp[DJ,h1]
  rw[e2];exact BS
theorem PX{c1:Item}(s:Nat)(J:T6)(Φ:TH->TG->Prop)
  (h:(∀(v:TH) (e':AW) (w':TG),Φ v w'->lk e' s=v->keep (s::J) e'=keep (s::J) e->AG P f R k (AF n e') w')->AG P f R (c1::k) (AF n e) w)
  (h2:∀(jv:Nat->TH) (v:TH) (w':TG),Φ v w'->AG P f R k (AF n ((s,v)::(DJ jv J++e))) w'):AG P f R (c1::k) (AF n e) w:=
 h fun v e' w' hΦ h1 hk=>by
  have:=h2 (lk e') v w' hΦ;rw[LF hk];have e2:DJ (lk e') (s::J)++e=(s,v)::(DJ (lk e') J++e):=by simp[DJ,h1]
  rw[e2];exact BS
end
attribute [irreducible] OG
end Go.Proofs.YthliapbflkfdiacGreatDoor
