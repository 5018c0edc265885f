/- Steps of the proof. -/
import Derived.Test.YthliapbflkfdiacGreatDoorG6
set_option linter.unusedVariables false
set_option linter.unusedSimpArgs false
set_option maxRecDepth 100000
set_option maxHeartbeats 1000000
namespace Go.Proofs.YthliapbflkfdiacGreatDoor
open Go.Proofs.Tryz
open Go.RowKit
def InS(L:List E8)(k i:Nat):Prop:=∃l∈L,l.b=k/\l.o<=i/\i<l.o+4*l.T.length
def T24(w:TG)(k:Nat):Prop:=∃cur,QR w k 63 cur
def QzO{σ:Type}(N:CM σ)(B:Nat)(w':TG):List E8->σ->σ->Prop
 |[],s,sf=>sf=s
 |l::r,s,sf=>CY w' (fun k=>B<=k) (l.T.ren N s).1 l.b l.o/\QzO N B w' r (l.T.ren N s).2 sf
def Fr(L:List E8)(w w':TG):Prop:=∀k i v,T24 w k->¬InS L k i->w.cell? ⟨k,i,none⟩=some v->w'.cell? ⟨k,i,none⟩=some v
def QzZ(w0 w:TG)(B:Nat)(l:E8):Prop:=
 B<=l.b/\∃cur xs,QR w l.b 63 cur/\Cs w0 (fun _=>True) l.T xs/\∀j u,xs[j]?=some u->cur[l.o+j]?=some u
structure Qv2{σ:Type}(N:CM σ)(w0:TG)(s0:σ)(T:Ts)(out:TH)(pb:Nat)(L:List E8)(s:σ)(pv:TH)(xs:T5)(w:TG):Prop where
 path:DP w w0.heap.size pb pv xs
 pbl:w0.heap.size<=pb
 pvs:PV L xs
 lev:∀l∈L,QzZ w0 w w0.heap.size l
 dis:(L.map E8.b).Nodup
 inv:N.inv s w
 chg:AM N.own w0 w
 small:QV L<=T.nodes
 wand:∀w' sf,QzO N w0.heap.size w' L s sf->Fr L w w'->Sl w' (fun k=>w0.heap.size<=k) out (T.ren N s0).1/\sf=(T.ren N s0).2
theorem Z3{T:Ts}{b o:Nat}{L:List E8}{l:E8}(h:l∈push T b o L):(0<T.length/\l=⟨b,o,T⟩)\/l∈L:=by
 unfold push at h;grind
theorem TK{T:Ts}{b o k i:Nat}{L:List E8}(h:InS (push T b o L) k i):(b=k/\o<=i/\i<o+4*T.length)\/InS L k i:=by
 obtain⟨l,hl,h⟩:=h;rcases Z3 hl with⟨_,rfl⟩|hl
 .grind
 .exact .inr ⟨l,hl,h⟩
theorem QjH{σ:Type}{N:CM σ}{B:Nat}{w':TG}{T:Ts}{b o:Nat}{L:List E8}{s sf:σ}(h:QzO N B w' (push T b o L) s sf):CY w' (fun k=>B<=k) (T.ren N s).1 b o/\QzO N B w' L (T.ren N s).2 sf:=by
 unfold push at h;split at h
 .rename_i h0;rw[Ts.nil_of_length h0];exact⟨trivial,h⟩
 .exact h
theorem Qv2.step{σ:Type}{N:CM σ}{w0 wr w5:TG}{s0 s:σ}{T:Ts}{out:TH}{pb b o g:Nat}{k n:Int}{t:TJ}{ar r:Ts}{L:List E8}{pv pv5 v v4:TH}{xs Zk ys Jz:T5}{cur Gu:T9}
  (h:Qv2 N w0 s0 T out pb (⟨b,o,.cons k n t ar r⟩::L) s pv xs wr)
  (vZ:QR wr b 63 cur) (c0:cur[o]?=some (.int .i64 k)) (c1:cur[o+1]?=some (.int .i64 n)) (c2:cur[o+2]?=some (.string t)) (c3:cur[o+3]?=some v) (sP:Cs w0 (fun _=>True) r ys) (Vr:∀(j:Nat) u,ys[j]?=some u->cur[o+4+j]?=some u)
  (Pk:DP w5 w0.heap.size pb pv5 Zk) (Cc:PV (push ar g 0 (push r b (o+4) L)) Zk) (Zl:Cs w0 (fun _=>True) ar Jz)
  (Dm:∀k' rF,k'≠b->QR wr k' 63 rF->QR w5 k' 63 rF)
  (yS:QR w5 b 63 ((cur.setIfInBounds (o+1) (.int .i64 (N.v1 k n s))).setIfInBounds (o+3) v4))
  (hv4:∃A c,v4= .slice A ar.length c/\ar.length<=c/\(0<ar.length->A=some ⟨g,0,none⟩))
  (hg:0<ar.length->wr.heap.size<=g/\QR w5 g 63 Gu/\∀(j:Nat) u,Jz[j]?=some u->Gu[j]?=some u)
  (hI:N.inv (N.s1 k n s) w5) (hC:AM N.own w0 w5):
  Qv2 N w0 s0 T out pb (push ar g 0 (push r b (o+4) L)) (N.s1 k n s) pv5 Zk w5:=by
 have hd:=h.dis;simp only[VE,Xa9]at hd;have oN:∀l∈L,l.b≠b:=fun l hl e=>hd.1 (by grind);have rA:=vZ.lt
 have Pm:∀l∈L,l.b<wr.heap.size:=fun l hl=>by
  obtain⟨_,_,_,h1,_⟩:=h.lev l (XZ _ hl);exact h1.lt
 have hB:w0.heap.size<=b:=(h.lev _ (X8 ..)).1;have hBr:=h.chg.size;have Dc:((cur.setIfInBounds (o+1) (.int .i64 (N.v1 k n s))).setIfInBounds (o+3) v4).size=cur.size:=by simp
 have pU:∀{i:Nat} {u:TH},cur[i]?=some u->i<cur.size:=fun hu=>(Xak.1 hu).1
 have GW:∀i u,i≠o+1->i≠o+3->cur[i]?=some u->((cur.setIfInBounds (o+1) (.int .i64 (N.v1 k n s))).setIfInBounds (o+3) v4)[i]?=some u:=fun i u h1 h3 hu=>by
  grind
 have d1:((cur.setIfInBounds (o+1) (.int .i64 (N.v1 k n s))).setIfInBounds (o+3) v4)[o+1]?=some (.int .i64 (N.v1 k n s)):=by
  grind
 have d3:((cur.setIfInBounds (o+1) (.int .i64 (N.v1 k n s))).setIfInBounds (o+3) v4)[o+3]?=some v4:=by
  grind
 refine⟨Pk,h.pbl,Cc,?_,?_,hI,hC,?_,?_⟩
 .intro l hl;rcases Z3 hl with⟨hp,rfl⟩|hl
  .obtain⟨h1,h2,h3⟩:=hg hp;exact⟨by grind,Gu,Jz,h2,Zl,fun j u hu=>by grind⟩
  .rcases Z3 hl with⟨hp,rfl⟩|hl
   .exact⟨hB,_,ys,yS,sP,fun j u hu=>GW _ _ (by grind) (by grind) (Vr j u hu)⟩
   .obtain⟨h1,rF,zs,h2,h3,h4⟩:=h.lev l (XZ _ hl);exact⟨h1,rF,zs,Dm _ _ (oN l hl) h2,h3,h4⟩
 .grind[push]
 .have:=h.small;grind[QV,Ts.nodes,OZ]
 .intro w' sf hR hF;refine h.wand w' sf ?_ ?_
  .obtain⟨zR,tY⟩:=QjH hR;obtain⟨Vs,Fj⟩:=QjH tY
   have oL:∀i u,(∀l∈L,l.b≠b)->i<o+4->((cur.setIfInBounds (o+1) (.int .i64 (N.v1 k n s))).setIfInBounds (o+3) v4)[i]?=some u->w'.cell? ⟨b,i,none⟩=some u:=by
    intro i u hL hi hu;refine hF b i u ⟨_,yS⟩ ?_ ((yS.cell i).trans hu);intro tW;rcases TK tW with⟨e,h1,h2⟩|tW
    .omega
    .rcases TK tW with⟨_,h1,_⟩|⟨l,hl,e,_⟩
     .omega
     grind
   refine⟨?_,Fj⟩;refine Q6.2 ⟨hB,oL o _ oN Ya (GW o _ Ya Ya c0),oL (o+1) _ oN Ya d1,oL (o+2) _ oN Ya (GW (o+2) _ Ya Ya c2),⟨v4,oL (o+3) _ oN Ya d3,?_⟩,Vs⟩;obtain⟨A,c,e,hc,hA⟩:=hv4;refine⟨A,c,by grind[Ts.length_ren],by grind[Ts.length_ren],fun hp=> ?_⟩;grind[Ts.length_ren]
  .intro k' i u hT tW hu;obtain⟨rF,yC⟩:=hT;have aIc:=yC.lt;by_cases e:k'=b
   .subst e
    have oS:rF=cur:=by
     unfold QR at yC vZ;grind
    subst oS;rw[yC.cell i]at hu;have Jp:¬(o<=i/\i<o+4*(Ts.cons k n t ar r).length):=fun hh=>tW ⟨_,X8 ..,rfl,hh⟩;simp only[Ts.length]at Jp;refine hF k' i u ⟨_,yS⟩ ?_ ((yS.cell i).trans (GW i u Ya Ya hu));intro yT;rcases TK yT with⟨e,h1,h2⟩|yT
    .omega
    .rcases TK yT with⟨_,h1,h2⟩|⟨l,hl,e,_⟩
     .omega
     grind
   .have h5:=Dm k' rF e yC;refine hF k' i u ⟨_,h5⟩ ?_ ((h5.cell i).trans ((yC.cell i).symm.trans hu));intro yT;rcases TK yT with⟨e2,h1,h2⟩|yT
    .omega
    .rcases TK yT with⟨e2,_,_⟩|⟨l,hl,hh⟩
     .omega
     .exact tW ⟨l,XZ _ hl,hh⟩
def Qx2{σ:Type}(N:CM σ)(w0:TG)(s0:σ)(T:Ts)(out:TH)(pb:Nat)(g:Nat)(w:TG):Prop:=
 ∃L s pv xs,Qv2 N w0 s0 T out pb L s pv xs w/\g=QV L
theorem CM.Ok.raw{σ:Type}{N:CM σ}(ok:N.Ok){w w':TG}{s:σ}{v:TH}{l:Nat}{xs:T5}(h:Raw w v l xs)(hi:N.inv s w)(hc:AM N.own w w'):Raw w' v l xs:=by
 obtain⟨A,c,e,h1,h2,h3,h4⟩:=h;refine⟨A,c,e,h1,h2,h3,fun hl=> ?_⟩;obtain⟨b,o,e2,h5⟩:=h4 hl;refine⟨b,o,e2,fun j u hu=> ?_⟩;have h6:=h5 j u hu;rw[JP (w:=w) (w':=w') (a:=⟨b,o+j,none⟩) (hc.block b (P5 h6) fun ho=>by grind[cell_none])];exact h6
structure QzY{σ:Type}(N:CM σ)(w0 wr:TG)(pb b:Nat)(pv:TH)(xs:T5)(cur:T9)(s:σ)(wx:TG):Prop where
 path:DP wx w0.heap.size pb pv xs
 cur:QR wx b 63 cur
 other:∀k' rF,k'≠b->QR wr k' 63 rF->QR wx k' 63 rF
 inv:N.inv s wx
 chg:AM N.own w0 wx
 size:wr.heap.size<=wx.heap.size
theorem Qss{σ:Type}{N:CM σ}(ok:N.Ok)(T:Ts)(v:TH)(s:σ)(w:TG)(hv:Sl w (fun _=>True) v T)(hi:N.inv s w)(hn:T.nodes<=1073741824):
  Calls prog 144 #[v,.func (.func N.fid) #[] N.cap] w fun e w'=>∃v',e= .returned v'/\Sl w' (fun k=>w.heap.size<=k) v' (T.ren N s).1/\N.inv (T.ren N s).2 w'/\AM N.own w w':=by
 obtain⟨xs0,Zm,Kj⟩:=hv.raw;have oW:=T.length_le;have vK:=ok.enter;have yE:Hid (∀k,N.lean k->k<w.heap.size):=fun k=>ok.lt s w k hi;go_enter func144,ntmps144;go_wp2_with fail;refine(QoN Zm Ya).mono ?_;rintro e w1 ⟨v1,rfl,Zn,qJ⟩;obtain⟨A1,d1,rfl⟩:=TL Zn;obtain⟨Nl,g,cur,hg⟩:=Qum Zn;have Nj:=qJ.size
 have Kk:DP (w1.alloc (.cells #[.slice none 0 0] 182)) w.heap.size w1.heap.size (.slice none 0 0) []:=⟨QR.new _ _ _,XaI _ _ _ _,by simp[Value.ownBlock]⟩
 go_wp2_with fail;refine(Qqi (b:=g) (o:=0) (L:=[]) Kk rfl Yg (by simp[QV]) Nl (fun h=>(hg h).1)).mono ?_;rintro e w2 ⟨rfl,pv2,Gn,sV,Pn,_,sX⟩
 have Zo:AM N.own w w2:=by
  refine((AM.of_fresh qJ).alloc _).trans sX fun k hk h=> ?_;grind[Value.ownBlock]
 have h0:Qx2 N w s T (.slice A1 T.length d1) w1.heap.size T.nodes w2:=by
  refine⟨push T g 0 [],s,pv2,Gn,⟨sV,Nj,Pn,?_,?_,?_,Zo,?_,?_⟩,by rw[OZ];simp[QV]⟩
  .intro l hl;rcases Z3 hl with⟨h,rfl⟩|h
   .obtain⟨h1,h2,h3,h4⟩:=hg h;refine⟨h2,cur,xs0,(h3.alloc _).chg sX ?_,Kj,fun j u hu=>by grind⟩;have:=h3.lt;grind[Value.ownBlock]
   .cases h
  .grind[push]
  .refine ok.keep s w _ hi fun k hk=> ?_;have:=yE.out k hk;rw[sX.block k Yg (by grind[Value.ownBlock]),JF _ _ _ Ya,qJ.block k this]
  .rw[OZ];simp[QV]
  .intro w' _ hR _;obtain⟨h1,h2⟩:=QjH hR;refine⟨⟨A1,d1,by rw[Ts.length_ren],by grind[Ts.length_ren],fun h=> ?_⟩,h2⟩;grind[Ts.length_ren]
 clear hg Zn Kk sV Pn;go_wp2_with fail;go_loopg [] T.nodes (Qx2 N w s T (.slice A1 T.length d1) w1.heap.size)
 case atStart=>exact h0
 case round =>
  clear h0;obtain⟨L,s',_,xs,hrel,Ck⟩:=hrel;have Ow:=hrel.pvs.length;have tM:=hrel.pvs.le;have Ov:=hrel.small;obtain⟨Ap,cp,Cc⟩:=TL hrel.path.own;subst Cc;have cpb:wr.cell? ⟨w1.heap.size,0,none⟩=some (.slice Ap xs.length cp):=hrel.path.var.cell 0;have HG:=XH Ck;clear Ck
  cases L with
  |nil=>
   have hx:xs=[]:=hrel.pvs;subst hx;obtain⟨pW,oM⟩:=hrel.wand wr s' rfl (fun _ _ _ _ _ h=>h);subst oM;have hI:=hrel.inv;have hC:=hrel.chg;clear hrel Ow;go_wp2_with fail;go_ret;exact⟨_,rfl,pW,hI,hC⟩
  |cons l Ls=>
   obtain⟨b,o,T1⟩:=l
   cases T1 with
   |nil=>obtain⟨_,_,_,_,h,_⟩:=hrel.pvs;simp[Ts.length]at h
   |cons k n t ar r=>
   have Ii:0<xs.length:=by grind
   obtain⟨_,cur,_,vZ,⟨v,ys,rfl,Gi,Dn⟩,tN⟩:=hrel.lev _ (X8 ..);have c0:cur[o]?=some (.int .i64 k):=tN 0 _ rfl;have c1:cur[o+1]?=some (.int .i64 n):=tN 1 _ rfl;have c2:cur[o+2]?=some (.string t):=tN 2 _ rfl;have c3:cur[o+3]?=some v:=tN 3 _ rfl
   have Vr:∀(j:Nat) u,ys[j]?=some u->cur[o+4+j]?=some u:=fun j u hu=>by
    have:=tN (j+4) u (by grind)
    grind
   have CYS:=XH Vr;have C0:=XH c0;have C1:=XH c1;have C2:=XH c2;have C3:=XH c3;have Nb:QV (⟨b,o,.cons k n t ar r⟩::Ls)<=1073741824:=by omega
   clear Vr tN c0 c1 c2 c3;go_wp2_with fail;refine(Qq8 hrel.path hrel.pvs Nb).mono ?_;rintro e w3 ⟨rfl,Po,Vt,Pp,Zp,Pq,Cf⟩;have oZ:QR w3 b 63 cur:=hrel.path.keep Cf vZ;have Ir:∀k' rF,QR wr k' 63 rF->QR w3 k' 63 rF:=fun k' rF h=>hrel.path.keep Cf h;have zS:∀g,(Value.slice Ap xs.length cp).ownBlock=some g->w.heap.size<=g/\g<wr.heap.size:=fun g hg=>hrel.path.own.lt g hg
   have Dp:AM N.own w w3:=hrel.chg.trans Cf fun k hk h=>by
    grind
   have Dq:∀k,N.lean k->w3.heap[k]?=wr.heap[k]?:=fun k hk=>by
    have hk:=yE.out k hk;refine Cf.block k (by have:=hrel.chg.size;omega) fun h=> ?_;grind
   have yF:N.inv s' w3:=ok.keep s' wr _ hrel.inv Dq;have hz3:=Cf.size;have a0:w3.cell? ⟨b,o,none⟩=some (.int .i64 k):=(oZ.cell o).trans C0.out;have a1:w3.cell? ⟨b,o+1,none⟩=some (.int .i64 n):=(oZ.cell (o+1)).trans C1.out;have HL:=XH Dq;have HO:=XH Ir;have HP:=XH zS;clear Dq Ir zS;go_upto_if 20 with fail;go_cut [] (fun wx=>QzY N w wr w1.heap.size b Po Vt (cur.setIfInBounds (o+1) (.int .i64 (N.v1 k n s'))) (N.s1 k n s') wx)
   case first=>
    by_cases hk:k=0
    .subst hk;go_wp2_with fail;refine(ok.call s' n _ yF).mono ?_;rintro e w4 ⟨rfl,hI4,Gv⟩;have sJ:QR w4 b 63 cur:=oZ.chg Gv fun ho=>ok.bare _ _ _ _ _ _ yF ho oZ;have a2:w4.cell? ⟨b,o+1,none⟩=some (.int .i64 n):=(sJ.cell (o+1)).trans C1.out;have f2:w4.frozen? ⟨b,o+1,none⟩=false:=sJ.frozen _
     have hp4:DP w4 w.heap.size w1.heap.size Po Vt:=Pp.chg Gv (fun ho=>by have:=yE.out _ (ok.sub _ ho);omega) fun g hg ho=>by
      have:=yE.out _ (ok.sub _ ho);grind[Hid.out]
     go_wp2_with fail;go_meet;refine⟨hp4.set sJ,sJ.set_ _ _,fun k' rF oN h=> ?_,?_,?_,by have:=Gv.size;grind[World.setCell]⟩
     .have h3:=HO.out k' rF h;exact(h3.chg Gv fun ho=>ok.bare _ _ _ _ _ _ yF ho h3).far oN _
     .refine ok.keep _ w4 _ hI4 fun k hk=> ?_;exact Yc9
     grind[AM.setCell,AM.trans]
    .have yC:(k==0)=false:=by simp[hk]
     have e1:N.v1 k n s'=n:=by simp[CM.v1,hk]
     have e2:N.s1 k n s'=s':=by simp[CM.s1,hk]
     have E1:=XH e1;have E2:=XH e2;clear e1 e2;go_wp2_with fail;go_meet;rw[E1.out,E2.out,Qwt C1.out];exact⟨Pp,oZ,fun k' rF _ h=>HO.out k' rF h,yF,Dp,hz3⟩
   case rest=>
    obtain⟨hp5,yS,ho5,hI5,Pr,_⟩:=hcut;clear Pp Cf oZ Dp yF a0 a1;obtain⟨Jz,Ps,Zr⟩:=Gi.raw;obtain⟨Av,cv,rfl,Gi⟩:=Gi.form
    have har:ar.length<=1073741824:=by
     grind[Ts.nodes,Ts.length_le,QV]
    have Xl:QV (push r b (o+4) Ls)<=1073741824:=by
     exact Yd1
    have a3:wc.cell? ⟨b,o+3,none⟩=some (.slice Av ar.length cv):=by
     rw[yS.cell,W9 Ya];exact C3.out
    go_wp2_with fail;refine(QoN (ok.raw Ps hi Pr) har).mono ?_;rintro e w6 ⟨v4,rfl,ho6,It⟩;obtain⟨A4,d4,rfl⟩:=TL ho6;obtain⟨hd4,g4,Zs,hg4⟩:=Qum ho6;have hz6:=It.size;have Gw:=yS.below It
    have a6:w6.cell? ⟨b,o+3,none⟩=some (.slice Av ar.length cv):=by
     rw[Gw.cell,W9 Ya];exact C3.out
    have f6:w6.frozen? ⟨b,o+3,none⟩=false:=Gw.frozen _;have hp6:DP w6 w.heap.size w1.heap.size Po Vt:=hp5.chg (AM.of_fresh (S:=fun _=>False) It) (fun h=>h) fun _ _ h=>h;have Vu:DP (w6.setCell ⟨b,o+3,none⟩ (.slice A4 ar.length d4)) w.heap.size w1.heap.size Po Vt:=hp6.set Gw;have Zt:=Gw.set_ (o+3) (.slice A4 ar.length d4);have hwz:=hrel.chg.size;have Zu:=XH hg4;clear hg4;go_wp2_with fail;refine(Qqi (b:=g4) (o:=0) Vu Zp (by grind[World.setCell]) Xl hd4 (fun h=>(Zu.out h).1)).mono ?_;rintro e _ ⟨rfl,_,_,hp8,Zv,Zw,Pt⟩
    have Ds:∀g,Po.ownBlock=some g->w.heap.size<=g:=fun g hg=>by grind[Hid.out]
    have hstep := Qv2.step (g := g4) (Jz := Jz) (v4 := .slice A4 ar.length d4) (Gu := Zs) hrel vZ C0.out C1.out C2.out C3.out Dn CYS.out hp8 Zv Zr
     (fun k' rF oN h=>Vu.keep Pt (((ho5 k' rF oN h).below It).far oN _)) (Vu.keep Pt Zt) ⟨A4,d4,rfl,hd4,fun h=>(Zu.out h).1⟩
     (fun h=>by
      grind[Hid.out,QR.lt,DP.keep,QR.far])
     (ok.keep _ wc _ hI5 fun k hk => by
      have:=yE.out k hk
      rw[Pt.block k (by grind[World.setCell]) (fun h=>by
                                     grind),JT _ _ _ _ Yg,It.block k Ya])
     (((Pr.trans (AM.of_fresh (S:=fun _=>False) It) fun _ _ h=>h.elim).setCell (fun h=>by grind) _).trans Pt fun k hk h=>by
       grind)
    clear Zw;go_wp2_with fail;go_roundg (QV (push ar g4 0 (push r b (o+4) Ls)))
    case measure=>
     exact YdN
    case rel=>exact⟨_,_,_,_,hstep,rfl⟩
theorem Ts.ren_congr{σ:Type}{N M:CM σ}(hv:∀s n,N.val s n=M.val s n)(hx:∀s n,N.nxt s n=M.nxt s n)(T:Ts):∀s,T.ren N s=T.ren M s:=by
 have h1:∀k n s,N.v1 k n s=M.v1 k n s:=fun k n s=>by simp[CM.v1,hv]
 have h2:∀k n s,N.s1 k n s=M.s1 k n s:=fun k n s=>by simp[CM.s1,hx]
 induction T with
 |nil=>intro s;rfl
 |cons k n b ar r rO qO=>grind[ren]
def Qq7(vb:Nat)(m:Int):CM Unit:=
 { fid:=177,cap:= #[.pointer (some ⟨vb,0,none⟩)],own:=fun _=>False,lean:=fun k=>k=vb,inv:=fun _ w=>QR w vb 3 #[.int .i64 m],val:=fun _ n=>low n+m,nxt:=fun _ _=>() }
def RQ(fb nb:Nat)(m:Int):CM Unit:=
 { fid:=163,cap:= #[.pointer (some ⟨fb,0,none⟩),.pointer (some ⟨nb,0,none⟩)],own:=fun _=>False,lean:=fun k=>k=fb\/k=nb,
   inv:=fun _ w=>QR w fb 106 #[.func (.func 161) #[] #[]]/\QR w nb 3 #[.int .i64 m],val:=fun _ n=>low n+low m,nxt:=fun _ _=>() }
theorem Qmo(fb nb:Nat)(m:Int):(RQ fb nb m).Ok where
 keep:=fun _ w w' h hk=>⟨(hk fb (.inl rfl)).trans h.1,(hk nb (.inr rfl)).trans h.2⟩
 lt:=fun _ w k h hk=>by
  have e:k=fb\/k=nb:=hk;rcases e with rfl|rfl
  .exact QR.lt h.1
  .exact QR.lt h.2
 sub:=fun _ h=>h.elim
 bare:=fun _ _ _ _ _ _ _ h=>h.elim
 enter:=fun args w=>by simp[RQ,go_sem]
 call:=fun _ n w h=>by
  refine(Qnz n m fb nb w h.1 h.2).mono ?_;rintro e w' ⟨rfl,q,rfl⟩;exact⟨rfl,⟨QR.drewN h.1 q,QR.drewN h.2 q⟩,(AM.of_fresh (Qbt _ w q))⟩
def NM(vb mb:Nat):CM (T7):=
 { fid:=145,cap:= #[.pointer (some ⟨vb,0,none⟩)],own:=fun k=>k=mb,lean:=fun k=>k=vb\/k=mb,
   inv:=fun ks w=>QR w vb 199 #[.map (some mb)]/\M6 w mb ks,val:=KG,nxt:=H8 }
theorem Qd0(vb mb:Nat):(NM vb mb).Ok where
 keep:=fun _ w w' h hk=>⟨(hk vb (.inl rfl)).trans h.1,DY.keep h.2 (hk mb (.inr rfl))⟩
 lt:=fun _ w k h hk=>by
  have e:k=vb\/k=mb:=hk;rcases e with rfl|rfl
  .exact QR.lt h.1
  .exact DY.lt h.2
 sub:=fun _ h=> .inr h
 bare:=fun ks w k c t f h ho e=>by
  have e1:k=mb:=ho;subst e1;obtain⟨_,_,hb,_⟩:=h.2;grind
 enter:=fun args w=>by simp[NM,go_sem]
 call:=fun ks n w h=>by
  refine(QtI n ks vb mb w h.1 h.2).mono ?_;rintro e w' ⟨rfl,h1,h2⟩;exact Yda
def N9(vb mb:Nat):CM (T7):={ NM vb mb with fid:=198 }
theorem RZ(vb mb:Nat):(N9 vb mb).Ok where
 keep:=(Qd0 vb mb).keep
 lt:=(Qd0 vb mb).lt
 sub:=(Qd0 vb mb).sub
 bare:=(Qd0 vb mb).bare
 enter:=fun args w=>by simp[N9,NM,go_sem]
 call:=fun ks n w h=>by
  refine(Qpk n ks vb mb w h.1 h.2).mono ?_;rintro e _ ⟨rfl,h1,h2⟩;exact Yda
def Ts.tidyFrom(T:Ts)(ks:T7):Ts×T7:=T.ren (NM 0 0) ks
def Ts.tidy(T:Ts):Ts:=(T.tidyFrom []).1
theorem QwD(vb mb:Nat)(T:Ts)(ks:T7):T.ren (NM vb mb) ks=T.tidyFrom ks:=Ts.ren_congr (N:=NM vb mb) (M:=NM 0 0) (fun _ _=>rfl) (fun _ _=>rfl) T ks
theorem Qst(vb mb:Nat)(T:Ts)(ks:T7):T.ren (N9 vb mb) ks=T.tidyFrom ks:=Ts.ren_congr (N:=N9 vb mb) (M:=NM 0 0) (fun _ _=>rfl) (fun _ _=>rfl) T ks
def Ts.shift(T:Ts)(m:Int):Ts:=(T.ren (Qq7 0 (low m)) ()).1
theorem QpA(fb nb:Nat)(T:Ts)(m:Int):(T.ren (RQ fb nb m) ()).1=T.shift m:=by unfold Ts.shift;rw[Ts.ren_congr (N:=RQ fb nb m) (M:=Qq7 0 (low m)) (fun _ _=>rfl) (fun _ _=>rfl)]
def FN(k n m:Int):Int:=if k=0 then low n+low m else n
theorem Ts.shift_cons(k n m:Int)(b:TJ)(ar r:Ts):(Ts.cons k n b ar r).shift m= .cons k (FN k n m) b (ar.shift m) (r.shift m):=rfl
theorem Qwm(T:Ts)(v:TH)(w:TG)(hv:Sl w (fun _=>True) v T)(hn:T.nodes<=1073741824):
  Calls prog 92 #[v] w fun e w'=>∃v',e= .returned v'/\Sl w' (fun k=>w.heap.size<=k) v' T.tidy/\Below w.heap.size w w':=by
 have hi:(NM (w.heap.size+1) w.heap.size).inv [] ((w.alloc (.map #[] 0)).alloc (.cells #[.map (some w.heap.size)] 199)):=by
  refine⟨?_,?_⟩
  .grind[World.alloc,QR.new]
  .exact(DY.made w).keep (JF _ _ _ Yd)
 have hW:Below w.heap.size w ((w.alloc (.map #[] 0)).alloc (.cells #[.map (some w.heap.size)] 199)):=((XR _ _).alloc (XF _) _).alloc Yd _;have pW:=hv.below hW;have hmk:=Qjv (P:=prog) 199;go_enter func92,ntmps92;go_wp2_with fail;refine(Qss (Qd0 (w.heap.size+1) w.heap.size) T v [] _ pW hi hn).mono ?_;rintro e w' ⟨v',rfl,h1,_,h3⟩;rw[QwD]at h1;go_wp2_with fail;go_ret;refine⟨_,rfl,h1.imp (fun k hk _=>by simp at hk;omega),hW.trans (h3.below Yg fun k hk _=> ?_)⟩;have e:k=w.heap.size:=hk;omega
theorem Ts.tidyFrom_app(D R:Ts)(ks:T7):(D.app R).tidyFrom ks=((D.tidyFrom ks).1.app (R.tidyFrom (D.tidyFrom ks).2).1,(R.tidyFrom (D.tidyFrom ks).2).2):=Ts.ren_app _ D R ks
def tV(k n:Int)(ks:T7):Int:=if k=0 then KG ks n else n
def tS(k n:Int)(ks:T7):T7:=if k=0 then H8 ks n else ks
theorem Ts.tidyFrom_cons(k n:Int)(s:TJ)(ar r:Ts)(ks:T7):(Ts.cons k n s ar r).tidyFrom ks=(.cons k (tV k n ks) s (ar.tidyFrom (tS k n ks)).1 (r.tidyFrom (ar.tidyFrom (tS k n ks)).2).1,(r.tidyFrom (ar.tidyFrom (tS k n ks)).2).2):=rfl
structure ZG(w:TG)(T D R:Ts)(u:TH)(xs:T5)(wr:TG):Prop where
 split:T=D.app R
 own:wr.ownsRow (w.heap.size+2) 63 4 u D.length xs
 cs:Cs wr (fun k=>w.heap.size+2<=k/\u.ownBlock≠some k) (D.tidyFrom []).1 xs
 inv:(N9 (w.heap.size+1) w.heap.size).inv (D.tidyFrom []).2 wr
 chg:Below w.heap.size w wr
 size:w.heap.size+2<=wr.heap.size
def Qx1(w:TG)(T:Ts)(g:Nat)(s4 s10:TH)(wr:TG):Prop:=∃D R xs,ZG w T D R s4 xs wr/\g=R.length/\s10= .int .i64 D.length
theorem ZG.step{w wr W w3:TG}{T D r ar:Ts}{k n:Int}{s:TJ}{u v3 v:TH}{xs:T5}
  (h:ZG w T D (.cons k n s ar r) u xs wr) (hC:AM (fun k=>k=w.heap.size) wr W)
  (hv:Sl W (fun k=>wr.heap.size<=k) v (ar.tidyFrom (tS k n (D.tidyFrom []).2)).1) (hI:(N9 (w.heap.size+1) w.heap.size).inv (ar.tidyFrom (tS k n (D.tidyFrom []).2)).2 W)
  (Ki:w3.ownsRow (w.heap.size+2) 63 4 v3 (D.length+1) (xs++[.int .i64 k,.int .i64 (tV k n (D.tidyFrom []).2),.string s,v]))
  (hg:W.grownBy w3 u.ownBlock) (AD:v3.ownBlock=u.ownBlock\/v3.ownBlock=some W.heap.size):
  ZG w T (D.app (.cons k n s ar .nil)) r v3 (xs++[.int .i64 k,.int .i64 (tV k n (D.tidyFrom []).2),.string s,v]) w3:=by
 have pU:=h.own.lt;have hz:=h.size;have hWs:=hC.size
 have e:(D.app (.cons k n s ar .nil)).tidyFrom []=((D.tidyFrom []).1.app (.cons k (tV k n (D.tidyFrom []).2) s (ar.tidyFrom (tS k n (D.tidyFrom []).2)).1 .nil),(ar.tidyFrom (tS k n (D.tidyFrom []).2)).2):=by
  rw[Ts.tidyFrom_app];rfl
 have hu:∀k,u.ownBlock=some k->w.heap.size+2<=k/\k<wr.heap.size:=fun k hk=>pU k hk;refine⟨by rw[h.split,Ts.app_assoc];rfl,by rw[Ts.length_app];exact Ki,?_,?_,?_,by have:=hg.size;omega⟩
 .rw [e]
  have h1:Cs W (fun k=>(w.heap.size+2<=k/\v3.ownBlock≠some k)/\u.ownBlock≠some k) ((D.tidyFrom []).1.app (.cons k (tV k n (D.tidyFrom []).2) s (ar.tidyFrom (tS k n (D.tidyFrom []).2)).1 .nil)) (xs++[.int .i64 k,.int .i64 (tV k n (D.tidyFrom []).2),.string s,v]):=by
   refine Cs.app ?_ ⟨v,[],rfl,?_,rfl⟩
   .refine(h.cs.imp (q:=fun k=>(w.heap.size+2<=k/\v3.ownBlock≠some k)/\u.ownBlock≠some k) fun k hk hl=>⟨⟨hk.1,?_⟩,hk.2⟩).keep fun k hk hl=>hC.block k hl Ya;grind
   grind[Sl.imp]
  exact(h1.keep (w':=w3) fun k hk hl=>hg.block k hl (fun e=>hk.2 e.symm)).imp fun k hk _=>hk.1
 .rw[e];refine(RZ _ _).keep _ W _ hI fun k hk=> ?_;have h1:=(RZ _ _).lt _ _ _ hI hk;refine hg.block k h1 (fun e=> ?_);have:=hu _ e.symm;have e2:k=w.heap.size+1\/k=w.heap.size:=hk;omega
 .refine(h.chg.trans (hC.below Ya fun k hk _=>by omega)).grown hg Ya fun k hk=>by grind
theorem Qr6(T:Ts)(v:TH)(w:TG)(hv:Sl w (fun _=>True) v T)(hn:T.nodes<=1048576):
  Calls prog 159 #[v] w fun e w'=>∃v',e= .returned v'/\Sl w' (fun k=>w.heap.size<=k) v' T.tidy/\Below w.heap.size w w':=by
 obtain⟨A,c,rfl,hs⟩:=hv.form;have oW:=T.length_le;obtain⟨i0,uZ,vB,sY,vX⟩:=TS QgS;have hmk:=Qjv (P:=prog) 199;have hW:Below w.heap.size w ((w.alloc (.map #[] 0)).alloc (.cells #[.map (some w.heap.size)] 199)):=((XR _ _).alloc (XF _) _).alloc Yd _
 have h0:Qx1 w T T.length (.slice none 0 0) (.int .i64 0) ((w.alloc (.map #[] 0)).alloc (.cells #[.map (some w.heap.size)] 199)):=by
  refine⟨.nil,T,[],⟨rfl,XaI _ _ _ _,rfl,⟨?_,?_⟩,hW,by simp⟩,rfl,rfl⟩
  .grind[World.alloc,QR.new]
  .exact(DY.made w).keep (JF _ _ _ Yd)
 go_enter func159,ntmps159;go_wp2_with fail;go_loopg [4,10] T.length (Qx1 w T)
 case atStart=>exact h0
 case round=>
  clear h0;obtain⟨D,R,xs,hrel,hg,rfl⟩:=hrel;have HG:=XH hg;clear hg;obtain⟨Au,cu,hu⟩:=TL hrel.own;subst hu
  cases R with
  |nil=>
   have e1:D.length=T.length:=by rw[hrel.split,Ts.app_nil]
   have eD:D=T:=by rw[hrel.split,Ts.app_nil]
   subst eD
   have pW:Sl wr (fun k=>w.heap.size<=k) (.slice Au D.length cu) D.tidy:=by
    have h1:=hrel.own;have e:(D.tidyFrom []).1.length=D.length:=Ts.length_ren _ D [];rw[<-e]at h1;have h2:=Sl.own h1 (hrel.cs.imp fun k hk _=>hk.1) fun g hg=>(h1.lt g hg).1;rw[e]at h2;exact h2.imp fun k hk _=>by omega
   have hb:=hrel.chg;clear hrel;go_wp2_with fail;go_ret;simp_all
  |cons k n s ar r=>
   have hI:=hrel.inv
   have e1:D.length<T.length:=by rw[hrel.split,Ts.length_app];simp[Ts.length]
   have e2:ar.nodes<=1048576:=by
    have h:=hrel.split;rw[h,Ts.nodes_app]at hn;simp[Ts.nodes]at hn;omega
   have pW:Sl wr (fun k=>k<w.heap.size) (.slice A T.length c) (D.app (.cons k n s ar r)):=by
    rw[<-hrel.split];exact(hs.imp (q:=fun k=>k<w.heap.size) fun k _ h=>h).below hrel.chg
   obtain⟨_,_,rfl,rE⟩:=Sl.at_ pW YS;obtain⟨_,_,_,_,⟨v1,_,oJ⟩,_⟩:=Q6.1 rE;obtain⟨A1,d1,rfl,oJ⟩:=oJ.form;have hz:=hrel.size
   have Gt:(N9 (w.heap.size+1) w.heap.size).inv (D.tidyFrom []).2 (wr.alloc (.cells #[.int .i64 k,.int .i64 n,.string s,.slice A1 ar.length d1] 63)):=
    (RZ _ _).keep _ wr _ hI fun k hk=>JF _ _ _ ((RZ _ _).lt _ _ _ hI hk)
   clear rE pW;go_wp2_with fail;refine(QqW (RZ (w.heap.size+1) w.heap.size) ar k n s _ _ _ (oJ.any.below ((XR _ _).alloc (XF _) _)) Gt e2).mono ?_;rintro e w2 ⟨v',rfl,rW,Iq,sX⟩;rw[show(N9 (w.heap.size+1) w.heap.size).v1 k n (D.tidyFrom []).2=tV k n (D.tidyFrom []).2 from rfl];rw[Qst,show(N9 (w.heap.size+1) w.heap.size).s1 k n (D.tidyFrom []).2=tS k n (D.tidyFrom []).2 from rfl]at rW Iq;obtain⟨Aw,cw,rfl,rW⟩:=rW.form
   have hzz:wr.heap.size<w2.heap.size:=by have:=sX.size;exact ZX
   have Pj:AM (fun k=>k=w.heap.size) wr (w2.alloc (.cells #[.int .i64 k,.int .i64 (tV k n (D.tidyFrom []).2),.string s,.slice Aw (ar.tidyFrom (tS k n (D.tidyFrom []).2)).1.length cw] 63)):=(((AM.refl _ wr).alloc _).trans sX fun _ _ h=>h).alloc _;have yF:(N9 (w.heap.size+1) w.heap.size).inv (ar.tidyFrom (tS k n (D.tidyFrom []).2)).2 (w2.alloc (.cells #[.int .i64 k,.int .i64 (tV k n (D.tidyFrom []).2),.string s,.slice Aw (ar.tidyFrom (tS k n (D.tidyFrom []).2)).1.length cw] 63)):=(RZ _ _).keep _ w2 _ Iq fun k hk=>JF _ _ _ ((RZ _ _).lt _ _ _ Iq hk)
   have qZ:Sl (w2.alloc (.cells #[.int .i64 k,.int .i64 (tV k n (D.tidyFrom []).2),.string s,.slice Aw (ar.tidyFrom (tS k n (D.tidyFrom []).2)).1.length cw] 63)) (fun k=>wr.heap.size<=k) (.slice Aw (ar.tidyFrom (tS k n (D.tidyFrom []).2)).1.length cw) (ar.tidyFrom (tS k n (D.tidyFrom []).2)).1:=
    (rW.below ((XR _ _).alloc (XF _) _)).imp fun k hk _=>by simp at hk;omega
   have Ki:=QpG hrel.own Pj fun g hg=>by have:=(hrel.own.lt g hg).1;omega
   go_wp2_with (at_builtin;refine QbI _ rfl (.tmp 14) (.tmp 18) _ rfl (w.heap.size+2) 63 i0 _ 4 56 underlying23 uZ vB sY vX rfl Ya (.slice Au D.length cu) D.length xs rfl Ki ⟨w2.heap.size,0,none⟩ 1 1 [.int .i64 k,.int .i64 (tV k n (D.tidyFrom []).2),.string s,.slice Aw (ar.tidyFrom (tS k n (D.tidyFrom []).2)).1.length cw] rfl rfl (QmQ w2 _ _) (by simp[Value.oneCell']) Yk Ya Yg ?next)
   case next=>
    intro v3 _ Cb hg AD;have xI:v3.ownBlock=(Value.slice Au D.length cu).ownBlock\/v3.ownBlock=some (w2.alloc (.cells #[.int .i64 k,.int .i64 (tV k n (D.tidyFrom []).2),.string s,.slice Aw (ar.tidyFrom (tS k n (D.tidyFrom []).2)).1.length cw] 63)).heap.size:=by simpa using AD
    have hstep:=ZG.step hrel Pj qZ yF Cb hg xI;clear AD xI Cb;go_wp2_with fail;go_roundg r.length
    case measure=>rw[HG.out];simp[Ts.length]
    case rel=>
     refine⟨_,_,_,hstep,rfl,?_⟩;exact KS
structure Tm where
 k:Int
 n:Int
 s:TJ
 ar:Ts
section
variable{P:Program}{n:Nat}{e:AW}{w:TG}{ty:TypeId}{pos:String}{after:TE}{x y:Operand}{dst:TD}{t:TypeId}
theorem Qla{t2:TypeId}{a c:TJ}(hx:ev n e x= .string a)(hy:ev n e y= .string c)(h:a=c):(execOp (ev n e) ⟨dst,.binOp .eql t x y t2,ty,pos,after,none⟩).run P w= .ok (.value (.bool true)) w:=by
 have:(execOp (ev n e) ⟨dst,.binOp .eql t x y t2,ty,pos,after,none⟩).run P w= .ok (.value (.bool (a.toList==c.toList))) w:=by simp only[execOp,hx,hy];rfl
 rw[this,h];simp
theorem Qlb{t2:TypeId}{a c:TJ}(hx:ev n e x= .string a)(hy:ev n e y= .string c)(h:a≠c):(execOp (ev n e) ⟨dst,.binOp .eql t x y t2,ty,pos,after,none⟩).run P w= .ok (.value (.bool false)) w:=by
 have:(execOp (ev n e) ⟨dst,.binOp .eql t x y t2,ty,pos,after,none⟩).run P w= .ok (.value (.bool (a.toList==c.toList))) w:=by simp only[execOp,hx,hy];rfl
 have h2:(a.toList==c.toList)=false:=by
  rw[Xa4];exact fun e=>h (TZ.1 e)
 rw[this,h2]
theorem Qk7{t2:TypeId}{a c:TJ}(hx:ev n e x= .string a)(hy:ev n e y= .string c)(h:a=c):(execOp (ev n e) ⟨dst,.binOp .neq t x y t2,ty,pos,after,none⟩).run P w= .ok (.value (.bool false)) w:=by
 have:(execOp (ev n e) ⟨dst,.binOp .neq t x y t2,ty,pos,after,none⟩).run P w= .ok (.value (.bool (!(a.toList==c.toList)))) w:=by simp only[execOp,hx,hy];rfl
 rw[this,h];simp
theorem Qk6{t2:TypeId}{a c:TJ}(hx:ev n e x= .string a)(hy:ev n e y= .string c)(h:a≠c):(execOp (ev n e) ⟨dst,.binOp .neq t x y t2,ty,pos,after,none⟩).run P w= .ok (.value (.bool true)) w:=by
 have:(execOp (ev n e) ⟨dst,.binOp .neq t x y t2,ty,pos,after,none⟩).run P w= .ok (.value (.bool (!(a.toList==c.toList)))) w:=by simp only[execOp,hx,hy];rfl
 have h2:(a.toList==c.toList)=false:=by
  rw[Xa4];exact fun e=>h (TZ.1 e)
 rw[this,h2];rfl
end
inductive TA where
 |nil
 |cons (k n:Int) (s:TJ) (A:T4) (c:Nat) (ar r:TA)
def TA.ts:TA->Ts
 | .nil=> .nil
 | .cons k n s _ _ ar r=> .cons k n s ar.ts r.ts
def TA.len:TA->Nat
 | .nil=>0
 | .cons _ _ _ _ _ _ r=>r.len+1
def TA.app:TA->TA->TA
 | .nil,y=>y
 | .cons k n s A c ar r,y=> .cons k n s A c ar (r.app y)
theorem TA.len_ts(T:TA):T.ts.length=T.len:=by
 induction T with
 |nil=>rfl
 |cons k n s A c ar r _ ih=>simp only[TA.ts,Ts.length,TA.len,ih]
theorem TA.app_ts(T U:TA):(T.app U).ts=T.ts.app U.ts:=by
 induction T with
 |nil=>rfl
 |cons k n s A c ar r _ ih=>simp only[TA.app,TA.ts,Ts.app,ih]
theorem TA.len_app(T U:TA):(T.app U).len=T.len+U.len:=by
 induction T with
 |nil=>simp[TA.app,TA.len]
 |cons k n s A c ar r _ ih=>simp only[TA.app,TA.len,ih];omega
theorem TA.app_nil(T:TA):T.app .nil=T:=by
 induction T with
 |nil=>rfl
 |cons k n s A c ar r _ ih=>simp only[TA.app,ih]
theorem TA.app_assoc(a b c:TA):(a.app b).app c=a.app (b.app c):=by
 induction a with
 |nil=>rfl
 |cons k n s A c ar r _ ih=>simp only[TA.app,ih]
structure LT where
 k:Int
 n:Int
 s:TJ
 A:T4
 c:Nat
 ar:TA
def LT.tm(t:LT):Tm:=⟨t.k,t.n,t.s,t.ar.ts⟩
abbrev AN(t:LT):T5:=[.int .i64 t.k,.int .i64 t.n,.string t.s,.slice t.A t.ar.len t.c]
abbrev tv(t:LT):TH:= .agg #[.int .i64 t.k,.int .i64 t.n,.string t.s,.slice t.A t.ar.len t.c]
def KQ(w:TG):TA->Nat->Nat->Prop
 | .nil,_,_=>True
 | .cons k n s A c ar r,b,o=>w.cell? ⟨b,o,none⟩=some (.int .i64 k)/\w.cell? ⟨b,o+1,none⟩=some (.int .i64 n)/\w.cell? ⟨b,o+2,none⟩=some (.string s)/\
   w.cell? ⟨b,o+3,none⟩=some (.slice A ar.len c)/\(ar.len<=c/\(0<ar.len->∃b' o',A=some ⟨b',o',none⟩/\KQ w ar b' o'))/\KQ w r b (o+4)
def AV(A:T4)(c:Nat)(T:TA)(w:TG):Prop:=T.len<=c/\(0<T.len->∃b o,A=some ⟨b,o,none⟩/\KQ w T b o)
def BW(t:LT)(w:TG):Prop:=AV t.A t.c t.ar w
theorem QgE{w:TG}{k n:Int}{s:TJ}{A:T4}{c:Nat}{ar r:TA}{b o:Nat}:KQ w (.cons k n s A c ar r) b o↔w.cell? ⟨b,o,none⟩=some (.int .i64 k)/\w.cell? ⟨b,o+1,none⟩=some (.int .i64 n)/\w.cell? ⟨b,o+2,none⟩=some (.string s)/\
   w.cell? ⟨b,o+3,none⟩=some (.slice A ar.len c)/\AV A c ar w/\KQ w r b (o+4):=Iff.rfl
theorem KQ.skip{w:TG}{R:TA}{b:Nat}:∀{D:TA} {o:Nat},KQ w (D.app R) b o->KQ w R b (o+D.len*4):=by
 intro D
 induction D with
 |nil=>intro o h;simpa[TA.len,TA.app]using h
 |cons k n s A c ar r _ ih=>
  intro o h;have:=ih (QgE.1 h).2.2.2.2.2;rw[show(TA.cons k n s A c ar r).len=r.len+1 from rfl,show o+(r.len+1)*4=o+4+r.len*4 by omega];exact BS
theorem AV.at_{w:TG}{A:T4}{c:Nat}{D r:TA}{k n:Int}{s:TJ}{A':T4}{c':Nat}{ar:TA}(h:AV A c (D.app (.cons k n s A' c' ar r)) w):
  ∃b o,A=some ⟨b,o,none⟩/\w.cell? ⟨b,o+D.len*4,none⟩=some (.int .i64 k)/\w.cell? ⟨b,o+D.len*4+1,none⟩=some (.int .i64 n)/\w.cell? ⟨b,o+D.len*4+2,none⟩=some (.string s)/\
   w.cell? ⟨b,o+D.len*4+3,none⟩=some (.slice A' ar.len c')/\BW ⟨k,n,s,A',c',ar⟩ w:=by
 obtain⟨_,hs⟩:=h;obtain⟨b,o,rfl,vV⟩:=hs YI;obtain⟨h0,h1,h2,h3,h4,_⟩:=QgE.1 vV.skip;exact⟨b,o,rfl,h0,h1,h2,h3,h4⟩
theorem AV.some_{w:TG}{A:T4}{c:Nat}{T:TA}(h:AV A c T w)(hl:0<T.len):∃b o,A=some ⟨b,o,none⟩:=by
 obtain⟨b,o,e,_⟩:=h.2 hl;exact⟨b,o,e⟩
theorem AV.cells{w:TG}{b o:Nat}{c:Nat}{D r:TA}{k n:Int}{s:TJ}{A':T4}{c':Nat}{ar:TA}(h:AV (some ⟨b,o,none⟩) c (D.app (.cons k n s A' c' ar r)) w):
  w.cell? ⟨b,o+D.len*4,none⟩=some (.int .i64 k)/\w.cell? ⟨b,o+D.len*4+1,none⟩=some (.int .i64 n)/\w.cell? ⟨b,o+D.len*4+2,none⟩=some (.string s)/\w.cell? ⟨b,o+D.len*4+3,none⟩=some (.slice A' ar.len c'):=by
 obtain⟨_,_,e,h0,h1,h2,h3,_⟩:=h.at_;simp only[XU,Xay,VX]at e;obtain⟨rfl,rfl⟩:=e;exact⟨h0,h1,h2,h3⟩
theorem AV.sub{w:TG}{A:T4}{c:Nat}{D r:TA}{k n:Int}{s:TJ}{A':T4}{c':Nat}{ar:TA}(h:AV A c (D.app (.cons k n s A' c' ar r)) w):BW ⟨k,n,s,A',c',ar⟩ w:=by
 obtain⟨_,_,_,_,_,_,_,h⟩:=h.at_;exact h
theorem KQ.seg{w:TG}{T:TA}:∀{b o:Nat},KQ w T b o->CY w (fun _=>True) T.ts b o:=by
 induction T with
 |nil=>intros;trivial
 |cons k n s A c ar r rO qO=>
  rintro b o ⟨h0,h1,h2,h3,⟨h4,h5⟩,h6⟩;refine⟨trivial,h0,h1,h2,⟨A,c,by rw[TA.len_ts];exact h3,by rw[TA.len_ts];exact h4,fun hl=> ?_⟩,qO h6⟩;rw[TA.len_ts]at hl;obtain⟨b',o',e,hs⟩:=h5 hl;exact⟨b',o',e,rO hs⟩
theorem AV.sl{w:TG}{A:T4}{c:Nat}{T:TA}(h:AV A c T w):Sl w (fun _=>True) (.slice A T.len c) T.ts:=
 ⟨A,c,by rw[TA.len_ts],by rw[TA.len_ts];exact h.1,fun hl=>by
  rw[TA.len_ts]at hl;obtain⟨b,o,e,hs⟩:=h.2 hl
  exact⟨b,o,e,hs.seg⟩⟩
theorem CY.locate{w:TG}{p:Nat->Prop}{T:Ts}:∀{b o:Nat},CY w p T b o->∃L:TA,L.ts=T/\∀w':TG,(∀k,p k->k<w.heap.size->w'.heap[k]?=w.heap[k]?)->KQ w' L b o:=by
 induction T with
 |nil=>intro b o _;exact⟨.nil,rfl,fun _ _=>trivial⟩
 |cons k n s ar r rO qO=>
  rintro b o ⟨h1,h2,h3,h4,⟨A,c,h5,h6,h7⟩,h8⟩;obtain⟨R,hR,hR'⟩:=qO h8
  have key:∃L:TA,L.ts=ar/\∀w':TG,(∀k,p k->k<w.heap.size->w'.heap[k]?=w.heap[k]?)->L.len<=c/\(0<L.len->∃b' o',A=some ⟨b',o',none⟩/\KQ w' L b' o'):=by
   by_cases hl:0<ar.length
   .obtain⟨b',o',e,h9⟩:=h7 hl;obtain⟨L,hL,Pu⟩:=rO h9;exact⟨L,hL,fun w' hw=>⟨by rw[<-TA.len_ts,hL];exact h6,fun _=>⟨b',o',e,Pu w' hw⟩⟩⟩
   .refine⟨.nil,(Ts.nil_of_length Ya).symm,fun w' hw=>⟨by simp[TA.len],fun h=>by simp[TA.len]at h⟩⟩
  obtain⟨L,hL,Pu⟩:=key;have e1:L.len=ar.length:=by rw[<-TA.len_ts,hL]
  refine⟨.cons k n s A c L R,by simp only[TA.ts,hL,hR],fun w' hw=> ?_⟩;have e:=hw b h1 (P5 h2);refine⟨?_,?_,?_,?_,Pu w' hw,hR' w' hw⟩
  .exact YdM
  .exact YdF
  .exact YdG
  .rw[JP (w:=w) (w':=w') (a:=⟨b,o+3,none⟩) e,e1];exact h5
theorem Sl.locate{w:TG}{p:Nat->Prop}{T:Ts}{v:TH}(h:Sl w p v T):∃(A:T4) (c:Nat) (L:TA),v= .slice A L.len c/\L.ts=T/\∀w':TG,(∀k,p k->k<w.heap.size->w'.heap[k]?=w.heap[k]?)->AV A c L w':=by
 obtain⟨A,c,rfl,h6,h7⟩:=h;by_cases hl:0<T.length
 .obtain⟨b',o',e,h9⟩:=h7 hl;obtain⟨L,hL,Pu⟩:=h9.locate;have e1:L.len=T.length:=by rw[<-TA.len_ts,hL]
  exact⟨A,c,L,by rw[e1],hL,fun w' hw=>⟨by rw[e1];exact h6,fun _=>⟨b',o',e,Pu w' hw⟩⟩⟩
 .have e0:T.length=0:=by omega
  exact⟨A,c,.nil,by rw[e0];rfl,(Ts.nil_of_length e0).symm,fun w' hw=>⟨by simp[TA.len],fun h=>by simp[TA.len]at h⟩⟩
section
variable{M:T6}{w0 w w':TG}{H:T0}{F:T3}{v:TH}{T:Ts}
theorem St.located(hS:St M w0 H F w)(hb:Below w.heap.size w w')(h:Sl w' (fun b=>w.heap.size<=b) v T):∃(A:T4) (c:Nat) (L:TA),v= .slice A L.len c/\L.ts=T/\St M w0 H (AV A c L::F) w':=by
 obtain⟨A,c,L,h1,h2,h3⟩:=h.locate;refine⟨A,c,L,h1,h2,(hS.grow hb).learn fun w2 hx=>h3 w2 fun k hk hl=>hx.block k hl fun hm=> ?_⟩;have:=hS.keys_lt hm;omega
end
section
variable{M:T6}{w0 w w':TG}{H:T0}{F:T3}{b:Nat}{o:Obj}
theorem St.freeze(hS:St M w0 ((b,o)::H) F w):St M w0 H ((fun w=>w.heap[b]?=some o)::F) w:=by
 have hb:=hS.own (b,o) (.head _);have pU:=IW hb;have Az:=(VT.1 hS.apart).1;refine hS.drop.learn fun w2 hx=> ?_;rw[hx.block b pU fun hm=> ?_]
 .exact hb
 .obtain⟨q,hq,e⟩:=X3.1 hm;exact Az q hq e.symm
theorem St.freezeL:∀{O:T0} {F:T3},St M w0 (O++H) F w->∃F',(∀φ∈F,φ∈F')/\(∀p∈O,AB F' fun w=>w.heap[p.1]?=some p.2)/\St M w0 H F' w
 |[],F,hS=>⟨F,fun _ h=>h,fun p hp=>(by cases hp),hS⟩
 |p::O,F,hS=>by
  obtain⟨F',h1,h2,h3⟩:=St.freezeL (O:=O) (F:=(fun w=>w.heap[p.1]?=some p.2)::F) (St.freeze (H:=O++H) hS);refine⟨F',fun φ h=>h1 φ (.tail _ h),fun q hq=> ?_,h3⟩;rcases XV.1 hq with rfl|hq
  .exact AB.head.mono (F:=(fun w=>w.heap[q.1]?=some q.2)::F) h1
  .exact h2 q hq
end
section
variable{M:T6}{w0 w w':TG}{H:T0}{F:T3}{g:Nat}{o:Obj}
theorem St.dropN{O:T0}(hS:St M w0 (O++H) F w):St M w0 H F w:=St.dropL hS
end
theorem QiH:∀(X ys vs Z:T5) (o:Nat),X.length=o->ys.length=vs.length->NO (X++(ys++Z)) o vs (X++(vs++Z))
 |[],ys,vs,Z,o,h,hl=>by
  obtain rfl:o=0:=by simpa using h.symm
  induction ys generalizing vs with
  |nil=>
   obtain rfl:vs=[]:=VL (by simpa using hl.symm);exact .z
  |cons y ys ih=>
   cases vs with
   |nil=>simp at hl
   |cons v vs=>exact .t (ih vs U5)
 |x::X,ys,vs,Z,o,h,hl=>by
  obtain⟨o,rfl⟩:∃o',o=o'+1:=⟨o-1,by simp at h;omega⟩
  exact .s (QiH X ys vs Z o YY hl)
def EU:TA->T5
 | .nil=>[]
 | .cons k n s A c ar r=>[.int .i64 k,.int .i64 n,.string s,.slice A ar.len c]++EU r
theorem QqG(T:TA):(EU T).length=T.len*4:=by
 induction T with
 |nil=>rfl
 |cons k n s A c ar r _ ih=>simp[EU,TA.len,ih];omega
theorem Qiz(T U:TA):EU (T.app U)=EU T++EU U:=by
 induction T with
 |nil=>rfl
 |cons k n s A c ar r _ ih=>simp[EU,TA.app,ih]
def IQ:TA->TG->Prop
 | .nil,_=>True
 | .cons k n s A c ar r,w=>AV A c ar w/\IQ r w
theorem IQ.app{w:TG}{U:TA}(hU:IQ U w):∀{T:TA},IQ T w->IQ (T.app U) w:=by
 intro T
 induction T with
 |nil=>intro _;exact hU
 |cons k n s A c ar r _ ih=>intro h;exact⟨h.1,ih h.2⟩
theorem Qpr{w:TG}{b:Nat}:∀{T:TA} {o:Nat},IQ T w->(∀j u,(EU T)[j]?=some u->w.cell? ⟨b,o+j,none⟩=some u)->KQ w T b o:=by
 intro T
 induction T with
 |nil=>intros;trivial
 |cons k n s A c ar r _ ih=>
  intro o hr h;refine QgE.2 ⟨h 0 _ rfl,h 1 _ rfl,h 2 _ rfl,h 3 _ rfl,hr.1,ih hr.2 fun j u hu=> ?_⟩;rw[show o+4+j=o+(j+4) by omega];exact h (j+4) u (by simpa[EU]using hu)
theorem KQ.cells{w:TG}{b:Nat}:∀{T:TA} {o:Nat},KQ w T b o->IQ T w/\∀j u,(EU T)[j]?=some u->w.cell? ⟨b,o+j,none⟩=some u:=by
 intro T
 induction T with
 |nil=>intro o _;exact⟨trivial,fun j u hu=>by simp[EU]at hu⟩
 |cons k n s A c ar r _ ih=>
  intro o h;obtain⟨h0,h1,h2,h3,h4,h5⟩:=QgE.1 h;obtain⟨g1,g2⟩:=ih h5;refine⟨⟨h4,g1⟩,fun j u hu=> ?_⟩
  match j,hu with
  |0,hu=>simp[EU]at hu;subst hu;simpa using h0
  |1,hu=>simp[EU]at hu;subst hu;exact h1
  |2,hu=>simp[EU]at hu;subst hu;exact h2
  |3,hu=>simp[EU]at hu;subst hu;exact h3
  |j+4,hu=>rw[show o+(j+4)=o+4+j by omega];exact g2 j u (by simpa[EU]using hu)
theorem QhG{P:Program}{n:Nat}{e:AW}{w:TG}{M:T6}{w0:TG}{H:T0}{F:T3}{b:Nat}{t:TypeId}{f:FuncId}{R:Ending->TG->Prop}{k:List Item}{fn:Func}{a u x sz:Nat}{o:Nat}{cs vs:T5}{ct:TypeId}{v2 v3:TH}(hS:St M w0 H F w)(hf:P.funcs[f]?=some fn)(hr:fn.results= #[.cell a t,.tmp u,.tmp x])(hv:ev n e (.tmp a)= .pointer (some ⟨b,o,none⟩))
  (h2:ev n e (.tmp u)=v2) (h3:ev n e (.tmp x)=v3) (hA:KJ P t=some true) (hs:EW P t=some sz) (hb:At H b (.cells cs.toArray ct)) (hc:HK cs o sz vs) (hR:R (.returned (.tuple #[.agg vs.toArray,v2,v3])) w):AG P f R (.code .ret::k) (AF n e) w:=by
 unfold AG;intro fr _ wP hk;refine⟨.returned (.tuple #[.agg vs.toArray,v2,v3]),w,{ fr.at (AF n e) (.code .ret::k)with mode:= .returning },hR,W2 step_ret,wP,rfl,rfl,hk,fn,?_,?_⟩
 .exact Yb1
 .show(results fn (DG n e)).run P w=_;have h1:=SM (w:=w) hA;have h4:=KH (w:=w) hs
  have h5:=Xai (P:=P) (w:=w) ⟨b,o,none⟩ vs (fun j v hj=>by
   rw[G7,Qs (hS.at_ hb)]
   have Ca:j<sz:=by
    rcases XY j sz with h|h
    .exact h
    .rw[XX YaD]at hj;cases hj
   rw[hc.get j Ca];exact hj)
  rw[hc.length]at h5
  have rW:(DG n e).getD a undef= .pointer (some ⟨b,o,none⟩):=by rw[I3];exact hv
  have zT:(DG n e).getD u undef=v2:=by rw[I3];exact h2
  have wN:(DG n e).getD x undef=v3:=by rw[I3];exact h3
  simp only[ZA]at rW zT wN;simp only[results,hr];simp[rW,zT,wN,asAddr,loadVar,h1,h4,h5]
def Tm.shift(t:Tm)(m:Int):Tm:=⟨t.k,FN t.k t.n m,t.s,t.ar.shift m⟩
abbrev AC:=List (Int×Tm)
def BR(v:Int):AC->Option Tm
 |[]=>none
 |x::r=>if v=x.1 then some x.2 else BR v r
def KU(B:AC):Nat->Tm->Tm
 |0,t=>t
 |f+1,t=>if t.k=0 then match BR t.n B with|none=>t|some u=>KU B f u else t
def Qc(B:AC)(t:Tm):Tm:=KU B B.length t
def BO:AC->Prop
 |[]=>True
 |x::r=>BR x.1 r=none/\(x.2.k=0->x.2.n≠x.1/\BR x.2.n r=none)/\BO r
def ON(g:Tm->Nat->Bool×Nat):Ts->Nat->Bool×Nat
 | .nil,w=>(false,w)
 | .cons k n s a r,w=>if(g ⟨k,n,s,a⟩ w).1=true then(true,(g ⟨k,n,s,a⟩ w).2)else ON g r (g ⟨k,n,s,a⟩ w).2
def I8(B:AC)(v:Int):Nat->Tm->Nat->Bool×Nat
 |0,_,w=>(false,w+1)
 |f+1,t,w=>if 400<w+1 then(false,w+1)else if(Qc B t).k=0 then(decide ((Qc B t).n=v),w+1)else ON (I8 B v f) (Qc B t).ar (w+1)
structure Us where
 ok:Bool
 B:AC
 w:Nat
def I2(g:Tm->Tm->AC->Nat->Us):Ts->Ts->AC->Nat->Us
 | .cons k n s a r,.cons k' n' s' a' r',B,w=>if(g ⟨k,n,s,a⟩ ⟨k',n',s',a'⟩ B w).ok=true then I2 g r r' (g ⟨k,n,s,a⟩ ⟨k',n',s',a'⟩ B w).B (g ⟨k,n,s,a⟩ ⟨k',n',s',a'⟩ B w).w else g ⟨k,n,s,a⟩ ⟨k',n',s',a'⟩ B w
 |_,_,B,w=>⟨true,B,w⟩
def MK(v:Int)(t:Tm)(B:AC)(w:Nat):Us:=
 if(I8 B v 401 t w).1=true\/400<(I8 B v 401 t w).2 then⟨false,B,(I8 B v 401 t w).2⟩else⟨true,(v,t)::B,(I8 B v 401 t w).2⟩
def QrS(x y:Tm):Bool:=decide (x.k=y.k)&&decide (x.n=y.n)&&decide (x.s=y.s)&&decide (x.ar.length=y.ar.length)
def BI:Nat->Tm->Tm->AC->Nat->Us
 |0,_,_,B,w=>⟨false,B,w+1⟩
 |f+1,a,b,B,w=>if 400<w+1 then⟨false,B,w+1⟩else
  if(Qc B a).k=0 then
   if(Qc B b).k=0 then⟨true,if(Qc B a).n=(Qc B b).n then B else((Qc B a).n,Qc B b)::B,w+1⟩
   else MK (Qc B a).n (Qc B b) B (w+1)
  else if(Qc B b).k=0 then MK (Qc B b).n (Qc B a) B (w+1)
  else if QrS (Qc B a) (Qc B b)=true then I2 (BI f) (Qc B a).ar (Qc B b).ar B (w+1)
  else⟨false,B,w+1⟩
def FW(g:Tm->Nat->Option (Tm×Nat)):Ts->Nat->Option (Ts×Nat)
 | .nil,l=>some (.nil,l)
 | .cons k n s a r,l=>match g ⟨k,n,s,a⟩ l with
  |none=>none
  |some (t,l')=>match FW g r l' with
   |none=>none
   |some (T,l'')=>some (.cons t.k t.n t.s t.ar T,l'')
def GP(B:AC):Nat->Tm->Nat->Option (Tm×Nat)
 |0,_,_=>none
 |f+1,t,l=>if l=0 then none else match FW (GP B f) (Qc B t).ar (l-1)with
  |none=>none
  |some (T,l')=>some (⟨(Qc B t).k,(Qc B t).n,(Qc B t).s,T⟩,l')
abbrev Gl:=Tm×Nat
structure Ch where
 g:Gl
 next:List Gl
 cls:List Cl
 bound:Nat
structure SS where
 B:AC
 fresh:Nat
 fuel:Nat
 goals:List Gl
 ch:List Ch
 ev:List Ts
def CG(B:AC)(n:Nat):AC:=B.drop (B.length-n)
def ID:Ts->Int->Nat->List Gl->List Gl
 | .nil,_,_,rest=>rest
 | .cons k n s a r,m,o,rest=>(Tm.shift ⟨k,n,s,a⟩ m,o)::ID r m o rest
def CH:List Ch->Nat
 |[]=>0
 |c::r=>c.cls.length+CH r
def Cl.head(c:Cl):Tm:=⟨c.k,c.n,c.s,c.hd⟩
def C5(c:Ch)(more:List Cl)(cs:List Ch):List Ch:=match more with
 |[]=>cs
 |_::_=>⟨c.g,c.next,more,c.bound⟩::cs
def D5 : Nat -> SS -> Int × SS
 |0,s=>(2,s)
 |f+1,s=>match s.ch with
  |[]=>(2,s)
  |c::cs=>match c.cls with
   |[]=>(2,s)
   |cl::more=>
    let r:=BI 401 (cl.head.shift s.fresh) c.g.1 (CG s.B c.bound) 0
    let s':SS:=⟨r.B,s.fresh+cl.vars.toNat,s.fuel,s.goals,C5 c more cs,s.ev⟩
    if 400<r.w then(4,s')
    else if r.ok=true then(0,⟨s'.B,s'.fresh,s'.fuel,ID cl.bd s.fresh cs.length c.next,s'.ch,s'.ev⟩)
    else D5 f s'
def Q9(s:SS):Int×SS:=D5 (CH s.ch+1) s
def SS.setB(s:SS)(B:AC):SS:=⟨B,s.fresh,s.fuel,s.goals,s.ch,s.ev⟩
def GE(a b:Tm)(s:SS):Int×SS:=
 let r:=BI 401 a b s.B 0
 if 400<r.w then(4,s.setB r.B)else if r.ok=true then(0,s.setB r.B)else Q9 (s.setB r.B)
def Ts.at_:Ts->Nat->Tm
 | .nil,_=>⟨0,0,⟨#[]⟩,.nil⟩
 | .cons k n s a _,0=>⟨k,n,s,a⟩
 | .cons _ _ _ _ r,i+1=>r.at_ i
def M7(T:Ts)(s:SS):Int×SS:=
 let a:=Qc s.B (T.at_ 0)
 let b:=Qc s.B (T.at_ 1)
 if a.k≠2\/b.k≠2 then(5,s)else if b.n<=a.n then Q9 s else(0,s)
def MY(T:Ts)(s:SS):Int×SS:=
 let a:=Qc s.B (T.at_ 0)
 let b:=Qc s.B (T.at_ 1)
 if a.k≠2\/b.k≠2 then(5,s)else if a.n+b.n< -1099511627776\/1099511627776<a.n+b.n then(5,s)
 else GE (T.at_ 2) ⟨2,a.n+b.n,⟨#[]⟩,.nil⟩ s
def I5(g:Gl)(s:SS):Int×SS:=
 if g.1.s.toList=[33]then(0,⟨s.B,s.fresh,s.fuel,s.goals,s.ch.drop (s.ch.length-g.2),s.ev⟩)
 else if g.1.s.toList=[116,114,117,101]then(0,s)
 else if g.1.s.toList=[101,113]then GE (g.1.ar.at_ 0) (g.1.ar.at_ 1) s
 else if g.1.s.toList=[108,101,115,115]then M7 g.1.ar s
 else if g.1.s.toList=[97,100,100]then MY g.1.ar s
 else Q9 s
def EC(B:AC):Nat->Nat->Nat->Option (Ts×Nat)
 |0,_,l=>some (.nil,l)
 |m+1,v,l=>match GP B 201 ⟨0,v,⟨#[]⟩,.nil⟩ l with
  |none=>none
  |some (t,l')=>match EC B m (v+1) l' with
   |none=>none
   |some (T,l'')=>some (.cons t.k t.n t.s t.ar T,l'')
def MW(vars:Nat)(s:SS):Int×SS:=match EC s.B vars 0 200 with
 |none=>(4,s)
 |some (T,_)=>
  let s':SS:=⟨s.B,s.fresh,s.fuel,s.goals,s.ch,s.ev++[T.tidy]⟩
  if s'.ev.length=12 then(6,s')else Q9 s'
def FC(g:Tm)(c:Cl):Bool:=decide (c.s=g.s)&&decide (c.hd.length=g.ar.length)
def BD(p:List Cl)(vars:Nat)(s:SS):Int×SS:=match s.goals with
 |[]=>MW vars s
 |g::rest=>
  if s.fuel=0 then(3,s)
  else if Q1 g.1.s.toList g.1.ar.length=true then I5 g ⟨s.B,s.fresh,s.fuel-1,rest,s.ch,s.ev⟩
  else match p.filter (FC g.1)with
   |[]=>(5,⟨s.B,s.fresh,s.fuel-1,rest,s.ch,s.ev⟩)
   |c::cs=>Q9 ⟨s.B,s.fresh,s.fuel-1,rest,⟨g,rest,c::cs,s.B.length⟩::s.ch,s.ev⟩
abbrev Ev:=Int×Ts
def FD(l:List Ts):List Ev:=l.map fun T=>(1,T)
def GL(p:List Cl)(vars:Nat):Nat->SS->List Ev
 |0,_=>[]
 |n+1,s=>if(BD p vars s).1=0 then GL p vars n (BD p vars s).2 else FD (BD p vars s).2.ev++[((BD p vars s).1,.nil)]
def FU(q:Ts)(vars fuel:Nat):SS:=⟨[],vars,fuel,ID q 0 0 [],[],[]⟩
def CK(p:List Cl)(q:Ts)(vars fuel:Int):List Ev×Int:=
 if pB p=false\/qB vars q=false then([],1)
 else if fuel<0\/150<fuel then([],2)
 else(GL p vars.toNat 4000 (FU q vars.toNat fuel.toNat),0)
structure GB where
 v:Int
 t:LT
def CC(G:List GB):List (Int×TH):=(G.map fun x=>(x.v,tv x.t)).reverse
theorem QrH(v:Int)(Y:AC):∀X:AC,BR v (X++Y)=(BR v X).orElse fun _=>BR v Y
 |[]=>by simp[BR]
 |x::r=>by
  simp only[VI,BR];by_cases e:v=x.1
  .rw[XB e,XB e];rfl
  .rw[XA e,XA e];exact QrH v Y r
theorem BO.drop{B:AC}(h:BO B):∀m,BO (B.drop m):=by
 induction B with
 |nil=>intro m;simpa using h
 |cons x r ih=>
  intro m
  cases m with
  |zero=>exact h
  |succ m=>exact ih h.2.2 m
theorem QmV{v:Int}{u:Tm}:∀{B:AC},BR v B=some u->∃p,p<B.length/\B.drop p=(v,u)::B.drop (p+1)
 |[],h=>by cases h
 |x::r,h=>by
  simp only[BR]at h;by_cases e:v=x.1
  .rw[XB e]at h;cases h
   exact⟨0,by simp,by simp[e]⟩
  .rw[XA e]at h;obtain⟨p,h1,h2⟩:=QmV h;exact⟨p+1,by simp;omega,by simpa using h2⟩
def LM(B:AC)(m:Nat)(t:Tm):Prop:=t.k=0->BR t.n (B.drop m)=none
theorem LM.step{B:AC}{m:Nat}{t u:Tm}(hB:BO B)(h:LM B m t)(hk:t.k=0)(hg:BR t.n B=some u):∃p,p<m/\LM B p u:=by
 obtain⟨p,hp,hd⟩:=QmV hg;refine⟨p,?_,fun hu=> ?_⟩
 .rcases XY p m with hl|hl
  .exact hl
  .exfalso;have h0:=h hk
   have e:B.drop m=(B.drop m).take (p-m)++B.drop p:=by
    conv=>lhs;rw[<-VR (p-m) (B.drop m)]
    rw[Xba,show m+(p-m)=p by omega]
   rw[e,QrH,hd]at h0;have h1:BR t.n ((t.n,u)::B.drop (p+1))=some u:=by simp[BR]
   rw[h1]at h0;cases hx:BR t.n ((B.drop m).take (p-m))<;>rw[hx]at h0<;>cases h0
 .have hb:=hB.drop p;rw[hd]at hb⊢;obtain⟨h1,h2,_⟩:=hb;obtain⟨h4,h5⟩:=h2 hu;simp only[BR];rw[XA h4];exact h5
theorem LM.start(B:AC)(t:Tm):LM B B.length t:=fun _=>by simp[BR]
theorem QcJ{B:AC}{t:Tm}(h:t.k≠0):∀f,KU B f t=t
 |0=>rfl
 |f+1=>by simp[KU,h]
theorem ZS{B:AC}{t:Tm}(h:BR t.n B=none):∀f,KU B f t=t
 |0=>rfl
 |f+1=>by simp[KU,h]
theorem Qd4{B:AC}{t u:Tm}(hk:t.k=0)(h:BR t.n B=some u)(f:Nat):KU B (f+1) t=KU B f u:=by simp[KU,hk,h]
theorem Qfd{B:AC}(hB:BO B):∀(p:Nat) (t:Tm),LM B p t->∀f,p<=f->KU B f t=KU B p t:=by
 intro p
 induction p using Nat.strongRecOn with
 |_ p ih=>
  intro t hc f _;by_cases hk:t.k=0
  .cases hg:BR t.n B with
   |none=>rw[ZS hg,ZS hg]
   |some u=>
    obtain⟨q,hq,Pv⟩:=hc.step hB hk hg
    obtain⟨f,rfl⟩:∃f',f=f'+1:=⟨f-1,by omega⟩
    obtain⟨p,rfl⟩:∃p',p=p'+1:=⟨p-1,by omega⟩
    rw[Qd4 hk hg,Qd4 hk hg,ih q hq u Pv f Ya,ih q hq u Pv p Ya]
  .rw[QcJ hk,QcJ hk]
theorem LL{B:AC}{t:Tm}(h:t.k≠0):Qc B t=t:=QcJ h _
theorem P6{B:AC}{t:Tm}(h:BR t.n B=none):Qc B t=t:=ZS h _
theorem QfA{B:AC}{t u:Tm}(hB:BO B)(hk:t.k=0)(h:BR t.n B=some u):Qc B t=Qc B u:=by
 obtain⟨p,hp,hc⟩:=(LM.start B t).step hB hk h;unfold Qc;have:B.length=(B.length-1)+1:=by omega
 conv=>lhs;rw[this,Qd4 hk h]
 exact(Qfd hB p u hc _ Ya).trans (Qfd hB p u hc _ Ya).symm
theorem QuU{B:AC}(hB:BO B):∀(p:Nat) (t:Tm),LM B p t->(KU B p t).k=0->BR (KU B p t).n B=none:=by
 intro p
 induction p using Nat.strongRecOn with
 |_ p ih=>
  intro t hc;by_cases hk:t.k=0
  .cases hg:BR t.n B with
   |none=>rw[ZS hg];exact fun _=>hg
   |some u=>
    obtain⟨q,hq,Pv⟩:=hc.step hB hk hg
    obtain⟨p,rfl⟩:∃p',p=p'+1:=⟨p-1,by omega⟩
    rw[Qd4 hk hg,Qfd hB q u Pv p Ya];exact ih q hq u Pv
  .rw[QcJ hk];exact fun h=>absurd h hk
theorem LY{B:AC}(hB:BO B)(t:Tm)(h:(Qc B t).k=0):BR (Qc B t).n B=none:=QuU hB _ t (LM.start B t) h
theorem QuS{B:AC}(hB:BO B)(t:Tm):Qc B (Qc B t)=Qc B t:=by
 by_cases h:(Qc B t).k=0
 .exact P6 (LY hB t h)
 .exact LL h
theorem Qol{B:AC}:∀(f:Nat) (t:Tm),KU B f t=t\/∃x∈B,KU B f t=x.2
 |0,t=> .inl rfl
 | f + 1, t => by
  by_cases hk:t.k=0
  .cases hg:BR t.n B with
   |none=>exact .inl (ZS hg _)
   |some u=>
    rw[Qd4 hk hg]
    have hm:∃x∈B,u=x.2:=by
     obtain⟨p,_,hd⟩:=QmV hg;exact⟨(t.n,u),JJ (i:=p) (by rw[hd];exact .head _),rfl⟩
    rcases Qol f u with h|h
    .rw[h];exact .inr hm
    .exact .inr h
  .exact .inl (QcJ hk _)
theorem Qmu{B:AC}(t:Tm):Qc B t=t\/∃x∈B,Qc B t=x.2:=Qol _ t
end Go.Proofs.YthliapbflkfdiacGreatDoor
