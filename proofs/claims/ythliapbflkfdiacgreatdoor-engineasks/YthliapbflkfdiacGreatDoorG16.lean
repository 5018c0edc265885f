/- Steps of the proof. -/
import Derived.Test.YthliapbflkfdiacGreatDoorG15
set_option linter.unusedVariables false
set_option linter.unusedSimpArgs false
set_option maxRecDepth 100000
set_option maxHeartbeats 1000000
namespace Go.Proofs.YthliapbflkfdiacGreatDoor
open Go.Proofs.Tryz
open Go.RowKit Go.Shelf
theorem Qjd(l:AA)(w:TG):Calls prog 214 #[sv l,sv [45]] w fun e w'=>e= .returned (sv (FJ l))/\w'=w:=by
 cases hp:([45]:AA).isPrefixOf l with
 |true=>
  have hl:1<=l.length:=by
   cases l with
   |nil=>simp[List.isPrefixOf]at hp
   |cons c r=>simp
  have e1:FJ l=l.drop 1:=by
   cases l with
   |nil=>rfl
   |cons c r=>simp[List.isPrefixOf]at hp;subst hp;rfl
  apply Zq.nL.e.aA.f.1;refine XE (QdO l [45] _) ?_;rintro _ w1 ⟨rfl,rfl⟩;apply Zq.a.1;rw[hp];apply Zq.v.i.c5.i1.c.1;refine Qd func214 rfl Yb ?_;exact⟨by rw[e1];rfl,rfl⟩
 |false=>
  have e1:FJ l=l:=by
   unfold FJ;split
   .simp[List.isPrefixOf]at hp
   .rfl
  apply Zq.nL.e.aA.f.1;refine XE (QdO l [45] _) ?_;rintro _ w1 ⟨rfl,rfl⟩;apply Zq.a.1;rw[hp];apply Zq.D.aB.1;refine Qd func214 rfl Yb ?_;exact⟨by rw[e1],rfl⟩
theorem Qky(l:AA)(w:TG):Calls prog 183 #[sv l,sv [45]] w fun e w'=>e= .returned (sv (FJ l))/\w'=w:=by
 refine Qh func183 rfl ntmps183 rfl ?_;apply Zq.e.i.f.1;refine XE (Qjd l _) ?_;rintro _ _ ⟨rfl,rfl⟩;apply Zq.aJ.1;refine Qd func183 rfl Yb ?_;exact FI
theorem QhP(d:AA)(c:UInt8):ED (d++[c])=10*ED d+(c-48).toNat:=by simp[ED,List.foldl_append]
theorem QhQ:∀(n:Nat) (d:AA),d.length=n->9*ED d+255<=255*10^n:=by
 intro n
 induction n with
 |zero=>intro d h;rw[VL h];decide
 |succ n ih=>
  intro d h;rcases Xa5 d with rfl|⟨e,c,rfl⟩
  .simp at h
  have h1:=ih e YY;have h2:(c-48).toNat<256:=(c-48).toNat_lt;rw[List.concat_eq_append,QhP,Nat.pow_succ];omega
theorem Qgu(l:AA)(w:TG):Calls prog 131 #[sv l] w fun e w'=>e= .returned (.tuple #[.int .i64 ((E4 l).getD 0),.bool (E4 l).isSome])/\Below w.heap.size w w':=by
 have rA:(FJ l).length<=l.length:=by unfold FJ;split<;>simp
 have hS:=St.start w;by_cases h1:FJ l=[]
 .have ev:E4 l=none:=by simp[E4,h1]
  rw[ev];apply Zq.hF.aY.aF.hD.1;rintro _ w1 ⟨rfl,rfl⟩;apply Zq.a.1;rw[h1];apply Zq.M.V.bX.q.bB.aL.U.H.aY.e8.1;exact Yn
 by_cases Kc:13<(FJ l).length
 .have ev:E4 l=none:=by simp[E4,Kc]
  rw[ev];generalize hd:FJ l=d at*;have hde:(d==[])=false:=by cases d with|nil=>exact absurd rfl h1|cons _ _=>rfl
  apply Zq.hF.aY.aF.hD.1;rintro _ w1 ⟨rfl,rfl⟩;apply Zq.a.1;rw[hd];apply Zq.M.V.g.1;rw[hde];apply Zq.P.c5.j.S.q.bB.aL.U.H.aY.e8.1;exact Yn
 have aEy:∀w1:TG,St [] w [] [] w1->True:=fun _ _=>trivial;have hc:∀x,G1 (FJ l)=x->x=48->l≠[48]->E4 l=none:=fun x e1 e2 e3=>by simp[E4,e1,e2,e3]
 have hv:(G1 (FJ l)=48->l=[48])->E4 l=if 1099511627776<ED (FJ l)then none else some (if FJ l=l then(ED (FJ l):Int)else -(ED (FJ l):Int)):=fun e=>by
  unfold E4;simp only;rw[XA];rintro(h|h|⟨h,h'⟩)
  .exact h1 h
  .exact Kc h
  .exact h' (e h)
 have pN:=QhQ _ (FJ l) rfl
 have Ra:∀k,k<=13->(10:Nat)^k<=10000000000000:=fun k hk=>by
  have:=Nat.pow_le_pow_right (n:=10) Yf hk;simpa using this
 generalize hd:FJ l=d at*
 cases d with
 |nil=>exact absurd rfl h1
 |cons x q=>
  have hhx:G1 (x::q)=x:=rfl;rw[hhx]at hv;by_cases xM:x=48
  .by_cases Gz:l=[48]
   .rw [hv fun _ => Gz];have Be:(l !=[48])=false:=by simp [Gz]
    subst xM;apply Zq.hF.aY.aF.hD.1;rintro _ w1 ⟨rfl,rfl⟩;apply Zq.a.1;rw[hd];apply Zq.M.V.n.c5.j.S.dM.aP.j.l.j.n.dD.bG.q.b.1;rw[Be];apply Zq.bS.aW.bV.mF.1
    have hB:Below w1.heap.size w1 (Lib.bytesWorld w1 5 ⟨(48::q:AA).toArray⟩):=⟨rfl,rfl,rfl,by rw[Lib.bytesWorld_size];omega,fun k hk=>Lib.bytesWorld_at_old w1 _ _ k hk⟩
    have oL:∀(E:AA) (y:UInt8) (Q:AA),48::q=E++y::Q->(Lib.bytesWorld w1 5 ⟨(48::q:AA).toArray⟩).cell? ⟨w1.heap.size,0+(((E.length:Nat):Int)).toNat*1,none⟩=some (.int .u8 y.toNat):=by
     intro E y Q e;have h0:0+(((E.length:Nat):Int)).toNat*1=E.length:=by omega
     have h2:(48::q:AA).length=E.length+(Q.length+1):=by rw[e];simp
     rw[h0,Lib.bytesWorld_cell w1 _ _ E.length (by rw[GY];omega),OJ,e];simp
    have pQ:grownCap w1 (48::q:AA).length 0 5=grownCap w1 (48::q:AA).length 0 5:=rfl;generalize Lib.bytesWorld w1 5 ⟨(48::q:AA).toArray⟩=W at*;rw[GY];generalize grownCap w1 (48::q:AA).length 0 5=gc at*;apply Zq.aQ.1;refine Qx 5 29 (30::31::32::7::33::34::35::36::37::38::39::[]) (fun(Q:AA) n i w'=>w'=W/\∃E,48::q=E++Q/\n= .int .i64 (ED E:Nat)/\i= .int .i64 (E.length:Nat)) (fun Q=>Q.length) (48::q) ?_ Yb Yb ?_
    .exact⟨rfl,[],rfl,rfl,rfl⟩
    rintro Q n3 i3 w3 jv3 ⟨rfl,E,hE,rfl,rfl⟩ ih;have xN:(48::q:AA).length=E.length+Q.length:=by rw[hE,XG]
    have hbE:=QhQ _ E rfl;have hpE:=Ra E.length Ya
    cases Q with
    |cons y Q=>
     have Ia:=oL E y Q hE;have Kn:=xN;simp only[XJ (a:=y)]at Kn;have hy:=(y-48).toNat_lt;simp only[XJ]at xN;apply Zq.cB.T.y.c.u.1
     first
      |refine Qa (QtX rfl rfl Ya Ya) rfl ?_
      |refine Qa (rfl) rfl ?_
     apply Zq.g.b3.iJ.C.dN.1;refine ih (Q) _ _ _ _ ?_ ?_ Yb Yb Yc
     .simp
     .exact Ydv
    |nil=>
     rw[VF]at hE;subst hE;by_cases qU:1099511627776<ED (48::q)
     .exact YdQ
     .rw[XA qU];by_cases yA:48::q=l
      .have vO:(48::q !=l)=false:=by simp[yA]
       exact Ycp
      .have vO:(48::q !=l)=true:=by simp[yA]
       rw[XA yA];apply Zq.W.m.S.D.aA.dD.b.1;rw[vO];apply Zq.cD.u.fL.b4.K.e8.1;refine⟨?_,hB⟩;show Ending.returned (.tuple #[.int .i64 (IntKind.i64.wrap (0-((ED (48::q):Nat):Int))),.bool true])=_;rw[N8 Ya Ya,Int.zero_sub];rfl
   .have Be:(l !=[48])=true:=by simp[Gz]
    rw[hc x rfl xM Gz];subst xM;apply Zq.hF.aY.aF.hD.1;rintro _ w1 ⟨rfl,rfl⟩;apply Zq.a.1;rw[hd];apply Zq.M.V.n.c5.j.S.dM.aP.j.l.j.n.dD.bG.q.b.1;rw[Be];apply Zq.cD.aY.e8.1;exact Yn
  .have aIx:x.toNat≠48:=fun h=>xM (OH (n:=48) h);rw[hv fun h=>absurd h xM];apply Zq.hF.aY.aF.hD.1;rintro _ w1 ⟨rfl,rfl⟩;apply Zq.a.1;rw[hd];apply Zq.M.V.n.c5.j.S.dM.aP.j.l.j.aS.bG.N.bV.mF.1
   have hB:Below w1.heap.size w1 (Lib.bytesWorld w1 5 ⟨(x::q:AA).toArray⟩):=⟨rfl,rfl,rfl,by rw[Lib.bytesWorld_size];omega,fun k hk=>Lib.bytesWorld_at_old w1 _ _ k hk⟩
   have oL:∀(E:AA) (y:UInt8) (Q:AA),x::q=E++y::Q->(Lib.bytesWorld w1 5 ⟨(x::q:AA).toArray⟩).cell? ⟨w1.heap.size,0+(((E.length:Nat):Int)).toNat*1,none⟩=some (.int .u8 y.toNat):=by
    intro E y Q e;have h0:0+(((E.length:Nat):Int)).toNat*1=E.length:=by omega
    have h2:(x::q:AA).length=E.length+(Q.length+1):=by rw[e];simp
    rw[h0,Lib.bytesWorld_cell w1 _ _ E.length (by rw[GY];omega),OJ,e];simp
   have pQ:grownCap w1 (x::q:AA).length 0 5=grownCap w1 (x::q:AA).length 0 5:=rfl;generalize Lib.bytesWorld w1 5 ⟨(x::q:AA).toArray⟩=W at*;rw[GY];generalize grownCap w1 (x::q:AA).length 0 5=gc at*;apply Zq.aQ.1;refine Qx 5 29 (30::31::32::7::33::34::35::36::37::38::39::[]) (fun(Q:AA) n i w'=>w'=W/\∃E,x::q=E++Q/\n= .int .i64 (ED E:Nat)/\i= .int .i64 (E.length:Nat)) (fun Q=>Q.length) (x::q) ?_ Yb Yb ?_
   .exact⟨rfl,[],rfl,rfl,rfl⟩
   rintro Q n3 i3 w3 jv3 ⟨rfl,E,hE,rfl,rfl⟩ ih;have xN:(x::q:AA).length=E.length+Q.length:=by rw[hE,XG]
   have hbE:=QhQ _ E rfl;have hpE:=Ra E.length Ya
   cases Q with
   |cons y Q=>
    have Ia:=oL E y Q hE;have Kn:=xN;simp only[XJ (a:=y)]at Kn;have hy:=(y-48).toNat_lt;simp only[XJ]at xN;apply Zq.cB.T.y.c.u.1
    first
     |refine Qa (QtX rfl rfl Ya Ya) rfl ?_
     |refine Qa (rfl) rfl ?_
    apply Zq.g.b3.iJ.C.dN.1;refine ih (Q) _ _ _ _ ?_ ?_ Yb Yb Yc
    .simp
    .exact Ydv
   |nil=>
    rw[VF]at hE;subst hE;by_cases qU:1099511627776<ED (x::q)
    .exact YdQ
    .rw[XA qU];by_cases yA:x::q=l
     .have vO:(x::q !=l)=false:=by simp[yA]
      exact Ycp
     .have vO:(x::q !=l)=true:=by simp[yA]
      rw[XA yA];apply Zq.W.m.S.D.aA.dD.b.1;rw[vO];apply Zq.cD.u.fL.b4.K.e8.1;refine⟨?_,hB⟩;show Ending.returned (.tuple #[.int .i64 (IntKind.i64.wrap (0-((ED (x::q):Nat):Int))),.bool true])=_;rw[N8 Ya Ya,Int.zero_sub];rfl
abbrev IR(L V:TH)(bad:Bool):Obj:= .cells [L,V,.bool bad].toArray 138
section
variable{M:T6}{w0:TG}{H:T0}{F:T3}{b:Nat}{φ:TG->Prop}
theorem QoF(p:PS)(L V:TH)(w:TG)(hL:Sx φ L p.l)(hφ:φ∈F)(hS:St M w0 ((b,IR L V p.bad)::H) F w):
  Calls prog 130 #[ptr b] w fun e w'=>e= .returned (sv (p.l.headD []))/\w'=w:=by
 obtain⟨l,vars,bad⟩:=p
 cases l with
 |nil=>
  obtain⟨A,c,rfl,hc⟩:=hL.form;apply Zq.lX.e.bU.y.aC.l.cI.1;exact Yew
 |cons x r=>
  obtain⟨A,c,rfl,hc⟩:=hL.form;obtain⟨_,_,b1,o1,rfl,oL⟩:=hL.head;have Nn:=oL w (hS.fact hφ);have uU:w.cell? ⟨b1,o1+(0:Int).toNat*1,none⟩=some (sv x):=Nn;simp only[XJ]at hc;apply Zq.lX.e.bU.y.aC.bY.bN.y.T.y.c.1;exact Yew
theorem MP(p:PS)(t:AA)(L V:TH)(w:TG)(hL:Sx φ L p.l)(hφ:φ∈F)(hS:St M w0 ((b,IR L V p.bad)::H) F w):
  Calls prog 81 #[ptr b,sv t] w fun e w'=>∃L',e= .returned (.bool (p.has t))/\Sx φ L' (if p.has t then p.pop else p).l/\St M w0 ((b,IR L' V p.bad)::H) F w':=by
 obtain⟨l,vars,bad⟩:=p
 cases l with
 |nil=>
  obtain⟨A,c,rfl,hc⟩:=hL.form;apply Zq.jJ.e.bU.y.bP.c8.cG.N.e.kQ.1;exact⟨_,rfl,hL,hS⟩
 |cons x r=>
  obtain⟨A,c,rfl,hc⟩:=hL.form;obtain⟨_,_,b1,o1,rfl,oL⟩:=hL.head;have Nn:=oL w (hS.fact hφ);have uU:w.cell? ⟨b1,o1+(0:Int).toNat*1,none⟩=some (sv x):=Nn;simp only[XJ]at hc;have hx:(x==t)=(PS.mk (x::r) vars bad).has t:=by simp[PS.has]
  cases hh:(PS.mk (x::r) vars bad).has t with
  |true=>
   rw[hh]at hx;apply Zq.jJ.e.bU.y.bP.n.c9.aI.aK.T.fE.P.V.q.b.1;rw[hx];apply Zq.cD.i.bL.y.e2.bL.J.1;clear hS;intro _ hS;apply Zq.b.e.kQ.1;exact⟨_,rfl,hL.tail,hS⟩
  |false=>
   rw[hh]at hx;apply Zq.jJ.e.bU.y.bP.n.c9.aI.aK.T.fE.P.V.q.b.1;rw[hx];apply Zq.bS.aW.e.kQ.1;exact⟨_,rfl,hL,hS⟩
end
end Go.Proofs.YthliapbflkfdiacGreatDoor
