/- Steps of the proof. -/
import Derived.Test.YthliapbflkfdiacGreatDoorG12
set_option linter.unusedVariables false
set_option linter.unusedSimpArgs false
set_option maxRecDepth 100000
set_option maxHeartbeats 1000000
namespace Go.Proofs.YthliapbflkfdiacGreatDoor
open Go.Proofs.Tryz
open Go.RowKit
theorem I4{s:TJ}(l:AA):s.toList=l↔s=⟨l.toArray⟩:=by
 constructor
 .intro h;exact TZ.1 (h.trans (NX l).symm)
 .intro h;rw[h,NX]
theorem Qxq{T:TA}(h:T.len=2):∃x y:LT,T= .cons x.k x.n x.s x.A x.c x.ar (.cons y.k y.n y.s y.A y.c y.ar .nil):=by
 match T,h with
 | .cons k n s A c a (.cons k' n' s' A' c' a' .nil),_=>exact⟨⟨k,n,s,A,c,a⟩,⟨k',n',s',A',c',a'⟩,rfl⟩
 | .nil,h=>simp[TA.len]at h
 | .cons _ _ _ _ _ _ .nil,h=>simp[TA.len]at h
 | .cons _ _ _ _ _ _ (.cons _ _ _ _ _ _ (.cons _ _ _ _ _ _ _)),h=>simp[TA.len]at h
theorem Qwn{T:TA}(h:T.len=3):∃x y z:LT,T= .cons x.k x.n x.s x.A x.c x.ar (.cons y.k y.n y.s y.A y.c y.ar (.cons z.k z.n z.s z.A z.c z.ar .nil)):=by
 match T,h with
 | .cons k n s A c a (.cons k' n' s' A' c' a' (.cons k2 n2 s2 A2 c2 a2 .nil)),_=>exact⟨⟨k,n,s,A,c,a⟩,⟨k',n',s',A',c',a'⟩,⟨k2,n2,s2,A2,c2,a2⟩,rfl⟩
 | .nil,h=>simp[TA.len]at h
 | .cons _ _ _ _ _ _ .nil,h=>simp[TA.len]at h
 | .cons _ _ _ _ _ _ (.cons _ _ _ _ _ _ .nil),h=>simp[TA.len]at h
 | .cons _ _ _ _ _ _ (.cons _ _ _ _ _ _ (.cons _ _ _ _ _ _ (.cons _ _ _ _ _ _ _))),h=>simp[TA.len]at h
theorem QyR{s:SS}(hI:DC s)(n:Nat):DC ⟨s.B,s.fresh,s.fuel,s.goals,s.ch.drop (s.ch.length-n),s.ev⟩:=by
 have hc:=QiS s.ch (s.ch.length-n);have h1:=hI.fr;have h2:=hI.bl;unfold mu at h1 h2;exact⟨hI.bok,hI.gb,hI.ch.drop _,by unfold mu;simp only;omega,by unfold mu;simp only;omega⟩
section
variable{M:T6}{w0:TG}{H:T0}{F0 F:T3}{b:Nat}{P:List LC}{pA:T4}{pc vars:Nat}
end
section
variable{P:Program}{n:Nat}{e:AW}{w:TG}{Q:Exit->Act->TG->Prop}{oI:TB}{rest:TC}{ty:TypeId}{pos:String}{after:TE}{d:Nat}
variable{M:T6}{w0:TG}{H:T0}{F:T3}{x y:Operand}{t:TypeId}
theorem QiJ{el sz bts k:Nat}(hS:St M w0 H F w)(hx:ev n e x= .int .i64 (k:Nat))(hy:ev n e y= .int .i64 (k:Nat))(hT:QE P t=some el)(hi:LV P el=some (sz,bts))(hb:bts*k<=281474976710656)(hk:k<=4611686018427387904)(hd:Nat.blt d n=true)
  (h:∀(b:Nat) (w':TG) (cs:T5),cs.length=k*sz->St M w0 ((b,.cells cs.toArray el)::H) F w'->AU P Q oI rest n ((d,.slice (some ⟨b,0,none⟩) k k)::e) w'):
  AU P Q oI (⟨some d,.makeSlice t x y,ty,pos,after,none⟩::rest) n e w:=by
 obtain⟨i,z,h2,h3,_,rfl,rfl⟩:=K6 hi
 have pH:(i.bytes:Int)*(k:Int)<=281474976710656:=by rw[<-XaM];omega
 have hr:=run_make (P:=P) w t el i z (D9 hT) h2 h3 .i64 .i64 (k:Int) (k:Int) Ya Ya pH Ya;refine Qa (v:= .slice (some ⟨w.heap.size,0,none⟩) k k) (w':=w.alloc (.cells (madeCells z.cells (k*i.size)) el)) ?_ hd ?_
 .exact Yd6
 .have e1:madeCells z.cells (k*i.size)=(madeCells z.cells (k*i.size)).toList.toArray:=by simp
  rw[e1];exact h _ _ _ (by rw[ZD,size_madeCells]) (hS.alloc _)
theorem QwM(v:TH)(k:Nat):madeCells #[v] (k*1)=(List.replicate k v).toArray:=by
 apply Array.ext';simp only[madeCells,Array.toList_map,Array.toList_range,JN];refine J1 fun i=> ?_;rw[VW,Xbc];by_cases hi:i<k
 .rw[Xbd hi,XB hi];simp[Nat.mod_one]
 .rw[XX (by simpa using hi),XA hi];rfl
theorem SF{el bts k:Nat}{z:TH}(hS:St M w0 H F w)(hx:ev n e x= .int .i64 (k:Nat))(hy:ev n e y= .int .i64 (k:Nat))(hT:QE P t=some el)(hi:LV P el=some (1,bts))(hz:PC P el=some z)(sY:z.cells= #[z])(hb:bts*k<=281474976710656)(hk:k<=4611686018427387904)(hd:Nat.blt d n=true)
  (h:∀(b:Nat) (w':TG),St M w0 ((b,.cells (List.replicate k z).toArray el)::H) F w'->AU P Q oI rest n ((d,.slice (some ⟨b,0,none⟩) k k)::e) w'):
  AU P Q oI (⟨some d,.makeSlice t x y,ty,pos,after,none⟩::rest) n e w:=by
 obtain⟨i,z',h2,h3,_,h5,rfl⟩:=K6 hi
 obtain rfl:z'=z:=by unfold PC at hz;rw[h2]at hz;simp only[VU]at hz;rw[h3]at hz;exact V9 hz
 have pH:(i.bytes:Int)*(k:Int)<=281474976710656:=by rw[<-XaM];omega
 have hr:=run_make (P:=P) w t el i z' (D9 hT) h2 h3 .i64 .i64 (k:Int) (k:Int) Ya Ya pH Ya;refine Qa (v:= .slice (some ⟨w.heap.size,0,none⟩) k k) (w':=w.alloc (.cells (madeCells z'.cells (k*i.size)) el)) ?_ hd ?_
 .exact Yd6
 .rw[h5,sY,QwM];exact h _ _ (hS.alloc _)
end
theorem Qmm{α:Type}(L O O2 O3 H:List α):(L++(O++(O2++(O3++H)))).Perm (O3++(L++(O++(O2++H)))):=
 ((WT L ((WT O (XK O2 O3 H)).trans (XK O O3 _)))).trans (XK L O3 _)
theorem QgK{α:Type}(L O O2 H:List α):(L++(O++(O2++H))).Perm (O2++(L++(O++H))):=
 (WT L (XK O O2 H)).trans (XK L O2 _)
theorem Qhn(B:AC)(m v l:Nat):EC B (m+1) v l=(GP B 201 ⟨0,v,⟨#[]⟩,.nil⟩ l).bind fun p=>(EC B m (v+1) p.2).map fun q=>(.cons p.1.k p.1.n p.1.s p.1.ar q.1,q.2):=by
 simp only[EC]
 cases GP B 201 ⟨0,v,⟨#[]⟩,.nil⟩ l with
 |none=>rfl
 |some p=>
  simp only[VU];cases EC B m (v+1) p.2<;>rfl
theorem Qi8{B:AC}:∀(m v l:Nat) (p:Ts×Nat),EC B m v l=some p->p.1.nodes+p.2=l/\p.1.length=m
 |0,v,l,p,h=>by
  simp only[EC,XU]at h;exact YeC
 |m+1,v,l,p,h=>by
  rw[Qhn]at h
  cases h1:GP B 201 ⟨0,v,⟨#[]⟩,.nil⟩ l with
  |none=>rw[h1]at h;cases h
  |some q=>
   rw[h1,VU]at h
   cases h2:EC B m (v+1) q.2 with
   |none=>rw[h2]at h;cases h
   |some x=>
    rw[h2,X7,XU]at h;subst h;have:=QoW _ _ _ _ h1;obtain⟨_,_⟩:=Qi8 m (v+1) q.2 x h2;exact S5
section
variable{M:T6}{w0:TG}{H:T0}{F0 F:T3}{b:Nat}{P:List LC}{pA:T4}{pc vars:Nat}
end
theorem NP{s:SS}(h:DC s):((Q9 s).1=0->Inv (Q9 s).2/\mu (Q9 s).2<mu s)/\(Q9 s).2.ev=s.ev/\((Q9 s).1=0\/(Q9 s).1=2\/(Q9 s).1=4):=by
 obtain⟨h1,h2,h3,_⟩:=Qmh (CH s.ch+1) s h;exact⟨h1,h2,h3⟩
structure QrW(s:SS)(r:Int×SS):Prop where
 go:r.1=0->Inv r.2/\mu r.2<mu s
 kind:0<=r.1/\r.1<=6/\r.1≠1
theorem UQ{s:SS}{g:Gl}{rest:List Gl}(hI:Inv s)(hg:s.goals=g::rest)(hf:s.fuel≠0):DC ⟨s.B,s.fresh,s.fuel-1,rest,s.ch,s.ev⟩/\s.B.length+10100*(mu ⟨s.B,s.fresh,s.fuel-1,rest,s.ch,s.ev⟩+1)<=1000000000/\(∀g∈rest,AL g.1)/\LZ rest g.2/\g.2<=s.ch.length/\AL g.1/\mu ⟨s.B,s.fresh,s.fuel-1,rest,s.ch,s.ev⟩+25=mu s:=by
 have h1:=hI.c.fr;have h2:=hI.c.bl;have h3:=hI.gg;have h4:=hI.og;rw[hg]at h3 h4
 have hm:mu ⟨s.B,s.fresh,s.fuel-1,rest,s.ch,s.ev⟩+25=mu s:=by unfold mu;exact DM
 exact⟨⟨hI.c.bok,hI.c.gb,hI.c.ch,by simp only;omega,by simp only;omega⟩,by omega,fun x hx=>h3 x (.tail _ hx),h4.2,h4.1,h3 g (.head _),hm⟩
theorem UV{s s0:SS}(h:DC s)(hm:mu s<=mu s0):QrW s0 (Q9 s):=by
 obtain⟨h1,h2,h3⟩:=NP h;exact⟨fun e=>⟨(h1 e).1,W3 (h1 e).2 hm⟩,by rcases h3 with h|h|h<;>rw[h]<;>decide⟩
theorem QlP{s s0:SS}{a t:Tm}(hI:DC s)(pW:s.B.length+10100*(mu s+1)<=1000000000)(ha:AL a)(ht:AL t)(Ba:∀g∈s.goals,AL g.1)(Kl:LZ s.goals s.ch.length)(hm:mu s<mu s0):QrW s0 (GE a t s):=by
 have hi:=TN hI pW ha ht;unfold GE;simp only;split
 .exact Ybm
 split
 .exact⟨fun _=>⟨⟨hi,Ba,Kl⟩,hm⟩,by refine⟨?_,?_,?_⟩<;>simp only<;>decide⟩
 .exact UV hi (JM hm)
theorem Ts.at_mem:∀{T:Ts} {i:Nat},i<T.length->T.Mem (T.at_ i)
 | .nil,_,h=>by simp[Ts.length]at h
 | .cons k n s a r,0,_=> .inl rfl
 | .cons k n s a r,i+1,h=> .inr (Ts.at_mem (T:=r) (i:=i) (by simp only[Ts.length]at h;omega))
theorem Qs3{s s0:SS}{g:Gl}(hI:DC s)(pW:s.B.length+10100*(mu s+1)<=1000000000)(hg:AL g.1)(qW:g.2<=s.ch.length)(Ba:∀g∈s.goals,AL g.1)(Kl:LZ s.goals g.2)(hb:Q1 g.1.s.toList g.1.ar.length=true)(hm:mu s<mu s0):QrW s0 (I5 g s):=by
 have Gx:=Kl.mono qW;have hd:=GJ _ hg;unfold I5;unfold Q1 at hb;split
 .refine⟨fun _=>⟨⟨QyR hI g.2,Ba,?_⟩,?_⟩,by refine⟨?_,?_,?_⟩<;>simp only<;>decide⟩
  .show LZ s.goals (s.ch.drop (s.ch.length-g.2)).length;exact Kl.mono Yg
  .have:=QiS s.ch (s.ch.length-g.2);unfold mu at*;exact DM
 rename_i h1;rw[XA h1]at hb;split
 .exact⟨fun _=>⟨⟨hI,Ba,Gx⟩,hm⟩,by refine⟨?_,?_,?_⟩<;>simp only<;>decide⟩
 rename_i h2;rw[XA h2]at hb;split
 .rename_i h3;rw[XA (by rw[h3];decide),XB h3]at hb;have hl:g.1.ar.length=2:=by simpa using hb
  exact QlP hI pW (hd _ (Ts.at_mem Ya)) (hd _ (Ts.at_mem Ya)) Ba Gx hm
 rename_i h3;split
 .unfold M7;simp only;split
  .exact Ybm
  split
  .exact UV hI (JM hm)
  .exact⟨fun _=>⟨⟨hI,Ba,Gx⟩,hm⟩,by refine⟨?_,?_,?_⟩<;>simp only<;>decide⟩
 rename_i h4;split
 .rename_i h5;rw[XA (by rw[h5];decide),XA (by rw[h5];decide),XA (by rw[h5];decide),XB h5]at hb;have hl:g.1.ar.length=3:=by simpa using hb
  unfold MY;simp only;split
  .exact Ybm
  split
  .exact Ybm
  .rename_i hk hr;refine QlP hI pW (hd _ (Ts.at_mem Ya)) ?_ Ba Gx hm;exact Yq
 .exact UV hI (JM hm)
theorem QgH{s:SS}{g:Gl}{rest:List Gl}{c:Cl}{cs:List Cl}(hI:Inv s)(hg:s.goals=g::rest)(hf:s.fuel≠0)(hc:∀x∈c::cs,cB x=true)(hl:(c::cs).length<=24):
  DC ⟨s.B,s.fresh,s.fuel-1,rest,⟨g,rest,c::cs,s.B.length⟩::s.ch,s.ev⟩/\mu ⟨s.B,s.fresh,s.fuel-1,rest,⟨g,rest,c::cs,s.B.length⟩::s.ch,s.ev⟩<mu s:=by
 obtain⟨h1,h2,h3,h4,h5,h6,_⟩:=UQ hI hg hf
 have hm:mu ⟨s.B,s.fresh,s.fuel-1,rest,⟨g,rest,c::cs,s.B.length⟩::s.ch,s.ev⟩<mu s:=by
  unfold mu at*;simp only[CH]at*;omega
 have a1:=hI.c.fr;have a2:=hI.c.bl;refine⟨⟨hI.c.bok,hI.c.gb,?_,by simp only;omega,by simp only;omega⟩,hm⟩
 exact⟨XF _,⟨h5,h4⟩,fun x hx=>by
  rcases XV.1 hx with rfl|hx
  .exact h6
  .exact h3 x hx,by simp,hc,hI.c.ch⟩
theorem UE{p:List Cl}{vars:Nat}{s:SS}(hI:Inv s)(pX:s.ev.length<12)(hp:pB p=true):QrW s (BD p vars s)/\((BD p vars s).1=0->(BD p vars s).2.ev.length<12):=by
 have sV:p.length<=24/\∀x∈p,cB x=true:=by
  exact R1
 have Py:∀s':SS,DC s'->s'.ev.length<12->((Q9 s').1=0->(Q9 s').2.ev.length<12):=fun s' h1 h2 _=>by rw[(NP h1).2.1];exact h2
 have wZ:∀(s':SS) (a t:Tm),DC s'->s'.B.length+10100*(mu s'+1)<=1000000000->AL a->AL t->s'.ev.length<12->((GE a t s').1=0->(GE a t s').2.ev.length<12):=fun s' a t h1 h2 h3 h4 h5=>by
  have hi:=TN h1 h2 h3 h4;unfold GE;simp only;split
  .intro h;cases h
  split
  .intro _;exact h5
  .exact Py _ hi h5
 unfold BD
 cases hg:s.goals with
 |nil=>
  simp only;unfold MW
  cases hv:EC s.B vars 0 200 with
  |none=>exact⟨⟨fun h=>Y7,by refine⟨?_,?_,?_⟩<;>simp only<;>decide⟩,fun h=>by cases h⟩
  |some x=>
   simp only
   have hi:DC ⟨s.B,s.fresh,s.fuel,s.goals,s.ch,s.ev++[x.1.tidy]⟩:=⟨hI.c.bok,hI.c.gb,hI.c.ch,hI.c.fr,hI.c.bl⟩
   split
   .exact⟨⟨fun h=>Y7,by refine⟨?_,?_,?_⟩<;>simp only<;>decide⟩,fun h=>by cases h⟩
   .rename_i uB;refine⟨UV hi (XF _),Py _ hi ?_⟩;simp at uB⊢;omega
 |cons g rest=>
  simp only;split
  .exact⟨⟨fun h=>Y7,by refine⟨?_,?_,?_⟩<;>simp only<;>decide⟩,fun h=>by cases h⟩
  rename_i hf;obtain⟨h1,h2,h3,h4,h5,h6,h7⟩:=UQ hI hg hf;split
  .rename_i hb;refine⟨Qs3 h1 h2 h6 h5 h3 h4 hb Ya,?_⟩;have hd:=GJ _ h6;unfold Q1 at hb;unfold I5;split
   .intro _;exact pX
   rename_i k1;rw[XA k1]at hb;split
   .intro _;exact pX
   rename_i k2;rw[XA k2]at hb;split
   .rename_i k3;rw[XA S4,XB k3]at hb;have hl:g.1.ar.length=2:=by simpa using hb
    exact wZ _ _ _ h1 h2 (hd _ (Ts.at_mem Ya)) (hd _ (Ts.at_mem Ya)) pX
   split
   .unfold M7;simp only;split
    .intro h;cases h
    split
    .exact Py _ h1 pX
    .intro _;exact pX
   split
   .rename_i k5;rw[XA OO,XA OO,XA OO,XB k5]at hb;have hl:g.1.ar.length=3:=by simpa using hb
    unfold MY;simp only;split
    .intro h;cases h
    split
    .intro h;cases h
    .refine wZ _ _ _ h1 h2 (hd _ (Ts.at_mem Ya)) ?_ pX;exact Yq
   .exact Py _ h1 pX
  .cases hm:p.filter (FC g.1)with
   |nil=>exact⟨⟨fun h=>Y7,by refine⟨?_,?_,?_⟩<;>simp only<;>decide⟩,fun h=>by cases h⟩
   |cons c cs=>
    simp only;have rQ:∀x∈c::cs,cB x=true:=fun x hx=>sV.2 x Yan
    have oG:(c::cs).length<=24:=by rw[<-hm];exact X9 (J3 _ _) sV.1
    obtain⟨i1,i2⟩:=QgH hI hg hf rQ oG;exact⟨UV i1 (JM i2),Py _ i1 pX⟩
theorem Qry{s:SS}{a t:Tm}(hI:DC s)(pW:s.B.length+10100*(mu s+1)<=1000000000)(ha:AL a)(ht:AL t):(GE a t s).2.ev=s.ev:=by
 have hi:=TN hI pW ha ht;unfold GE;simp only;split
 .rfl
 split
 .rfl
 .exact(NP hi).2.1
theorem Qxf{s:SS}{g:Gl}(hI:DC s)(pW:s.B.length+10100*(mu s+1)<=1000000000)(hg:AL g.1)(hb:Q1 g.1.s.toList g.1.ar.length=true):(I5 g s).2.ev=s.ev:=by
 have hd:=GJ _ hg;unfold Q1 at hb;unfold I5;split
 .rfl
 rename_i k1;rw[XA k1]at hb;split
 .rfl
 rename_i k2;rw[XA k2]at hb;split
 .rename_i k3;rw[XA S4,XB k3]at hb;have hl:g.1.ar.length=2:=by simpa using hb
  exact Qry hI pW (hd _ (Ts.at_mem Ya)) (hd _ (Ts.at_mem Ya))
 split
 .unfold M7;simp only;split
  .rfl
  split
  .exact(NP hI).2.1
  .rfl
 split
 .rename_i k5;rw[XA OO,XA OO,XA OO,XB k5]at hb;have hl:g.1.ar.length=3:=by simpa using hb
  unfold MY;simp only;split
  .rfl
  split
  .rfl
  .refine Qry hI pW (hd _ (Ts.at_mem Ya)) ?_;exact Yq
 .exact(NP hI).2.1
theorem QiB(p:List Cl)(vars:Nat)(s:SS)(hI:Inv s)(hp:pB p=true):(BD p vars s).2.ev=s.ev\/∃T l,EC s.B vars 0 200=some (T,l)/\(BD p vars s).2.ev=s.ev++[T.tidy]/\((BD p vars s).1=6↔s.ev.length+1=12):=by
 have sV:p.length<=24/\∀x∈p,cB x=true:=by
  exact R1
 unfold BD
 cases hg:s.goals with
 |nil=>
  simp only;unfold MW
  cases hv:EC s.B vars 0 200 with
  |none=>exact .inl rfl
  |some x=>
   right;refine⟨x.1,x.2,rfl,?_⟩;simp only
   have hi:DC ⟨s.B,s.fresh,s.fuel,s.goals,s.ch,s.ev++[x.1.tidy]⟩:=⟨hI.c.bok,hI.c.gb,hI.c.ch,hI.c.fr,hI.c.bl⟩
   obtain⟨a1,a2,a3⟩:=NP hi;split
   .rename_i uB;refine⟨rfl,fun _=>by simpa using uB,fun _=>rfl⟩
   .rename_i uB;refine⟨a2,fun h=> ?_,fun h=>absurd YY uB⟩;rcases a3 with e|e|e<;>rw[e]at h<;>cases h
 |cons g rest=>
  simp only;split
  .exact NA
  rename_i hf;obtain⟨h1,h2,h3,h4,h5,h6,h7⟩:=UQ hI hg hf;split
  .rename_i hb;exact .inl (Qxf h1 h2 h6 hb)
  .cases hm:p.filter (FC g.1)with
   |nil=>exact .inl rfl
   |cons c cs=>
    simp only;have rQ:∀x∈c::cs,cB x=true:=fun x hx=>sV.2 x Yan
    have oG:(c::cs).length<=24:=by rw[<-hm];exact X9 (J3 _ _) sV.1
    obtain⟨i1,i2⟩:=QgH hI hg hf rQ oG;exact .inl (NP i1).2.1
theorem QtO(p:List Cl)(vars:Nat)(s:SS)(hI:Inv s)(pX:s.ev.length<12)(hp:pB p=true):(BD p vars s).2.ev.length<=12:=by
 rcases QiB p vars s hI hp with h|⟨T,l,_,h,_⟩
 .rw[h];omega
 .rw[h];simp;omega
theorem QgB{q:Ts}{vars fuel:Nat}(hq:qB vars q=true)(hf:fuel<=150):Inv (FU q vars fuel)/\mu (FU q vars fuel)<=3750:=by
 simp only[qB,XI,XO]at hq;have hv:(vars:Int)<=8:=hq.1.1.2;refine⟨⟨⟨trivial,fun x hx=>NH,trivial,by unfold mu FU;simp only[CH];omega,by unfold mu FU;simp only[CH,XP];omega⟩,?_,?_⟩,by unfold mu FU;simp only[CH];omega⟩
 .exact ZI hv Ya Ya (fun g hg=>(by cases hg)) q hq.2
 .exact QhU (rest:=[]) trivial q
section
variable{M:T6}{w0:TG}{H:T0}{F0:T3}{b:Nat}{P:List LC}{pA:T4}{pc vars:Nat}
end
end Go.Proofs.YthliapbflkfdiacGreatDoor
