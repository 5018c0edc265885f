/- Steps of the proof. -/
import Derived.Test.YthliapbflkfdiacGreatDoorG13
set_option linter.unusedVariables false
set_option linter.unusedSimpArgs false
set_option maxRecDepth 100000
set_option maxHeartbeats 1000000
namespace Go.Proofs.YthliapbflkfdiacGreatDoor
open Go.Proofs.Tryz
open Go.RowKit
structure KE where
 k:Int
 A:T4
 c:Nat
 T:TA
def KE.ev(x:KE):Ev:=(x.k,x.T.ts)
abbrev QAi(x:KE):T5:=[.int .i64 x.k,.slice x.A x.T.len x.c]
def KM:List KE->T5
 |[]=>[]
 |x::r=>QAi x++KM r
theorem QyI(a b:List KE):KM (a++b)=KM a++KM b:=by
 induction a with
 |nil=>rfl
 |cons c r ih=>simp[KM,ih]
theorem Qzn(l:List LE):MD l=KM (l.map fun e=>⟨1,e.A,e.c,e.T⟩):=by
 induction l with
 |nil=>rfl
 |cons c r ih=>simp[MD,KM,ih]
def RL(w:TG)(b:Nat):List KE->Nat->Prop
 |[],_=>True
 |x::r,o=>w.cell? ⟨b,o,none⟩=some (.int .i64 x.k)/\w.cell? ⟨b,o+1,none⟩=some (.slice x.A x.T.len x.c)/\RL w b r (o+2)
def K8(L:List KE)(A:T4)(c:Nat)(w:TG):Prop:=L.length<=c/\(0<L.length->∃b o,A=some ⟨b,o,none⟩/\RL w b L o)/\∀x∈L,AV x.A x.c x.T w
theorem RL.skip{w:TG}{b:Nat}{R:List KE}:∀{D:List KE} {o:Nat},RL w b (D++R) o->RL w b R (o+D.length*2)
 |[],o,h=>by simpa using h
 |c::D,o,⟨_,_,h⟩=>by
  have:=RL.skip (R:=R) (D:=D) h
  rwa [show o+2+D.length*2=o+(c::D).length*2 by simp;omega]at this
theorem K8.some_{L:List KE}{A:T4}{c:Nat}{w:TG}(h:K8 L A c w)(hl:0<L.length):∃b o,A=some ⟨b,o,none⟩:=by
 exact Yd9
theorem K8.cells{D R:List KE}{x:KE}{b o c:Nat}{w:TG}(h:K8 (D++x::R) (some ⟨b,o,none⟩) c w):w.cell? ⟨b,o+D.length*2,none⟩=some (.int .i64 x.k)/\w.cell? ⟨b,o+D.length*2+1,none⟩=some (.slice x.A x.T.len x.c):=by
 obtain⟨_,_,e,hs⟩:=h.2.1 Yg;simp only[XU,Xay,VX]at e;obtain⟨rfl,rfl⟩:=e;obtain⟨h0,h1,_⟩:=hs.skip;exact⟨h0,h1⟩
theorem QpV{w:TG}{b:Nat}:∀{L:List KE} {o:Nat},(∀j u,(KM L)[j]?=some u->w.cell? ⟨b,o+j,none⟩=some u)->RL w b L o
 |[],_,_=>trivial
 | c :: r, o, h => ⟨h 0 _ rfl, h 1 _ rfl, QpV fun j u hu => by
     rw[show o+2+j=o+(j+2) by omega]
     exact h (j+2) u (by simpa[KM]using hu)⟩
theorem St.freezeK{M:T6}{w0 w:TG}{H O:T0}{F:T3}{el:Nat}{A:T4}{c:Nat}{L:List KE}(hr:Row el 2 (.slice A L.length c) L.length (KM L) O)(hR:∀x∈L,AB F (AV x.A x.c x.T))(hS:St M w0 (O++H) F w):
  ∃F',(∀φ∈F,φ∈F')/\AB F' (K8 L A c)/\St M w0 H F' w:=by
 obtain⟨F',h1,h2,h3⟩:=St.freezeL hS;refine⟨F',h1,fun w' Cn=>⟨hr.cap,fun hl=> ?_,fun x hx=>(hR x hx).mono h1 w' Cn⟩,h3⟩;obtain⟨g,sp,rfl,rfl,_⟩:=hr.some_ hl;refine⟨g,0,rfl,QpV fun j u hu=> ?_⟩
 have tX:j<(KM L).length:=by
  rcases XY j (KM L).length with hh|hh
  .exact hh
  .rw[XX hh]at hu;cases hu
 exact YbR
section
variable{M:T6}{w0:TG}{H:T0}{F:T3}
theorem QnK(p:List Cl)(vars n:Nat)(s:SS):GL p vars (n+1) s=if(BD p vars s).1=0 then GL p vars n (BD p vars s).2 else FD (BD p vars s).2.ev++[((BD p vars s).1,.nil)]:=rfl
end
def NE(V:Int)(t:Tm):Prop:=(Ts.cons t.k t.n t.s t.ar .nil).good V=true
theorem good_one(V:Int)(k n:Int)(s:TJ)(a r:Ts):(Ts.cons k n s a r).good V=((Ts.cons k n s a .nil).good V&&r.good V):=by simp[Ts.good]
theorem Qog{V:Int}{g:Tm->Nat->Option (Tm×Nat)}(hg:∀t l p,NE V t->g t l=some p->NE V p.1):∀(T:Ts) (l:Nat) (p:Ts×Nat),T.good V=true->FW g T l=some p->p.1.good V=true/\p.1.length=T.length
 | .nil,l,p,_,h=>by
  simp only[FW,XU]at h;subst h;exact FI
 | .cons k n s a r,l,p,hT,h=>by
  rw[good_one,XI]at hT;rw[QjW]at h
  cases h1:g ⟨k,n,s,a⟩ l with
  |none=>rw[h1]at h;cases h
  |some q=>
   rw[h1,VU]at h
   cases h2:FW g r q.2 with
   |none=>rw[h2]at h;cases h
   |some x=>
    rw[h2,X7,XU]at h;subst h;obtain⟨i1,i2⟩:=Qog hg r q.2 x hT.2 h2;have:=hg ⟨k,n,s,a⟩ l q hT.1 h1;refine⟨?_,by simp only[Ts.length,i2]⟩;rw[good_one,XI];exact⟨this,i1⟩
theorem QrN{V:Int}{B:AC}(hB:∀x∈B,NE V x.2):∀(f:Nat) (t:Tm) (l:Nat) (p:Tm×Nat),NE V t->GP B f t l=some p->NE V p.1
 |0,t,l,p,_,h=>by cases h
 |f+1,t,l,p,ht,h=>by
  have hl:=LN (Q:=NE V) hB ht;rw[Qkn]at h;by_cases h0:l=0
  .rw[XB h0]at h;cases h
  .rw[XA h0]at h
   cases h1:FW (GP B f) (Qc B t).ar (l-1)with
   |none=>rw[h1]at h;cases h
   |some q=>
    rw[h1,X7,XU]at h;subst h;unfold NE at hl⊢;simp only[Ts.good,XI]at hl⊢;obtain⟨i1,i2⟩:=Qog (fun t l p h1 h2=>QrN hB f t l p h1 h2) _ _ _ hl.1.2 h1;exact⟨⟨by rw[i2];exact hl.1.1,i1⟩,trivial⟩
theorem QkU{B:AC}(hB:∀x∈B,NE 549755813888 x.2):∀(m v l:Nat) (p:Ts×Nat),v+m<=1000->EC B m v l=some p->p.1.good 549755813888=true
 |0,v,l,p,_,h=>by
  simp only[EC,XU]at h;subst h;rfl
 | m + 1, v, l, p, hv, h => by
  rw[Qhn]at h
  cases h1:GP B 201 ⟨0,v,⟨#[]⟩,.nil⟩ l with
  |none=>rw[h1]at h;cases h
  |some q=>
   rw[h1,VU]at h
   cases h2:EC B m (v+1) q.2 with
   |none=>rw[h2]at h;cases h
   |some x=>
    rw[h2,X7,XU]at h;subst h
    have h3:NE 549755813888 ⟨0,v,⟨#[]⟩,.nil⟩:=by
     unfold NE;exact YbY
    have:=QrN hB 201 _ l q h3 h1;show(Ts.cons _ _ _ _ x.1).good _=true;rw[good_one,XI];exact⟨this,QkU hB m (v+1) q.2 x Ya h2⟩
theorem QyD(ks:T7)(n:Int):(H8 ks n).length<=ks.length+1/\ks.length<=(H8 ks n).length:=by
 unfold H8;split
 .omega
 .simp
theorem QyC(ks:T7)(n:Int):0<=KG ks n/\KG ks n<=ks.length:=by
 unfold KG
 cases h:pos n ks with
 |none=>simp
 |some j=>have:=Qxy h;simp;omega
theorem QtH{V:Int}(u:Nat)(T:Ts):∀ks:T7,T.good V=true->ks.length+T.nodes<=u->(T.tidyFrom ks).1.good u=true/\(T.tidyFrom ks).2.length<=ks.length+T.nodes/\(T.tidyFrom ks).1.length=T.length/\(T.tidyFrom ks).1.nodes=T.nodes:=by
 induction T with
 |nil=>intro ks _ _;exact⟨rfl,XF _,rfl,rfl⟩
 |cons k n s ar r rO qO=>
  intro ks hg hu;simp only[Ts.good,XI]at hg;simp only[Ts.nodes]at hu
  have hl:(tS k n ks).length<=ks.length+1:=by
   unfold tS;split
   .exact(QyD ks n).1
   .omega
  obtain⟨a1,_,a3,a4⟩:=rO (tS k n ks) hg.1.2 Ya;obtain⟨b1,_,b3,b4⟩:=qO (ar.tidyFrom (tS k n ks)).2 hg.2 Ya;rw[Ts.tidyFrom_cons];refine⟨?_,?_,?_,?_⟩
  .simp only[Ts.good,XI];refine⟨⟨?_,a1⟩,b1⟩;rw[a3];have hn:=hg.1.1;unfold CL at hn⊢;unfold tV;by_cases e:k=0
   .rw[XB e]at hn⊢;rw[XB e];simp only[XI,XO]at hn⊢;have:=QyC ks n;exact⟨⟨⟨this.1,by omega⟩,hn.1.2⟩,hn.2⟩
   .rw[XA e]at hn⊢;rw[XA e];exact hn
  .exact KD
  .simp only[Ts.length,b3]
  .simp only[Ts.nodes,a4,b4]
def Qxo(vars:Nat)(T:Ts):Prop:=T.length=vars/\T.nodes<=200/\T.good 200=true
theorem Qzu{s:SS}{vars:Nat}(hI:DC s)(hv:vars<=8){T:Ts}{l:Nat}(h:EC s.B vars 0 200=some (T,l)):Qxo vars T.tidy:=by
 obtain⟨h1,h2⟩:=Qi8 _ _ _ _ h;have h3:=QkU (fun x hx=>(hI.gb x hx).1) vars 0 200 _ Ya h;dsimp only at h1 h2 h3;obtain⟨g1,_,g3,_⟩:=QtH 200 T [] h3 Yg;exact⟨g3.trans h2,by show(T.tidyFrom []).1.nodes<=200;omega,g1⟩
theorem QfF{s:SS}(h:DC s):(Q9 s).1=0\/(Q9 s).1=2\/(Q9 s).1=4:=(NP h).2.2
theorem QlQ{s:SS}{a t:Tm}(hI:DC s)(pW:s.B.length+10100*(mu s+1)<=1000000000)(ha:AL a)(ht:AL t):(GE a t s).1=0\/(GE a t s).1=2\/(GE a t s).1=4:=by
 have hi:=TN hI pW ha ht;unfold GE;simp only;split
 .exact .inr (.inr rfl)
 split
 .exact NA
 .exact QfF hi
structure Qzz(vars:Nat)(s:SS)(r:List Ev)(l:List Ts)(k:Int):Prop where
 eq:r=FD l++[(k,.nil)]
 ans:∀T∈l,Qxo vars T
 kind:2<=k/\k<=6
 more:∃m,l=s.ev++m
 six:(k=6↔l.length=12)/\l.length<=12
theorem Qws (p : List Cl) (vars : Nat) (s : SS) (hI : Inv s) (pX : s.ev.length < 12) (hp : pB p = true) : (BD p vars s).1 = 6 ↔ (BD p vars s).2.ev.length = 12 := by
 rcases QiB p vars s hI hp with h|⟨T,l,hv,h,h6⟩
 .rw [h];constructor
  .intro e;exfalso
   -- no step but an answer ends so
   have sV:p.length<=24/\∀x∈p,cB x=true:=by
    exact R1
   unfold BD at e h
   cases hg:s.goals with
   |nil=>
    rw[hg]at e h;simp only at e h;unfold MW at e h
    cases hv:EC s.B vars 0 200 with
    |none=>rw[hv]at e;cases e
    |some x=>
     rw[hv]at e h;simp only at e h
     have hi:DC ⟨s.B,s.fresh,s.fuel,s.goals,s.ch,s.ev++[x.1.tidy]⟩:=⟨hI.c.bok,hI.c.gb,hI.c.ch,hI.c.fr,hI.c.bl⟩
     split at h
     .have:=XM List.length h;simp at this
     .rw[(NP hi).2.1]at h;have:=XM List.length h;simp at this
   |cons g rest=>
    rw[hg]at e;simp only at e;split at e
    .cases e
    rename_i hf;obtain⟨h1,h2,h3,h4,h5,h6,h7⟩:=UQ hI hg hf;split at e
    .rename_i hb;have hd:=GJ _ h6;unfold Q1 at hb;unfold I5 at e;split at e
     .cases e
     rename_i k1;rw[XA k1]at hb;split at e
     .cases e
     rename_i k2;rw[XA k2]at hb;split at e
     .rename_i k3;rw[XA S4,XB k3]at hb;have hl:g.1.ar.length=2:=by simpa using hb
      rcases QlQ h1 h2 (hd _ (Ts.at_mem (i:=0) Ya)) (hd _ (Ts.at_mem (i:=1) Ya))with q|q|q<;>rw[q]at e<;>cases e
     split at e
     .unfold M7 at e;simp only at e;split at e
      .cases e
      split at e
      .rcases QfF h1 with q|q|q<;>rw[q]at e<;>cases e
      .cases e
     split at e
     .rename_i k5;rw[XA OO,XA OO,XA OO,XB k5]at hb;have hl:g.1.ar.length=3:=by simpa using hb
      unfold MY at e;simp only at e;split at e
      .cases e
      split at e
      .cases e
      .rename_i hr
       have tn:AL ⟨2,(Qc s.B (g.1.ar.at_ 0)).n+(Qc s.B (g.1.ar.at_ 1)).n,⟨#[]⟩,.nil⟩:=by
        exact Yq
       rcases QlQ h1 h2 (hd _ (Ts.at_mem (i:=2) Ya)) tn with q|q|q<;>rw[q]at e<;>cases e
     .rcases QfF h1 with q|q|q<;>rw[q]at e<;>cases e
    .cases hm:p.filter (FC g.1)with
     |nil=>rw[hm]at e;cases e
     |cons c cs=>
      rw[hm]at e;simp only at e;have rQ:∀x∈c::cs,cB x=true:=fun x hx=>sV.2 x Yan
      have oG:(c::cs).length<=24:=by rw[<-hm];exact X9 (J3 _ _) sV.1
      obtain⟨i1,i2⟩:=QgH hI hg hf rQ oG;rcases QfF i1 with q|q|q<;>rw[q]at e<;>cases e
  .intro e;omega
 .rw[h6,h];simp
theorem Qxt(p:List Cl)(vars:Nat)(hp:pB p=true)(hv:vars<=8):∀(n:Nat) (s:SS),Inv s->s.ev.length<12->mu s<n->(∀T∈s.ev,Qxo vars T)->∃l k,Qzz vars s (GL p vars n s) l k
 |0,s,_,_,h,_=>by omega
 | n + 1, s, hI, pX, Pw, ha => by
  obtain⟨oM,Dk⟩:=UE (vars:=vars) hI pX hp;have Zy:=Qws p vars s hI pX hp;have oW:=QtO p vars s hI pX hp
  have Bb:∃m,(BD p vars s).2.ev=s.ev++m:=by
   rcases QiB p vars s hI hp with h|⟨T,l,_,h,_⟩
   .exact⟨[],by rw[h];simp⟩
   .exact⟨[T.tidy],h⟩
  have Fs:∀T∈(BD p vars s).2.ev,Qxo vars T:=by
   rcases QiB p vars s hI hp with h|⟨T,l,hT,h,_⟩
   .rw[h];exact ha
   .rw[h];intro X hX;rcases VG.1 hX with hX|hX
    .exact ha X hX
    .obtain rfl:X=T.tidy:=by simpa using hX
     exact Qzu hI.c hv hT
  rw[QnK];by_cases h0:(BD p vars s).1=0
  .rw[XB h0];obtain⟨l,k,hr⟩:=Qxt p vars hp hv n _ (oM.go h0).1 (Dk h0) (by have:=(oM.go h0).2;omega) Fs;obtain⟨m1,e1⟩:=Bb;obtain⟨m2,e2⟩:=hr.more;exact⟨l,k,hr.eq,hr.ans,hr.kind,⟨m1++m2,by rw[e2,e1,VB]⟩,hr.six⟩
  .rw[XA h0];have hk:=oM.kind;exact⟨_,_,rfl,Fs,by omega,Bb,Zy,oW⟩
theorem QxW{p:List Cl}{q:Ts}{vars fuel:Int}(h:(CK p q vars fuel).2=0):pB p=true/\qB vars q=true/\0<=vars/\vars<=8/\0<=fuel/\fuel<=150/\CK p q vars fuel=(GL p vars.toNat 4000 (FU q vars.toNat fuel.toNat),0)/\Inv (FU q vars.toNat fuel.toNat)/\mu (FU q vars.toNat fuel.toNat)<=3750:=by
 unfold CK at h⊢;split at h
 .cases h
 rename_i h1;split at h
 .cases h
 rename_i h2
 have hp:pB p=true:=by cases hb:pB p with
  |true=>rfl
  |false=>exact absurd (.inl hb) h1
 have hq:qB vars q=true:=by cases hb:qB vars q with
  |true=>rfl
  |false=>exact absurd (.inr hb) h1
 have Bz:=hq;simp only[qB,XI,XO]at Bz;rw[XA h1,XA h2];obtain⟨i1,i2⟩:=QgB (q:=q) (vars:=vars.toNat) (fuel:=fuel.toNat) (by rw[XaN Bz.1.1.1];exact hq) Ya;exact⟨hp,hq,by omega,by omega,by omega,by omega,rfl,i1,i2⟩
theorem QhW{p:List Cl}{q:Ts}{vars fuel:Int}(h:(CK p q vars fuel).2=0):∃l k,Qzz vars.toNat (FU q vars.toNat fuel.toNat) (CK p q vars fuel).1 l k:=by
 obtain⟨hp,_,_,_,_,_,e,hI,hm⟩:=QxW h;rw[e];exact Qxt p vars.toNat hp Ya 4000 _ hI (by simp[FU]) Ya (fun T hT=>by simp[FU]at hT)
theorem Qqh{p:List Cl}{q:Ts}{vars fuel:Int}(h:(CK p q vars fuel).2≠0):(CK p q vars fuel).1=[]:=by
 unfold CK at h⊢;split
 .rfl
 split
 .rfl
 .rename_i h1 h2;rw[XA h1,XA h2]at h;exact absurd rfl h
def Ts.brief:Ts->Prop
 | .nil=>True
 | .cons k n s a r=>s.size<=2000/\a.brief/\r.brief
def D0(t:Tm):Prop:=t.s.size<=2000/\t.ar.brief
theorem QoQ{x:Tm}:∀{T:Ts},T.brief->T.Mem x->D0 x
 | .cons k n s a r,h,hx=>by
  rcases hx with rfl|hx
  .exact⟨h.1,h.2.1⟩
  .exact QoQ h.2.2 hx
theorem QrG:Qz2 D0:=fun t h x hx=>QoQ h.2 hx
theorem Qp9(m:Int)(T:Ts):T.brief->(T.shift m).brief:=by
 induction T with
 |nil=>intro _;exact trivial
 |cons k n s a r rO qO=>intro h;rw[Ts.shift_cons];exact⟨h.1,rO h.2.1,qO h.2.2⟩
theorem QoR{t:Tm}{m:Int}(h:D0 t):D0 (t.shift m):=⟨h.1,Qp9 m _ h.2⟩
theorem Qs5(T:Ts):∀ks:T7,T.brief->(T.tidyFrom ks).1.brief:=by
 induction T with
 |nil=>intro ks _;exact trivial
 |cons k n s a r rO qO=>intro ks h;rw[Ts.tidyFrom_cons];exact⟨h.1,rO _ h.2.1,qO _ h.2.2⟩
theorem Qvw(k n:Int):D0 ⟨k,n,⟨#[]⟩,.nil⟩:=⟨by show(0:Nat)<=2000;omega,trivial⟩
def NZ(c:Cl):Prop:=D0 c.head/\c.bd.brief
structure Br(s:SS):Prop where
 B:∀x∈s.B,D0 x.2
 goals:∀g∈s.goals,D0 g.1
 ch:∀h∈s.ch,D0 h.g.1/\(∀g∈h.next,D0 g.1)/\∀c∈h.cls,NZ c
 ev:∀T∈s.ev,T.brief
theorem Qqa{m:Int}{o:Nat}{rest:List Gl}(hr:∀g∈rest,D0 g.1):∀T:Ts,T.brief->∀g∈ID T m o rest,D0 g.1
 | .nil,_=>hr
 | .cons k n s a r,h=>by
  intro g hg;rcases XV.1 hg with rfl|hg
  .exact QoR (t:=⟨k,n,s,a⟩) ⟨h.1,h.2.1⟩
  .exact Qqa hr r h.2.2 g hg
theorem Qyd{B:AC}{n:Nat}(h:∀x∈B,D0 x.2):∀x∈CG B n,D0 x.2:=fun x hx=>h x (JJ hx)
theorem Qzi{h:Ch}{cl:Cl}{more:List Cl}{cs:List Ch}(hc:∀x∈h::cs,D0 x.g.1/\(∀g∈x.next,D0 g.1)/\∀c∈x.cls,NZ c)(h2:h.cls=cl::more):∀x∈C5 h more cs,D0 x.g.1/\(∀g∈x.next,D0 g.1)/\∀c∈x.cls,NZ c:=by
 intro x hx
 cases more with
 |nil=>exact hc x (.tail _ hx)
 |cons m ms=>
  rcases XV.1 hx with rfl|hx
  .exact⟨(hc h (.head _)).1,(hc h (.head _)).2.1,fun y hy=>(hc h (.head _)).2.2 y (by rw[h2];exact .tail _ hy)⟩
  .exact hc x (.tail _ hx)
theorem QqV:∀(n:Nat) (s:SS),Br s->Br (D5 n s).2
 |0,s,h=>h
 |n+1,s,h=>by
  cases h1:s.ch with
  |nil=>
   have e1:D5 (n+1) s=(2,s):=by unfold D5;rw[h1]
   rw[e1];exact h
  |cons x xs=>
   cases h2:x.cls with
   |nil=>
    have e1:D5 (n+1) s=(2,s):=by unfold D5;rw[h1];simp only;rw[h2]
    rw[e1];exact h
   |cons cl more=>
    have hc:=h.ch;rw[h1]at hc;have Km:=Qzi hc h2;obtain⟨Co,rR,Zz⟩:=hc x (.head _);have pJ:=Zz cl (by rw[h2];exact .head _);have hu:=Z1 QrG 401 (cl.head.shift s.fresh) x.g.1 (CG s.B x.bound) 0 (Qyd h.B) (QoR pJ.1) Co;rw[Qek h1 h2];split
    .exact⟨hu,h.goals,Km,h.ev⟩
    split
    .exact⟨hu,Qqa rR _ pJ.2,Km,h.ev⟩
    .exact QqV n _ ⟨hu,h.goals,Km,h.ev⟩
theorem Qhc{s:SS}(h:Br s):Br (Q9 s).2:=QqV _ s h
theorem Qrz{s:SS}{a t:Tm}(ha:D0 a)(ht:D0 t)(h:Br s):Br (GE a t s).2:=by
 have hu:=Z1 QrG 401 a t s.B 0 h.B ha ht;unfold GE;simp only;split
 .exact⟨hu,h.goals,h.ch,h.ev⟩
 split
 .exact⟨hu,h.goals,h.ch,h.ev⟩
 .exact Qhc ⟨hu,h.goals,h.ch,h.ev⟩
theorem Qxi:∀{T:Ts} (i:Nat),T.brief->D0 (T.at_ i)
 | .nil,i,_=>Qvw 0 0
 | .cons k n s a r,0,h=>⟨h.1,h.2.1⟩
 | .cons k n s a r,i+1,h=>Qxi (T:=r) i h.2.2
theorem Qxg{s:SS}{g:Gl}(hg:D0 g.1)(h:Br s):Br (I5 g s).2:=by
 unfold I5;split
 .exact⟨h.B,h.goals,fun x hx=>h.ch x (JJ hx),h.ev⟩
 split
 .exact h
 split
 .exact Qrz (Qxi 0 hg.2) (Qxi 1 hg.2) h
 split
 .unfold M7;simp only;split
  .exact h
  split
  .exact Qhc h
  .exact h
 split
 .unfold MY;simp only;split
  .exact h
  split
  .exact h
  .exact Qrz (Qxi 2 hg.2) (Qvw 2 _) h
 .exact Qhc h
theorem QuI{g:Tm->Nat->Option (Tm×Nat)}(hg:∀t l p,D0 t->g t l=some p->D0 p.1):∀(T:Ts) (l:Nat) (p:Ts×Nat),T.brief->FW g T l=some p->p.1.brief
 | .nil,l,p,_,h=>by
  simp only[FW,XU]at h;subst h;exact trivial
 | .cons k n s a r,l,p,hT,h=>by
  rw[QjW]at h
  cases h1:g ⟨k,n,s,a⟩ l with
  |none=>rw[h1]at h;cases h
  |some q=>
   rw[h1,VU]at h
   cases h2:FW g r q.2 with
   |none=>rw[h2]at h;cases h
   |some x=>
    rw[h2,X7,XU]at h;subst h;have:=hg ⟨k,n,s,a⟩ l q ⟨hT.1,hT.2.1⟩ h1;exact⟨this.1,this.2,QuI hg r q.2 x hT.2.2 h2⟩
theorem QxS{B:AC}(hB:∀x∈B,D0 x.2):∀(f:Nat) (t:Tm) (l:Nat) (p:Tm×Nat),D0 t->GP B f t l=some p->D0 p.1
 |0,t,l,p,_,h=>by cases h
 |f+1,t,l,p,ht,h=>by
  have hl:=LN (Q:=D0) hB ht;rw[Qkn]at h;by_cases h0:l=0
  .rw[XB h0]at h;cases h
  .rw[XA h0]at h
   cases h1:FW (GP B f) (Qc B t).ar (l-1)with
   |none=>rw[h1]at h;cases h
   |some q=>
    rw[h1,X7,XU]at h;subst h;exact⟨hl.1,QuI (fun t l p h1 h2=>QxS hB f t l p h1 h2) _ _ _ hl.2 h1⟩
theorem Qqt{B:AC}(hB:∀x∈B,D0 x.2):∀(m v l:Nat) (p:Ts×Nat),EC B m v l=some p->p.1.brief
 |0,v,l,p,h=>by
  simp only[EC,XU]at h;subst h;exact trivial
 |m+1,v,l,p,h=>by
  rw[Qhn]at h
  cases h1:GP B 201 ⟨0,v,⟨#[]⟩,.nil⟩ l with
  |none=>rw[h1]at h;cases h
  |some q=>
   rw[h1,VU]at h
   cases h2:EC B m (v+1) q.2 with
   |none=>rw[h2]at h;cases h
   |some x=>
    rw[h2,X7,XU]at h;subst h;have:=QxS hB 201 _ l q (Qvw 0 v) h1;exact⟨this.1,this.2,Qqt hB m (v+1) q.2 x h2⟩
theorem Qyk{p:List Cl}{vars:Nat}{s:SS}(hp:∀x∈p,NZ x)(h:Br s):Br (BD p vars s).2:=by
 unfold BD
 cases hg:s.goals with
 |nil=>
  simp only;unfold MW
  cases hv:EC s.B vars 0 200 with
  |none=>exact h
  |some x=>
   have pX:∀T∈s.ev++[x.1.tidy],T.brief:=fun T hT=>by
    rcases VG.1 hT with hT|hT
    .exact h.ev T hT
    .rw[VJ.1 hT];exact Qs5 _ _ (Qqt h.B _ _ _ _ hv)
   simp only;split
   .exact⟨h.B,by simp[hg],h.ch,pX⟩
   .exact Qhc ⟨h.B,by simp[hg],h.ch,pX⟩
 |cons g rest=>
  simp only;have yG:=h.goals;rw[hg]at yG;have Gy:=yG g (.head _);have qH:∀x∈rest,D0 x.1:=fun x hx=>yG x (.tail _ hx);split
  .exact h
  split
  .exact Qxg Gy ⟨h.B,qH,h.ch,h.ev⟩
  .cases hm:p.filter (FC g.1)with
   |nil=>exact⟨h.B,qH,h.ch,h.ev⟩
   |cons x xs=>
    refine Qhc ⟨h.B,qH,fun y hy=> ?_,h.ev⟩;rcases XV.1 hy with rfl|hy
    .exact⟨Gy,qH,fun z hz=>hp z (by rw[<-hm]at hz;exact(JK.1 hz).1)⟩
    .exact h.ch y hy
theorem Qxv{p:List Cl}{vars:Nat}(hp:∀x∈p,NZ x):∀(n:Nat) (s:SS),Br s->∀e∈GL p vars n s,e.2.brief
 |0,s,_,e,he=>by cases he
 |n+1,s,h,e,he=>by
  have h1:=Qyk (vars:=vars) hp h;rw[QnK]at he;split at he
  .exact Qxv hp n _ h1 e he
  .rcases VG.1 he with he|he
   .obtain⟨T,hT,rfl⟩:=X3.1 he;exact h1.ev T hT
   .rw[VJ.1 he];exact trivial
theorem Qzw{p:List Cl}{q:Ts}{vars fuel:Int}(hp:∀x∈p,NZ x)(hq:q.brief):∀e∈(CK p q vars fuel).1,e.2.brief:=by
 unfold CK;split
 .intro e he;cases he
 split
 .intro e he;cases he
 .exact Qxv hp _ _ ⟨fun x hx=>NH,Qqa (fun g hg=>by cases hg) q hq,fun x hx=>NH,fun x hx=>NH⟩
def GM(p:PS):Prop:=∀x∈p.l,x.length<=2000
def BrF(f:PS->Nd×PS):Prop:=∀p,GM p->(f p).1.s.length<=2000/\(f p).1.ar.brief/\GM (f p).2
theorem GM.pop{p:PS}(h:GM p):GM p.pop:=fun x hx=>h x (List.mem_of_mem_tail hx)
theorem GM.close{p:PS}(h:GM p)(t:AA):GM (p.close t):=by
 unfold PS.close;split
 .exact h
 split
 .exact h.pop
 .exact h
theorem Qlm{f:PS->Nd×PS}(hf:BrF f):∀(n:Nat) (p:PS),GM p->(AJ (QL f n p).1).brief/\GM (QL f n p).2
 |0,p,h=>⟨trivial,h⟩
 |n+1,p,h=>by
  unfold QL;split
  .obtain⟨a1,a2,a3⟩:=hf p.pop h.pop;obtain⟨b1,b2⟩:=Qlm hf n _ a3;exact⟨⟨by rw[GY];exact a1,a2,b1⟩,b2⟩
  .exact⟨trivial,h⟩
theorem Qgc{f:PS->Nd×PS}(hf:BrF f)(t:AA)(p:PS)(h:GM p):(AJ (QO f t p).1).brief/\GM (QO f t p).2:=by
 unfold QO;obtain⟨a1,a2,a3⟩:=hf p h;obtain⟨b1,b2⟩:=Qlm hf (f p).2.l.length _ a3;exact⟨⟨by rw[GY];exact a1,a2,b1⟩,b2.close t⟩
theorem Qzc{p:PS}(h:GM p)(x:AA):GM (p.var x).2:=by
 unfold PS.var;split
 .exact h
 .exact h
theorem Qfs:∀d,BrF (Ql d)
 |0,p,h=>⟨by simp[Ql,Nd.zero],trivial,h⟩
 |d+1,p,h=>by
  unfold Ql;split
  .exact Ydb
  .exact Ydb
  .rename_i c r q hl;have hw:(c::r).length<=2000:=h (c::r) (by rw[hl];exact .head _);split
   .exact⟨by simp,trivial,h.pop⟩
   split
   .exact⟨by simp,trivial,Qzc h.pop _⟩
   split
   .exact⟨by simp,trivial,h.pop⟩
   split
   .exact Ydb
   split
   .obtain⟨b1,b2⟩:=Qgc (Qfs d) [41] p.pop.pop h.pop.pop;exact⟨hw,b1,b2⟩
   .exact⟨hw,trivial,h.pop⟩
theorem QeR(L:Nat):∀(n:Nat) (l:AA),l.length<=L->∀x∈KB n l,x.length<=L
 |0,l,h,x,hx=>by simp[KB]at hx
 |n+1,[],h,x,hx=>by simp[KB]at hx
 |n+1,c::r,h,x,hx=>by
  simp only[XJ]at h;simp only[KB]at hx;split at hx
  .exact QeR L n r Ya x hx
  split at hx
  .rw[VJ.1 hx];simp
  .rcases XV.1 hx with rfl|hx
   .rw[VV];simp only[XJ];omega
   .exact QeR L n _ (by rw[V0];simp only[XJ];omega) x hx
theorem QqM{l:AA}(h:l.length<=2000):GM (PS.start l):=fun x hx=>QeR 2000 _ l h x hx
theorem Qsv(p:PS)(h:GM p):(AJ (Q5 p).1).brief/\GM (Q5 p).2:=by
 unfold Q5;split
 .exact Qgc (Qfs 24) [46] p.pop h.pop
 .exact⟨trivial,h.close _⟩
theorem QnO(p:PS)(h:GM p):NZ (Qv p).1/\GM (Qv p).2:=by
 obtain⟨a1,a2,a3⟩:=Qfs 24 { p with vars:=[] } h;obtain⟨b1,b2⟩:=Qsv _ a3;exact⟨⟨⟨by show(⟨_⟩:TJ).size<=2000;rw[GY];exact a1,a2⟩,b1⟩,b2⟩
theorem Qh9:∀(n:Nat) (p:PS) (L:List Cl),GM p->FE n p=some L->∀c∈L,cB c=true/\NZ c
 |0,p,L,_,h,c,hc=>by
  simp only[FE,XU]at h;subst h;cases hc
 | n + 1, p, L, hp, h, c, hc => by
  unfold FE at h;split at h
  .simp only[XU]at h;subst h;cases hc
  split at h
  .cases h
  .rename_i hb;obtain⟨b1,b2⟩:=QnO p hp
   cases hr:FE n (Qv p).2 with
   |none=>rw[hr]at h;cases h
   |some K=>
    rw[hr]at h;simp only[X7,XU]at h;subst h;rcases XV.1 hc with rfl|hc
    .refine⟨?_,b1⟩
     cases Ib:cB (Qv p).1 with
     |true=>rfl
     |false=>exact absurd (.inr Ib) hb
    .exact Qh9 n _ K b2 hr c hc
theorem Qlq{l:AA}(h:(QC QX l).2=0):pB (QC QX l).1=true/\∀c∈(QC QX l).1,NZ c:=by
 rw[QjN]at h⊢;unfold QF at h⊢;by_cases hl:2000<l.length
 .rw[XB hl]at h;cases h
 rw[XA hl]at h⊢
 cases hr:FE (PS.start l).l.length (PS.start l)with
 |none=>rw[hr]at h;cases h
 |some L=>
  rw[hr]at h;dsimp only at h⊢;by_cases zP:24<L.length
  .rw[XB zP]at h;cases h
  rw[XA zP];have hg:=Qh9 _ _ L (QqM Ya) hr;refine⟨?_,fun c hc=>(hg c hc).2⟩;unfold pB;simp only[XI,XO,VK];exact⟨by omega,fun c hc=>(hg c hc).1⟩
theorem QqY{l:AA}(h:(QM QX l).2.2=0):qB ((QM QX l).2.1:Nat) (QM QX l).1=true/\(QM QX l).1.brief/\0<(QM QX l).1.length:=by
 rw[QjL]at h⊢;unfold MU at h⊢;by_cases hl:2000<l.length
 .rw[XB hl]at h;cases h
 rw[XA hl]at h⊢;dsimp only at h⊢;split
 .rename_i hb;rw[XB hb]at h;cases h
 .rename_i hb;obtain⟨b1,_⟩:=Qgc (Qfs 24) [46] (PS.start l) (QqM Ya);refine⟨?_,b1,?_⟩
  .cases hq:qB ((QJ (PS.start l)).2.vars.length:Nat) (AJ (QJ (PS.start l)).1)with
   |true=>rfl
   |false=>exact absurd (.inr (.inr hq)) hb
  .unfold QJ QO;simp only[AJ,Ts.length];omega
open Go.Shelf
def SN(e:Ev):AA:=CS e.1 e.2
def FF(p q:AA)(fuel every:Int):List AA×Int:=
 if(QC QX p).2≠0 then([],(QC QX p).2)
 else if(QM QX q).2.2≠0 then([],(QM QX q).2.2)
 else if every<0 then([],2)
 else if(CK (QC QX p).1 (QM QX q).1 ((QM QX q).2.1:Nat) fuel).2≠0 then([],(CK (QC QX p).1 (QM QX q).1 ((QM QX q).2.1:Nat) fuel).2)
 else((CK (QC QX p).1 (QM QX q).1 ((QM QX q).2.1:Nat) fuel).1.map SN,0)
theorem Qj5{v:Nat}(hv:v<=1000000):∀T:Ts,T.good v=true->FA T
 | .nil,_=>trivial
 | .cons k n s a r,h=>by
  simp only[Ts.good,XI]at h;refine⟨?_,Qj5 hv a h.1.2,Qj5 hv r h.2⟩;have:=h.1.1;unfold CL at this;split at this
  .exact YcY
  split at this
  .exact YcY
  split at this
  .exact YcY
  split at this
  .exact YcY
  .cases this
theorem QsK(k n:Int)(s:TJ)(hn: -9223372036854775808<=n/\n<=9223372036854775807)(hs:s.size<=2000):(DV k n s.data.toList).length<=2000:=by
 unfold DV;split
 .unfold IM;split<;>simp
 split
 .have:=XaO n hn.1 hn.2;omega
 split
 .rw[ZD];exact hs
 .simp
theorem Qmn:∀(T:Ts) (c:Bool),T.brief->FA T->(CU c T).length<=T.nodes*2003
 | .nil,c,_,_=>by simp[CU]
 | .cons k n s a r,c,hb,hr=>by
  have h1:=QsK k n s hr.1 hb.1;have h2:=Qmn a false hb.2.1 hr.2.1;have h3:=Qmn r true hb.2.2 hr.2.2;simp only[CU,XG,Ts.nodes]
  have h4:(if c=true then([44]:AA)else[]).length<=1:=by split<;>simp
  have h5:(if E5 k a=true then(40::(CU false a++[41]):AA)else[]).length<=(CU false a).length+2:=by split<;>simp
  omega
theorem Qqu:∀(i:Nat) (T:Ts),T.brief->FA T->i+T.length<=1000000->(DL i T).length<=T.nodes*2030
 |i,.nil,_,_,_=>by simp[DL]
 |i,.cons k n s a r,hb,hr,hi=>by
  simp only[Ts.length]at hi;have h1:=Qmn (.cons k n s a .nil) false ⟨hb.1,hb.2.1,trivial⟩ ⟨hr.1,hr.2.1,trivial⟩;have h2:=Qqu (i+1) r hb.2.2 hr.2.2 Ya;have h3:=XaO (i:Nat) Ya Ya;simp only[DL,XG,XJ,XP,Ts.nodes]at h1⊢;omega
theorem QlW{P:List Cl}{q:Ts}{vars fuel:Int}(hp:∀c∈P,NZ c)(hq:q.brief):∀e∈(CK P q vars fuel).1,e.2.nodes<=200/\FA e.2/\e.2.brief/\(SN e).length<=1000000:=by
 intro e he;have hb:=Qzw hp hq e he;by_cases h0:(CK P q vars fuel).2=0
 .obtain⟨l,k,hr⟩:=QhW h0;rw[hr.eq]at he
  have key:e.2.nodes<=200/\FA e.2:=by
   rcases VG.1 he with he|he
   .obtain⟨T,hT,rfl⟩:=X3.1 he;have:=hr.ans T hT;exact⟨this.2.1,Qj5 (v:=200) Ya T this.2.2⟩
   .rw[VJ.1 he];exact⟨by simp[Ts.nodes],trivial⟩
  refine⟨key.1,key.2,hb,?_⟩;have hl:=e.2.length_le;have hv:=Qqu 0 e.2 hb key.2 Ya;unfold SN CS;split
  .rw[XG];simp only[XJ,XP];omega
  .unfold M8
   repeat' split
   all_goals simp
 .rw[Qqh h0]at he;cases he
theorem Qqe{P:List Cl}{q:Ts}{vars fuel:Int}:(CK P q vars fuel).1.length<=13:=by
 by_cases h0:(CK P q vars fuel).2=0
 .obtain⟨l,k,hr⟩:=QhW h0;rw[hr.eq];have:=hr.six.2;simp[FD];omega
 .rw[Qqh h0];simp
section
variable{P:Program}{Q:Exit->Act->TG->Prop}{oI:TB}{rest:TC}{n d:Nat}{e:AW}{w:TG}{ty:TypeId}{pos:String}{after:TE}
theorem Ql3{j:Nat}(h:yd oI n e j=some undef):yielded oI (DG n e) j=none:=by
 unfold yd at h;unfold yielded
 cases ho:oI[j]? with
 |none=>rfl
 |some o=>
  rw[ho]at h;simp only[VU]at h⊢
  cases hd:o.dst with
  |none=>rfl
  |some t=>
   rw[hd]at h;simp only[VU]at h⊢;by_cases ht:t<n
   .have h':Nat.blt t n=true:=by simpa[WK]using ht
    rw[h',WD]at h;have hl:(DG n e)[t]?=some (lk e t):=by simp[DG,ht]
    rw[hl,V9 h];rfl
   .have h':Nat.blt t n=false:=Qvy ht;rw[h',WC]at h;cases h
theorem QuN{op:Op}{j:Nat}{g:Bool}(hy:yd oI n e j=some undef)(hd:Nat.blt d n=true)
  (h:AU P Q oI rest n ((d,undef)::e) w):AU P Q oI (⟨some d,op,ty,pos,after,some (j,g)⟩::rest) n e w:=by
 unfold AU at h⊢;unfold wpList;rw[XA (by simp[Region.wanted,AF,Ql3 hy]),SC hd];exact h
end
section
variable{P:Program}{n:Nat}{e:AW}{w:TG}{ty:TypeId}{pos:String}{after:TE}{x y z:Operand}{dst:TD}{t:TypeId}
theorem QkA{i j:Int}{l:AA}(hx:ev n e x=sv l)(hy:ev n e y= .int .i64 i)(hz:ev n e z= .int .i64 j)(hT:LO P t=true)(h0:0<=i)(h1:i<=j)(h2:j.toNat<=l.length):
  (execOp (ev n e) ⟨dst,.slice t x (some y) (some z) none,ty,pos,after,none⟩).run P w= .ok (.value (sv ((l.take j.toNat).drop i.toNat))) w:=by
 have hu:=VC (SX hT) w;have hs:(⟨l.toArray⟩:TJ).size=l.length:=GY l;simp only[execOp,Instr.sliceAt,Instr.slice,hx,hy,hz,sv,X7,J5,bind,pure,Sem.bind];rw[XN,XN,hu];simp only[XW];rw[XN,hu];simp only[XW,Instr.sliceBounds,J6,X6,XT,bind,pure,Sem.bind];rw[XN,XN,R4 rfl Ya (by rw[hs];omega)];simp only[XW];rw[XN,R4 rfl h0 Ya];simp only[XW];have:∀a b c:Nat,Sem.run P (Sem.pure (a,b,c)) w= .ok (a,b,c) w:=fun _ _ _=>rfl;rw[this];simp only[XW,Sem.run,QhM]
end
section
variable{P:Program}{n:Nat}{e:AW}{w w':TG}{ty:TypeId}{pos:String}{after:TE}{x y z:Operand}{dst:TD}{t t2:TypeId}
theorem QtX{a c:Int}(hx:ev n e x= .int .i64 a)(hy:ev n e y= .int .i64 c)(h1: -9223372036854775808<=a*c)(h2:a*c<=9223372036854775807):
  (execOp (ev n e) ⟨dst,.binOp .mul t x y t2,ty,pos,after,none⟩).run P w= .ok (.value (.int .i64 (a*c))) w:=by
 have:(execOp (ev n e) ⟨dst,.binOp .mul t x y t2,ty,pos,after,none⟩).run P w= .ok (.value (.int .i64 (IntKind.i64.wrap (a*c)))) w:=by simp only[execOp,hx,hy];rfl
 rw[this,N8 h1 h2]
theorem QzS(c:UInt8):IntKind.u8.wrap ((c.toNat:Int)-48)=((c-48).toNat:Int):=by
 have h:∀k:Fin 256,IntKind.u8.wrap (((UInt8.ofNat k.val).toNat:Int)-48)=((UInt8.ofNat k.val-48).toNat:Int):=by decide+kernel
 have:=h ⟨c.toNat,c.toNat_lt⟩;simpa using this
theorem Qk2{c:UInt8}(hx:ev n e x= .int .u8 c.toNat)(hy:ev n e y= .int .u8 48):
  (execOp (ev n e) ⟨dst,.binOp .sub t x y t2,ty,pos,after,none⟩).run P w= .ok (.value (.int .u8 ((c-48).toNat:Nat))) w:=by
 have:(execOp (ev n e) ⟨dst,.binOp .sub t x y t2,ty,pos,after,none⟩).run P w= .ok (.value (.int .u8 (IntKind.u8.wrap ((c.toNat:Int)-48)))) w:=by simp only[execOp,hx,hy];rfl
 rw[this,QzS]
def Qrq(P:Program)(t:TypeId)(k:IntKind):Bool:=match P.underlying t with|some (.int q)=>q==k|_=>false
theorem QAd{k:IntKind}(h:Qrq P t k=true):P.underlying t=some (.int k):=by
 unfold Qrq at h;split at h
 .rename_i q hq;rw[hq,eq_of_beq h]
 .cases h
theorem QfS{u v:TH}{src dt:TypeId}(hx:ev n e x=u)(h:(convert src dt u).run P w= .ok v w'):(execOp (ev n e) ⟨dst,.convert src dt x,ty,pos,after,none⟩).run P w= .ok (.value v) w':=by
 exact Ydh
theorem QkG{c:UInt8}{src dt:TypeId}(hx:ev n e x= .int .u8 (c.toNat:Nat))(hs:Qrq P src .u8=true)(hd:Qrq P dt .i64=true):
  (execOp (ev n e) ⟨dst,.convert src dt x,ty,pos,after,none⟩).run P w= .ok (.value (.int .i64 (c.toNat:Nat))) w:=by
 refine QfS hx ?_;have:=c.toNat_lt;simp[convert,VC (QAd hs),VC (QAd hd),Conv.intToInt];exact N8 Ya Ya
end
def Sx(φ:TG->Prop)(v:TH)(l:List AA):Prop:=∃A c,v= .slice A l.length c/\l.length<=c/\(0<l.length->∃b o,A=some ⟨b,o,none⟩/\∀w,φ w->∀(j:Nat) (x:AA),l[j]?=some x->w.cell? ⟨b,o+j,none⟩=some (sv x))
theorem Sx.tail{φ:TG->Prop}{A:T4}{c len:Nat}{x:AA}{r:List AA}(h:Sx φ (.slice A len c) (x::r)):Sx φ (.slice (if c=1 then A else A.map (·.add 1)) (len-1) (c-1)) r:=by
 obtain⟨_,_,e,hc,hs⟩:=h;simp only[JV]at e;obtain⟨rfl,rfl,rfl⟩:=e;simp only[XJ]at hc hs⊢;refine⟨_,_,by rw[Nat.add_sub_cancel],by omega,fun hr=> ?_⟩;obtain⟨b,o,rfl,hj⟩:=hs Ya;rw[XA Ya];refine⟨b,o+1,by simp[G7],fun w hw j y hy=> ?_⟩;have:=hj w hw (j+1) y (by simpa using hy)
 rwa [show o+(j+1)=o+1+j by omega]at this
theorem Sx.head{φ:TG->Prop}{A:T4}{c len:Nat}{x:AA}{r:List AA}(h:Sx φ (.slice A len c) (x::r)):len=r.length+1/\len<=c/\∃b o,A=some ⟨b,o,none⟩/\∀w,φ w->w.cell? ⟨b,o,none⟩=some (sv x):=by
 obtain⟨_,_,e,hc,hs⟩:=h;simp only[JV]at e;obtain⟨rfl,rfl,rfl⟩:=e;obtain⟨b,o,rfl,hj⟩:=hs Yd;exact⟨by simp,hc,b,o,rfl,fun w hw=>hj w hw 0 x rfl⟩
theorem Sx.form{φ:TG->Prop}{v:TH}{l:List AA}(h:Sx φ v l):∃A c,v= .slice A l.length c/\l.length<=c:=by
 obtain⟨A,c,rfl,hc,_⟩:=h;exact⟨A,c,rfl,hc⟩
section
variable{M:T6}{w0:TG}{H:T0}{F:T3}
theorem St.shutS{v:TH}{O:T0}{l:List AA}{w:TG}{el:Nat}(hr:Row el 1 v l.length (l.map sv) O)(hS:St M w0 (O++H) F w):
  ∃φ,Sx φ v l/\St M w0 H (φ::F) w:=by
 generalize hl:l.length=ll at hr;generalize hx:l.map sv=xs at hr
 cases hr with
 |nil_=>
  refine⟨fun _=>True,⟨none,0,by rw[hl],by omega,fun h=>by omega⟩,?_⟩;exact hS.learn fun _ _=>trivial
 |own_ h1 h2 h3 tJ=>
  rename_i bl cap sp;subst hx;refine⟨fun w'=>w'.heap[bl]?=some (.cells (l.map sv++sp).toArray el),⟨_,cap,by rw[hl],by omega,fun _=>⟨bl,0,rfl,fun w' Cn j x hj=> ?_⟩⟩,?_⟩
  .rw[Qs Cn,XQ,VO (by
    have:j<l.length:=by
     rcases XY j l.length with h|h
     .exact h
     .rw[XX h]at hj;cases hj
    simpa using this),VW,hj]
   rfl
  .have rA:w.heap[bl]?=some (.cells (l.map sv++sp).toArray el):=hS.own (bl,_) Yd
   have On:bl∉H.map (·.1):=fun hk=>by
    exact YbW
   exact(St.dropL hS).learn fun w' hx=>by rw[hx.block bl (IW rA) On];exact rA
end
end Go.Proofs.YthliapbflkfdiacGreatDoor
