/- Steps of the proof. -/
import Derived.Test.YthliapbflkfdiacGreatDoorG9
set_option linter.unusedVariables false
set_option linter.unusedSimpArgs false
set_option maxRecDepth 100000
set_option maxHeartbeats 1000000
namespace Go.Proofs.YthliapbflkfdiacGreatDoor
open Go.Proofs.Tryz
open Go.RowKit
section
variable{M:T6}{w0:TG}{H:T0}{F:T3}
theorem TA.snoc:∀(T:TA) (j:Nat),T.len=j+1->∃(D:TA) (k n:Int) (s:TJ) (A:T4) (c:Nat) (a:TA),T=D.app (.cons k n s A c a .nil)/\D.len=j
 | .nil,j,h=>by simp[TA.len]at h
 | .cons k n s A c a .nil,j,h=>by
  obtain rfl:j=0:=by simp[TA.len]at h;omega
  exact⟨.nil,k,n,s,A,c,a,rfl,rfl⟩
 | .cons k n s A c a (.cons k' n' s' A' c' a' r),j,h=>by
  obtain⟨j,rfl⟩:∃j',j=j'+1:=⟨j-1,by simp only[TA.len]at h;omega⟩
  obtain⟨D,k1,n1,s1,A1,c1,a1,e,hl⟩:=TA.snoc (.cons k' n' s' A' c' a' r) j (by simp only[TA.len]at h⊢;omega);exact⟨.cons k n s A c a D,k1,n1,s1,A1,c1,a1,by rw[e];rfl,by simp only[TA.len,hl]⟩
def E0(g:LT)(c:LC):Bool:=decide (c.hd.s=g.s)&&decide (c.hd.ar.len=g.ar.len)
theorem QyM(g:LT)(P:List LC):(P.filter (E0 g)).map LC.cl=(P.map LC.cl).filter (FC g.tm):=by
 rw[Xbb];congr 2;funext c;show(_&&decide (c.hd.ar.len=g.ar.len))=(_&&decide (c.hd.ar.ts.length=g.ar.ts.length));rw[TA.len_ts,TA.len_ts];rfl
end
theorem QjW(g:Tm->Nat->Option (Tm×Nat))(k n:Int)(s:TJ)(a r:Ts)(l:Nat):FW g (.cons k n s a r) l=(g ⟨k,n,s,a⟩ l).bind fun p=>(FW g r p.2).map fun q=>(.cons p.1.k p.1.n p.1.s p.1.ar q.1,q.2):=by
 simp only[FW]
 cases g ⟨k,n,s,a⟩ l with
 |none=>rfl
 |some p=>
  simp only[VU];cases FW g r p.2<;>rfl
theorem Qkn(B:AC)(f:Nat)(t:Tm)(l:Nat):GP B (f+1) t l=if l=0 then none else(FW (GP B f) (Qc B t).ar (l-1)).map fun p=>(⟨(Qc B t).k,(Qc B t).n,(Qc B t).s,p.1⟩,p.2):=by
 simp only[GP];split
 .rfl
 .cases FW (GP B f) (Qc B t).ar (l-1)<;>rfl
theorem QlB{g:Tm->Nat->Option (Tm×Nat)}(hg:∀t l p,g t l=some p->p.1.ar.nodes+1+p.2=l):∀(T:Ts) (l:Nat) (p:Ts×Nat),FW g T l=some p->p.1.nodes+p.2=l/\p.1.length=T.length
 | .nil,l,p,h=>by
  simp only[FW,XU]at h;exact YeC
 | .cons k n s a r,l,p,h=>by
  rw[QjW]at h
  cases h1:g ⟨k,n,s,a⟩ l with
  |none=>rw[h1]at h;cases h
  |some q=>
   rw[h1,VU]at h
   cases h2:FW g r q.2 with
   |none=>rw[h2]at h;cases h
   |some x=>
    rw[h2,X7,XU]at h;subst h;have:=hg _ _ _ h1;obtain⟨_,_⟩:=QlB hg r q.2 x h2;exact S5
theorem QoW{B:AC}:∀(f:Nat) (t:Tm) (l:Nat) (p:Tm×Nat),GP B f t l=some p->p.1.ar.nodes+1+p.2=l
 |0,t,l,p,h=>by cases h
 |f+1,t,l,p,h=>by
  rw[Qkn]at h;by_cases h0:l=0
  .rw[XB h0]at h;cases h
  .rw[XA h0]at h
   cases h1:FW (GP B f) (Qc B t).ar (l-1)with
   |none=>rw[h1]at h;cases h
   |some q=>
    rw[h1,X7,XU]at h;subst h;have:=(QlB (fun t l p h=>QoW f t l p h) _ _ _ h1).1;show q.1.nodes+1+q.2=l;omega
section
variable{M:T6}{w0:TG}{H:T0}{F:T3}
end
def Ts.vars(P:Int->Prop):Ts->Prop
 | .nil=>True
 | .cons k n _ ar r=>(k=0->P n)/\ar.vars P/\r.vars P
theorem Qxy{n:Int}:∀{ks:T7} {j:Nat},pos n ks=some j->j<ks.length
 |[],_,h=>by cases h
 |k::r,j,h=>by
  rw[pos]at h;by_cases e:n=k
  .rw[XB e]at h;cases h;simp
  .rw[XA e]at h
   cases hp:pos n r with
   |none=>rw[hp]at h;cases h
   |some i=>
    rw[hp]at h;cases h
    have:=Qxy hp;simp;omega
def Ts.Mem(x:Tm):Ts->Prop
 | .nil=>False
 | .cons k n s a r=>x=⟨k,n,s,a⟩\/r.Mem x
def Qz2(Q:Tm->Prop):Prop:=∀t:Tm,Q t->∀x,t.ar.Mem x->Q x
theorem LN{Q:Tm->Prop}{B:AC}(hB:∀x∈B,Q x.2){t:Tm}(ht:Q t):Q (Qc B t):=by
 rcases Qmu (B:=B) t with h|⟨x,hx,h⟩
 .rw[h];exact ht
 .rw[h];exact hB x hx
theorem Qzr{Q:Tm->Prop}{B:AC}{v:Int}{t:Tm}{w:Nat}(hB:∀x∈B,Q x.2)(ht:Q t):∀x∈(MK v t B w).B,Q x.2:=by
 unfold MK;split
 .exact hB
 .intro x hx;rcases XV.1 hx with rfl|hx
  .exact ht
  .exact hB x hx
theorem Qzx{Q:Tm->Prop}{g:Tm->Tm->AC->Nat->Us}(hg:∀a b B w,(∀x∈B,Q x.2)->Q a->Q b->∀x∈(g a b B w).B,Q x.2):∀(T U:Ts) (B:AC) (w:Nat),(∀x,T.Mem x->Q x)->(∀x,U.Mem x->Q x)->(∀x∈B,Q x.2)->∀x∈(I2 g T U B w).B,Q x.2
 | .nil,U,B,w,_,_,hB=>hB
 | .cons k n s a r,.nil,B,w,_,_,hB=>hB
 | .cons k n s a r,.cons k' n' s' a' r',B,w,hT,hU,hB=>by
  have h1:=hg ⟨k,n,s,a⟩ ⟨k',n',s',a'⟩ B w hB (hT _ (.inl rfl)) (hU _ (.inl rfl));simp only[I2];split
  .exact Qzx hg r r' _ _ (fun x hx=>hT x (.inr hx)) (fun x hx=>hU x (.inr hx)) h1
  .exact h1
theorem Z1{Q:Tm->Prop}(hQ:Qz2 Q):∀(f:Nat) (a b:Tm) (B:AC) (w:Nat),(∀x∈B,Q x.2)->Q a->Q b->∀x∈(BI f a b B w).B,Q x.2
 |0,a,b,B,w,hB,ha,hb=>hB
 | f + 1, a, b, B, w, hB, ha, hb => by
  have ea:=LN hB ha;have eb:=LN hB hb;simp only[BI];split
  .exact hB
  split
  .split
   .by_cases e:(Qc B a).n=(Qc B b).n
    .rw[XB e];exact hB
    .rw[XA e];intro x hx;rcases XV.1 hx with rfl|hx
     .exact eb
     .exact hB x hx
   .exact Qzr hB eb
  split
  .exact Qzr hB ea
  split
  .exact Qzx (fun a b B w=>Z1 hQ f a b B w) _ _ _ _ (hQ _ ea) (hQ _ eb) hB
  .exact hB
theorem Qzv{g:Tm->Tm->AC->Nat->Us}:∀(T U:Ts) (B:AC) (w:Nat),(∀a b:Tm,a.ar.nodes<T.nodes->b.ar.nodes<U.nodes->∀B w,BO B->I9 B->w<=400->UP B w (g a b B w)/\(g a b B w).w<=10025)->BO B->I9 B->w<=400->(I2 g T U B w).w<=10025
 | .nil,U,B,w,h,hB,hS,hw=>by simp[I2];omega
 | .cons k n s a r,.nil,B,w,h,hB,hS,hw=>by simp[I2];omega
 | .cons k n s a r,.cons k' n' s' a' r',B,w,h,hB,hS,hw=>by
  obtain⟨h1,h2⟩:=h ⟨k,n,s,a⟩ ⟨k',n',s',a'⟩ Yj Yj B w hB hS hw;simp only[I2];split
  .rename_i oK;exact Qzv r r' _ _ (fun a b ha hb=>h a b Yj Yj) h1.bok h1.sm (h1.ok oK)
  .exact h2
theorem Qx8:∀(f:Nat) (a b:Tm) (B:AC) (w:Nat),a.ar.nodes<=24->b.ar.nodes<=24->BO B->I9 B->w<=400->(BI f a b B w).w<=10025
 |0,a,b,B,w,ha,hb,hB,hS,hw=>by simp only[BI];omega
 |f+1,a,b,B,w,ha,hb,hB,hS,hw=>by
  have ea:=UZ hS ha;have eb:=UZ hS hb
  have Dt:∀(v:Int) (t:Tm),t.ar.nodes<=24->(MK v t B (w+1)).w<=max (w+2) 10025:=fun v t ht=>by
   have h1:=QxC hS v 401 t ht (w+1);unfold MK;split
   .exact DM
   .exact DM
  simp only[BI];split
  .exact DM
  split
  .split
   .exact DM
   .have:=Dt (Qc B a).n (Qc B b) eb;omega
  split
  .have:=Dt (Qc B b).n (Qc B a) ea;omega
  split
  .exact Qzv _ _ _ _ (fun x y hx hy B w hB hS hw=>⟨PJ f x y B w Ya Ya hB hS hw,Qx8 f x y B w Ya Ya hB hS hw⟩) hB hS Ya
  .exact DM
def AL(t:Tm):Prop:=(Ts.cons t.k t.n t.s t.ar .nil).good 549755813888=true/\t.ar.nodes+1<=24
theorem Ts.mem_nodes{x:Tm}:∀{T:Ts},T.Mem x->x.ar.nodes+1<=T.nodes
 | .cons k n s a r,h=>by
  simp only[Ts.nodes];rcases h with rfl|h
  .exact DM
  .have:=Ts.mem_nodes h;omega
theorem Ts.mem_good{v:Int}{x:Tm}:∀{T:Ts},T.Mem x->T.good v=true->(Ts.cons x.k x.n x.s x.ar .nil).good v=true
 | .cons k n s a r,h,hg=>by
  simp only[Ts.good,XI]at hg⊢;rcases h with rfl|h
  .exact⟨hg.1,trivial⟩
  .have:=Ts.mem_good h hg.2;simp only[Ts.good,XI]at this;exact BS
theorem GJ:Qz2 AL:=fun t h x hx=>by
 obtain⟨h1,h2⟩:=h;have h3:=Ts.mem_nodes hx;refine⟨?_,by omega⟩;simp only[Ts.good,XI]at h1;exact Ts.mem_good hx h1.1.2
theorem AL.small{t:Tm}(h:AL t):t.ar.nodes<=24:=by have:=h.2;omega
def LZ:List Gl->Nat->Prop
 |[],_=>True
 |g::r,n=>g.2<=n/\LZ r g.2
theorem LZ.mono:∀{l:List Gl} {n m:Nat},LZ l n->n<=m->LZ l m
 |[],_,_,_,_=>trivial
 |g::r,n,m,h,hm=>⟨X9 h.1 hm,h.2⟩
def KP:List Ch->Nat->Prop
 |[],_=>True
 |c::cs,n=>c.bound<=n/\LZ (c.g::c.next) cs.length/\(∀g∈c.g::c.next,AL g.1)/\c.cls≠[]/\(∀cl∈c.cls,cB cl=true)/\KP cs c.bound
theorem KP.mono:∀{l:List Ch} {n m:Nat},KP l n->n<=m->KP l m
 |[],_,_,_,_=>trivial
 |c::cs,n,m,h,hm=>⟨X9 h.1 hm,h.2⟩
theorem KP.drop:∀{l:List Ch} {n:Nat},KP l n->∀k,KP (l.drop k) n
 |[],_,_,_=>by simp[KP]
 |c::cs,n,h,0=>h
 |c::cs,n,h,k+1=>by
  have:=KP.drop h.2.2.2.2.2 k;exact this.mono h.1
theorem QiS:∀(l:List Ch) (k:Nat),CH (l.drop k)<=CH l
 |[],k=>by simp
 |c::cs,0=>XF _
 |c::cs,k+1=>by have:=QiS cs k;simp only[UG,CH];omega
theorem KP.len:∀{l:List Ch} {n:Nat},KP l n->l.length<=CH l
 |[],_,_=>XF _
 |c::cs,n,h=>by
  have h1:=KP.len h.2.2.2.2.2;have h2:0<c.cls.length:=List.length_pos_iff.2 h.2.2.2.1;simp only[XJ,CH];omega
def mu(s:SS):Nat:=25*s.fuel+CH s.ch
structure DC(s:SS):Prop where
 bok:BO s.B
 gb:∀x∈s.B,AL x.2
 ch:KP s.ch s.B.length
 fr:s.fresh+8*mu s<=40000
 bl:s.B.length+10100*mu s<=1000000000
structure Inv(s:SS):Prop where
 c:DC s
 gg:∀g∈s.goals,AL g.1
 og:LZ s.goals s.ch.length
theorem DC.sm{s:SS}(h:DC s):I9 s.B:=fun x hx=>(h.gb x hx).small
theorem N6{n:Int}(h0:0<=n)(h1:n<1099511627776):low n=n:=by unfold low;omega
theorem Qsz{v k n m:Int}{s:TJ}{l:Nat}(h:CL v k n s l=true)(hv:v<=8)(h0:0<=m)(h1:m<=40000):CL 549755813888 k (FN k n m) s l=true:=by
 unfold CL at h⊢;unfold FN;by_cases e:k=0
 .rw[XB e]at h⊢;rw[XB e];simp only[XI,XO]at h⊢;rw[N6 (n:=n) Ya Ya,N6 (n:=m) Ya Ya];exact⟨⟨⟨by omega,by omega⟩,h.1.2⟩,h.2⟩
 .rw[XA e]at h⊢;rw[XA e];exact h
theorem Ts.shift_nil(m:Int):Ts.nil.shift m= .nil:=rfl
theorem Ts.shift_len(m:Int)(T:Ts):(T.shift m).length=T.length:=by
 induction T with
 |nil=>rfl
 |cons k n s a r _ ih=>rw[Ts.shift_cons];simp only[Ts.length,ih]
theorem Ts.shift_nodes(m:Int)(T:Ts):(T.shift m).nodes=T.nodes:=by
 induction T with
 |nil=>rfl
 |cons k n s a r rO qO=>rw[Ts.shift_cons];simp only[Ts.nodes,rO,qO]
theorem Ts.shift_good{v m:Int}(hv:v<=8)(h0:0<=m)(h1:m<=40000)(T:Ts):T.good v=true->(T.shift m).good 549755813888=true:=by
 induction T with
 |nil=>intro _;rfl
 |cons k n s a r rO qO=>
  intro h;rw[Ts.shift_cons];simp only[Ts.good,XI]at h⊢;exact⟨⟨by rw[Ts.shift_len];exact Qsz h.1.1 hv h0 h1,rO h.1.2⟩,qO h.2⟩
theorem Qns{v k n m:Int}{s:TJ}{T:Ts}(h:gB v k n s T=true)(hv:v<=8)(h0:0<=m)(h1:m<=40000):AL (Tm.shift ⟨k,n,s,T⟩ m):=by
 simp only[gB,XI,XO]at h;refine⟨?_,by show(T.shift m).nodes+1<=24;rw[Ts.shift_nodes];exact h.2⟩;have:=Ts.shift_good hv h0 h1 (.cons k n s T .nil) h.1.2
 rwa [Ts.shift_cons,Ts.shift_nil]at this
theorem ZI{v m:Int}{o:Nat}{rest:List Gl}(hv:v<=8)(h0:0<=m)(h1:m<=40000)(hr:∀g∈rest,AL g.1):∀T:Ts,T.goals v=true->∀g∈ID T m o rest,AL g.1
 | .nil,_=>hr
 | .cons k n s a r,h=>by
  simp only[Ts.goals,XI]at h;intro g hg;rcases XV.1 hg with rfl|hg
  .exact Qns h.1 hv h0 h1
  .exact ZI hv h0 h1 hr r h.2 g hg
theorem QhU{m:Int}{o:Nat}{rest:List Gl}(hr:LZ rest o):∀T:Ts,LZ (ID T m o rest) o
 | .nil=>hr
 | .cons k n s a r=>⟨XF _,QhU hr r⟩
theorem UT{c:Cl}(h:cB c=true):0<=c.vars/\c.vars<=8/\c.bd.length<=5/\c.bd.goals c.vars=true/\gB c.vars c.k c.n c.s c.hd=true:=by
 exact Yco
theorem goals_nodes{v:Int}:∀T:Ts,T.goals v=true->T.nodes<=24*T.length
 | .nil,_=>XF _
 | .cons k n s a r,h=>by
  simp only[Ts.goals,XI]at h;have h1:=goals_nodes r h.2;have h2:=h.1;simp only[gB,XI,XO]at h2;exact S5
theorem Qqz(B:AC){n:Nat}(h:n<=B.length):(CG B n).length=n:=by unfold CG;simp;omega
theorem QrF{cl:Cl}(h:cB cl=true){m:Nat}(hm:m<=40000):AL (cl.head.shift m):=by
 obtain⟨_,h1,_,_,h2⟩:=UT h;exact Qns h2 h1 Ya Ya
theorem QtA{Q:Tm->Prop}{B:AC}(h:∀x∈B,Q x.2)(n:Nat):∀x∈CG B n,Q x.2:=fun x hx=>h x (JJ hx)
theorem Qui(c:Ch)(more:List Cl)(cs:List Ch):cs.length<=(C5 c more cs).length:=by
 cases more with
 |nil=>exact XF _
 |cons x r=>simp[C5]
theorem PL(c:Ch)(more:List Cl)(cs:List Ch):CH (C5 c more cs)=more.length+CH cs:=by
 cases more with
 |nil=>simp[C5]
 |cons x r=>simp[C5,CH]
theorem Qml{s:SS}{c:Ch}{cs:List Ch}{cl:Cl}{more:List Cl}(hI:DC s)(h1:s.ch=c::cs)(h2:c.cls=cl::more)(g':List Gl):
  DC ⟨(BI 401 (cl.head.shift s.fresh) c.g.1 (CG s.B c.bound) 0).B,s.fresh+cl.vars.toNat,s.fuel,g',C5 c more cs,s.ev⟩:=by
 have rM:=hI.ch;rw[h1]at rM;obtain⟨a1,a2,a3,_,a5,a6⟩:=rM;have Cz:=hI.fr;have rA:=hI.bl
 have Pw:mu s=25*s.fuel+(more.length+1+CH cs):=by unfold mu;rw[h1];simp only[CH,h2,XJ]
 have pJ:cB cl=true:=a5 cl (by rw[h2];exact .head _);obtain⟨_,_,_,_,_⟩:=UT pJ
 have Px:mu ⟨(BI 401 (cl.head.shift s.fresh) c.g.1 (CG s.B c.bound) 0).B,s.fresh+cl.vars.toNat,s.fuel,g',C5 c more cs,s.ev⟩=25*s.fuel+(more.length+CH cs):=by unfold mu;simp only[PL]
 have t1:=QrF pJ (m:=s.fresh) Ya;have t2:=a3 c.g (.head _);have hu:=Qqz s.B a1;have bu:BO (CG s.B c.bound):=hI.bok.drop _;have su:I9 (CG s.B c.bound):=QtA (Q:=fun t=>t.ar.nodes<=24) hI.sm _;have sC:=PJ 401 (cl.head.shift s.fresh) c.g.1 (CG s.B c.bound) 0 t1.small t2.small bu su Ya;have hw:=Qx8 401 (cl.head.shift s.fresh) c.g.1 (CG s.B c.bound) 0 t1.small t2.small bu su Ya;have sG:=Z1 GJ 401 (cl.head.shift s.fresh) c.g.1 (CG s.B c.bound) 0 (QtA hI.gb _) t1 t2;obtain⟨N,hN⟩:=sC.ext;have oG:=sC.len
 have oW:c.bound<=(BI 401 (cl.head.shift s.fresh) c.g.1 (CG s.B c.bound) 0).B.length:=by rw[hN];simp;omega
 refine⟨sC.bok,sG,?_,by rw[Px];simp only;omega,by rw[Px];simp only;omega⟩;show KP (C5 c more cs) _
 cases more with
 |nil=>exact a6.mono oW
 |cons x r=>exact⟨oW,a2,a3,by simp,fun y hy=>a5 y (by rw[h2];exact .tail _ hy),a6⟩
theorem Qmh:∀(n:Nat) (s:SS),DC s->((D5 n s).1=0->Inv (D5 n s).2/\mu (D5 n s).2<mu s)/\(D5 n s).2.ev=s.ev/\((D5 n s).1=0\/(D5 n s).1=2\/(D5 n s).1=4)/\(D5 n s).2.fuel=s.fuel
 |0,s,hI=>⟨fun h=>Y7,rfl,.inr (.inl rfl),rfl⟩
 | n + 1, s, hI => by
  unfold D5
  cases h1:s.ch with
  |nil=>exact⟨fun h=>Y7,rfl,.inr (.inl rfl),rfl⟩
  |cons c cs=>
   simp only
   cases h2:c.cls with
   |nil=>exact⟨fun h=>Y7,rfl,.inr (.inl rfl),rfl⟩
   |cons cl more=>
    simp only
    have Pw:mu s=25*s.fuel+(more.length+1+CH cs):=by unfold mu;rw[h1];simp only[CH,h2,XJ]
    split
    .exact⟨fun h=>Y7,rfl,.inr (.inr rfl),rfl⟩
    split
    .refine⟨fun _=>⟨⟨Qml hI h1 h2 _,?_,?_⟩,?_⟩,rfl,.inl rfl,rfl⟩
     .have rM:=hI.ch;rw[h1]at rM;obtain⟨a1,a2,a3,a4,a5,a6⟩:=rM;obtain⟨_,v1,_,v3,_⟩:=UT (a5 cl (by rw[h2];exact .head _));have:=hI.fr;exact ZI v1 Ya Ya (fun g hg=>a3 g (.tail _ hg)) _ v3
     .have rM:=hI.ch;rw[h1]at rM;obtain⟨a1,a2,a3,a4,a5,a6⟩:=rM;exact(QhU (a2.2.mono a2.1) _).mono (Qui c more cs)
     .rw[Pw];unfold mu;simp only[PL];omega
    .obtain⟨i1,i2,i3,i4⟩:=Qmh n _ (Qml hI h1 h2 s.goals);refine⟨fun h=>⟨(i1 h).1,Nat.lt_trans (i1 h).2 ?_⟩,i2,i3,i4⟩;rw[Pw];unfold mu;simp only[PL];omega
theorem Qek{n:Nat}{s:SS}{c:Ch}{cs:List Ch}{cl:Cl}{more:List Cl}(h1:s.ch=c::cs)(h2:c.cls=cl::more):D5 (n+1) s=
  if 400<(BI 401 (cl.head.shift s.fresh) c.g.1 (CG s.B c.bound) 0).w then(4,⟨(BI 401 (cl.head.shift s.fresh) c.g.1 (CG s.B c.bound) 0).B,s.fresh+cl.vars.toNat,s.fuel,s.goals,C5 c more cs,s.ev⟩)
  else if(BI 401 (cl.head.shift s.fresh) c.g.1 (CG s.B c.bound) 0).ok=true then(0,⟨(BI 401 (cl.head.shift s.fresh) c.g.1 (CG s.B c.bound) 0).B,s.fresh+cl.vars.toNat,s.fuel,ID cl.bd s.fresh cs.length c.next,C5 c more cs,s.ev⟩)
  else D5 n ⟨(BI 401 (cl.head.shift s.fresh) c.g.1 (CG s.B c.bound) 0).B,s.fresh+cl.vars.toNat,s.fuel,s.goals,C5 c more cs,s.ev⟩:=by
 conv=>lhs;unfold D5
 rw[h1];simp only;rw[h2]
structure LE where
 A:T4
 c:Nat
 T:TA
abbrev QAj(k:Int)(e:LE):T5:=[.int .i64 k,.slice e.A e.T.len e.c]
def MD:List LE->T5
 |[]=>[]
 |e::r=>QAj 1 e++MD r
theorem QyO(a b:List LE):MD (a++b)=MD a++MD b:=by
 induction a with
 |nil=>rfl
 |cons c r ih=>simp[MD,ih]
end Go.Proofs.YthliapbflkfdiacGreatDoor
