/- Steps of the proof. -/
import Derived.Test.YthliapbflkfdiacGreatDoorG5
set_option linter.unusedVariables false
set_option linter.unusedSimpArgs false
set_option maxRecDepth 100000
set_option maxHeartbeats 1000000
namespace Go.Proofs.YthliapbflkfdiacGreatDoor
open Go.Proofs.Tryz
open Go.RowKit Go.Shelf
def NV(x:AA):Prop:=x=[]\/x=[45]
def BQ(p:PS):Prop:=p.bad=true\/∃x∈p.l,NV x
def Qzy(t:AA):Prop:=t≠[]/\((AR (G1 t)||(G1 t==45))=true->Qv4 t)/\(G1 t=33->t=[33])
def MV(s:RS)(p:PS):Prop:=s.err=0/\p.bad=false/\s.vars=p.vars/\((s.token=[]/\s.rest=[]/\p.l=[])\/(Qzy s.token/\p.l=s.token::FT s.rest))
def MS(s:RS)(p:PS):Prop:=s.err=1/\s.token=[]/\s.rest=[]/\BQ p
def EB(s:RS)(p:PS):Prop:=MV s p\/MS s p
theorem BQ.pop{p:PS}{t:AA}{r:List AA}(h:BQ p)(hl:p.l=t::r)(ht:¬NV t):BQ p.pop:=by
 rcases h with h|⟨x,hx,hb⟩
 .exact .inl h
 .rw[hl]at hx;rcases XV.1 hx with rfl|hx
  .grind
  .exact .inr ⟨x,by grind[PS.pop],hb⟩
theorem BQ.has{p:PS}{t:AA}(h:BQ p)(hh:p.has t=true)(ht:¬NV t):BQ p.pop:=h.pop (PA hh).2 ht
theorem BQ.close{p:PS}{t:AA}(h:BQ p)(ht:¬NV t):BQ (p.close t):=by
 unfold PS.close;split
 .exact h
 split
 .grind[has]
 .exact NA
theorem BQ.var{p:PS}(x:AA)(h:BQ p):BQ (p.var x).2:=by
 unfold PS.var;split
 .exact h
 .exact h
def U2(f:PS->Nd×PS):Prop:=∀p,BQ p->BQ (f p).2
theorem BQ.loop{f:PS->Nd×PS}(hf:U2 f):∀(n:Nat) (p:PS),BQ p->BQ (QL f n p).2
 |0,p,h=>h
 |n+1,p,h=>by
  unfold QL;split
  .rename_i hh;exact BQ.loop hf n _ (hf _ (h.has hh.2 MA))
  .exact h
theorem BQ.terms{f:PS->Nd×PS}(hf:U2 f)(t:AA)(ht:¬NV t)(p:PS)(h:BQ p):BQ (QO f t p).2:=(BQ.loop hf _ _ (hf p h)).close ht
theorem BQ.term:∀d,U2 (Ql d)
 |0,p,h=> .inl rfl
 | d + 1, p, h => by
  unfold Ql;split
  .exact NA
  .exact NA
  .rename_i c r q hl;split
   .grind[pop,NV]
   split
   .rename_i oN hu;refine BQ.var _ (h.pop hl ?_);rintro(e|e)
    .cases e
    .cases e;exact absurd hu Yf
   split
   .by_cases e:c::r=[45]
    .left;rw[e,Qpg];simp
    .rcases h.pop hl (by rintro(e'|e');cases e';grind)with h'|h'
     .left;have:p.bad=true:=h';grind
     .exact .inr h'
   split
   .exact NA
   .rename_i xH qI
    have hb:¬NV (c::r):=by
     rintro(e|e)
     .cases e
     grind
    split
    .rename_i hp;exact BQ.terms (BQ.term d) [41] MA _ ((h.pop hl hb).has hp MA)
    grind[pop]
theorem MS.fail{s:RS}{p q:PS}(h:MS s p)(e:Int)(hq:BQ q):MS (s.fail e) q:=⟨by simp[RS.fail,h.1],rfl,rfl,hq⟩
theorem MS.adv{s:RS}{p q:PS}(h:MS s p)(hq:BQ q):MS s.adv q:=by
 have:s.adv=⟨[],[],s.vars,s.err⟩:=by
  unfold RS.adv;rw[h.2.2.1];rfl
 rw[this];exact⟨h.1,rfl,rfl,hq⟩
theorem MV.fail{s:RS}{p:PS}(h:MV s p){q:PS}(hq:BQ q):MS (s.fail 1) q:=⟨by simp[RS.fail,h.1],rfl,rfl,hq⟩
theorem Qji{f:UInt8->Bool}:∀(l:AA),∀c∈l.take (BL f l),f c=true
 |[],c,h=>by grind
 |x::l,c,h=>by
  unfold BL at h
  cases hx:f x with
  |false=>grind
  |true=>
   rw[hx]at h;simp only[WD,JC]at h;rcases XV.1 h with rfl|h
   .exact hx
   .exact Qji l c h
theorem Qwj{c:UInt8}(h:(EL c||BF c)=true):AR c=false/\(c==45)=false/\c≠33:=by
 have hh:∀n:Fin 256,(EL (UInt8.ofNat n.val)||BF (UInt8.ofNat n.val))=true->AR (UInt8.ofNat n.val)=false/\(UInt8.ofNat n.val==45)=false/\UInt8.ofNat n.val≠33:=by decide+kernel
 exact Ybi
theorem Qvl{c:UInt8}(h:AR c=true):EL c=false/\BF c=false/\(c==45)=false/\c≠33:=by
 have hh:∀n:Fin 256,AR (UInt8.ofNat n.val)=true->EL (UInt8.ofNat n.val)=false/\BF (UInt8.ofNat n.val)=false/\(UInt8.ofNat n.val==45)=false/\UInt8.ofNat n.val≠33:=by decide+kernel
 exact Ybi
theorem Qse{c:UInt8}(h:EP.contains c=true):AR c=false/\(c==45)=false:=by
 have hh:∀n:Fin 256,EP.contains (UInt8.ofNat n.val)=true->AR (UInt8.ofNat n.val)=false/\(UInt8.ofNat n.val==45)=false:=by decide+kernel
 exact Ybi
theorem Qwl(c:UInt8)(r:AA):(C9 (c::r)=Qz (c::r)/\(C9 (c::r)≠0->Qzy ((c::r).take (C9 (c::r)))))\/(C9 (c::r)=0/\Qz (c::r)=1/\c=45):=by
 have hT:∀x,1+x≠0:=fun x=>by omega
 by_cases h1:(EL c||BF c)=true
 .left;have e1:C9 (c::r)=1+BL BF r:=by grind[C9]
  have e2:Qz (c::r)=1+BL BF r:=by grind[Qz]
  rw[e1,e2];have hf:=Qwj h1;refine⟨rfl,fun _=>⟨by grind,fun h=> ?_,fun h=> ?_⟩⟩
  .grind[G1]
  .rw[JU,JC]at h;exact absurd h hf.2.2
 have Gs:(EL c||BF c)=false:=by grind
 by_cases h2:AR c=true
 .left;have hf:=Qvl h2
  have e:BL AR (c::r)=1+BL AR r:=by grind[BL]
  have e1:C9 (c::r)=BL AR (c::r):=by grind[C9]
  have e2:Qz (c::r)=1+BL AR r:=by grind[Qz]
  rw[e1,e2];refine⟨e,fun _=>⟨by grind,fun h=> .inl ⟨by grind,Qji _⟩,fun h=> ?_⟩⟩;rw[e,JU,JC]at h;exact absurd h hf.2.2.2
 have Ke:AR c=false:=by grind
 by_cases h3:c=45
 .subst h3
  have e2:Qz (45::r)=1+BL AR r:=by
   grind[Qz]
  have e1:C9 (45::r)=if 0<BL AR r then 1+BL AR r else 0:=by
   grind[C9]
  by_cases h4:0<BL AR r
  .left;rw[e1,e2,XB h4];refine⟨rfl,fun _=>⟨by grind,fun h=> .inr ⟨r.take (BL AR r),by grind,?_,Qji r⟩,fun h=> ?_⟩⟩
   .intro e;have:=XM List.length e;grind[OM]
   .rw[JU,JC]at h;have h':(45:UInt8)=33:=h;grind
  grind
 have Ph:(c==45)=false:=by simp[h3]
 left;by_cases h5:([58,45]:AA).isPrefixOf (c::r)=true
 .have e1:C9 (c::r)=2:=by
   grind[C9]
  have e2:Qz (c::r)=2:=by
   grind[Qz]
  rw[e1,e2]
  cases r with
  |nil=>grind
  |cons x r=>
   have:c=58:=by grind
   subst this;exact⟨rfl,fun _=>⟨by simp,fun h=>absurd h (by simp[G1,AR]),fun h=>absurd h (by simp[G1])⟩⟩
 have e1:C9 (c::r)=if EP.contains c then 1 else 0:=by
  grind[C9]
 have e2:Qz (c::r)=if EP.contains c then 1 else 0:=by
  grind[Qz]
 rw[e1,e2];by_cases h6:EP.contains c=true
 .rw[XB h6];have hf:=Qse h6;refine⟨rfl,fun _=>⟨by simp,fun h=> ?_,fun h=> ?_⟩⟩
  .have:(AR c||(c==45))=true:=h;grind
  .have:c=33:=h;grind
 grind
theorem QkQ:∀R:AA,FT R=FT (FP R)
 |[]=>rfl
 |c::r=>by
  unfold FP;rw[Xa3];split
  .rename_i h;rw[Qi3 r h];exact QkQ r
  .rfl
theorem QtC{R:AA}{c:UInt8}{r:AA}(h:FP R=c::r):N4 c=false:=by
 unfold FP at h
 induction R with
 |nil=>simp at h
 |cons x R ih=>
  rw[Xa3]at h;grind
theorem QvU{s:RS}{p:PS}(he:s.err=0)(hb:p.bad=false)(hv:s.vars=p.vars)(hl:p.l=FT s.rest):EB s.adv p:=by
 rw[QkQ]at hl;unfold RS.adv;simp only
 cases ht:FP s.rest with
 |nil=>
  rw[ht]at hl;rw[XA Yd];exact .inl ⟨he,hb,hv,.inl ⟨rfl,rfl,hl⟩⟩
 |cons c r=>
  have hw:=QtC ht;rw[ht]at hl;rcases Qwl c r with⟨h1,h2⟩|⟨h1,h2,h3⟩
  .by_cases h0:C9 (c::r)=0
   .rw[XB ⟨h0,by simp⟩];rw[QeQ r hw Ya]at hl;exact .inr ⟨by simp[RS.fail,he],rfl,rfl,.inr ⟨[],by grind,.inl rfl⟩⟩
   .rw[XA (by simp[h0])];rw[MC r hw Ya,<-h1]at hl;exact .inl ⟨he,hb,hv,.inr ⟨h2 h0,hl⟩⟩
  .subst h3;rw[XB ⟨h1,by simp⟩];rw[MC r hw Ya,h2]at hl;exact .inr ⟨by simp[RS.fail,he],rfl,rfl,.inr ⟨[45],by grind,.inr rfl⟩⟩
theorem MV.tok{s:RS}{p:PS}(h:MV s p){t:AA}(ht:t≠[]):(s.token=t)↔p.has t=true:=by
 rcases h.2.2.2 with⟨h1,_,h3⟩|⟨h1,h3⟩
 .grind[PS.has]
 grind[PS.has]
theorem MV.adv{s:RS}{p:PS}(h:MV s p)(hn:s.token≠[]):EB s.adv p.pop:=by
 rcases h.2.2.2 with⟨h1,_,_⟩|⟨h1,h3⟩
 .grind
 .exact QvU h.1 h.2.1 h.2.2.1 (by simp[PS.pop,h3])
theorem EB.take{s:RS}{p:PS}(h:EB s p){t:AA}(ht:¬NV t):EB (s.take t) (p.close t):=by
 have oN:t≠[]:=fun e=>ht (.inl e);rcases h with h|h
 .have e2:p.close t=if p.has t then p.pop else p.spoil:=by unfold PS.close;rw[XA (by simp[h.2.1])]
  rw[e2];by_cases e:s.token=t
  .grind[RS.take,MV.tok,MV.adv]
  .have e1:s.take t=(s.fail 1).adv:=by grind[RS.take]
   rw[e1,XA fun e'=>e ((h.tok oN).2 e')];exact .inr ((h.fail (q:=p.spoil) (.inl rfl)).adv (.inl rfl))
 .have e1:s.take t=(s.fail 1).adv:=by unfold RS.take;rw[XA (by rw[h.2.1];grind)]
  rw[e1];exact .inr ((h.fail 1 (h.2.2.2.close ht)).adv (h.2.2.2.close ht))
def UX(f:RS->Nd×RS)(g:PS->Nd×PS):Prop:=∀s p,EB s p->EB (f s).2 (g p).2/\((f s).2.err=0->(f s).1=(g p).1)
theorem EB.live{s:RS}{p:PS}(h:EB s p)(he:s.err=0):MV s p:=by
 rcases h with h|h
 .exact h
 .have:=h.1;omega
def Z7(f:RS->Nd×RS):Prop:=∀s,(f s).2.err=0->s.err=0
theorem M0(s:RS)(e:Int)(he:e≠0):(s.fail e).err≠0:=by
 grind[RS.fail]
theorem PH(s:RS)(h:s.adv.err=0):s.err=0:=by
 unfold RS.adv at h;grind[M0]
theorem TV(s:RS)(t:AA)(h:(s.take t).err=0):s.err=0/\s.token=t:=by
 unfold RS.take at h;grind[PH,M0]
theorem QhB{f:RS->Nd×RS}(hf:Z7 f):∀(n:Nat) (s:RS),(C7 f n s).2.err=0->s.err=0
 |0,s,h=>h
 |n+1,s,h=>by
  unfold C7 at h;split at h
  .exact PH s (hf _ (QhB hf n _ h))
  .exact h
theorem Qf2{f:RS->Nd×RS}(hf:Z7 f):∀s:RS,(QY f s).2.err=0->(f s).2.err=0:=fun s h=>QhB hf _ _ h
theorem Qpf(s:RS)(x:AA):(s.var x).2.err=s.err:=by grind[RS.var]
theorem SQ(num:AA->Option Int):∀d,Z7 (QI num d)
 |0,s,h=>absurd h (M0 s 1 Yf)
 |d+1,s,h=>by
  unfold QI at h;split at h
  .grind[M0]
  .simp only at h;split at h
   .grind[PH,Qpf]
   split at h
   .have h1:=(TV _ _ h).1;have h2:=SQ num d _ (Qf2 (SQ num d) _ h1);grind[PH,TV]
   grind[RS.number,M0,PH]
theorem UX.loop{f:RS->Nd×RS}{g:PS->Nd×PS}(hb:UX f g)(hf:RW f)(hg:SR g)(hs:Z7 f)(hk:U2 g):∀(n:Nat) (s:RS) (p:PS),s.left<=n->EB s p->
  EB (C7 f s.left s).2 (QL g p.l.length p).2/\((C7 f s.left s).2.err=0->(C7 f s.left s).1=(QL g p.l.length p).1):=by
 intro n
 induction n with
 |zero=>
  intro s p hn h;rcases h with h|h
  .have ht:s.token=[]:=by unfold RS.left at hn;exact VL Ya
   have h1:¬s.token=[44]:=by grind
   rw[Z8 h1,UB fun e=>h1 ((h.tok Yd).2 e.2)];exact⟨.inl h,fun _=>rfl⟩
  .have h1:¬s.token=[44]:=by rw[h.2.1];simp
   exact YbX
 |succ n ih=>
  intro s p hn h;rcases h with h|h
  .by_cases ht:s.token=[44]
   .have hp:=(h.tok Yd).1 ht;rw[Qoi hf ht,Qe5 hg ⟨h.2.1,hp⟩];have h1:=K9 s RP;have h2:=hf s.adv;have h3:=h.adv RP;have h4:=hb _ _ h3;grind[QhB]
   .rw[Z8 ht,UB fun e=>ht ((h.tok Yd).2 e.2)];exact⟨.inl h,fun _=>rfl⟩
  .have h1:¬s.token=[44]:=by rw[h.2.1];simp
   exact YbX
theorem UX.terms{f:RS->Nd×RS}{g:PS->Nd×PS}(hb:UX f g)(hf:RW f)(hg:SR g)(hs:Z7 f)(hk:U2 g)(t:AA)(ht:¬NV t)(s:RS)(p:PS)(h:EB s p):
  EB ((QY f s).2.take t) (QO g t p).2/\((QY f s).2.err=0->(QY f s).1=(QO g t p).1):=by
 have h1:=hb s p h;have h2:=hb.loop hf hg hs hk _ (f s).2 (g p).2 (XF _) h1.1;grind[QY,QO,EB.take,Qf2]
theorem MV.var{s:RS}{p:PS}(h:MV s p)(x:AA):(s.var x).1=(p.var x).1/\MV (s.var x).2 (p.var x).2:=by
 obtain⟨h1,h2,h3,h4⟩:=h;unfold RS.var PS.var;rw[h3];split
 .exact⟨rfl,h1,h2,h3,h4⟩
 .exact⟨rfl,h1,h2,by simp,h4⟩
theorem MS.var{s:RS}{p:PS}(h:MS s p)(x:AA):MS (s.var x).2 (p.var x).2:=by
 refine⟨by rw[Qpf];exact h.1,?_,?_,h.2.2.2.var x⟩
 .unfold RS.var;split<;>exact h.2.1
 .unfold RS.var;split<;>exact h.2.2.1
theorem EB.var{s:RS}{p:PS}(h:EB s p)(x:AA):EB (s.var x).2 (p.var x).2/\((s.var x).2.err=0->(s.var x).1=(p.var x).1):=by
 rcases h with h|h
 .exact⟨.inl (h.var x).2,fun _=>(h.var x).1⟩
 .exact⟨.inr (h.var x),fun e=>by rw[Qpf]at e;have:=h.1;omega⟩
theorem Qg7 : ∀ d, UX (QI QX d) (Ql d)
 |0,s,p,h=>by
  refine⟨?_,fun e=>absurd e (M0 s 1 Yf)⟩;rcases h with h|h
  .exact .inr (h.fail (.inl rfl))
  .exact .inr (h.fail 1 (.inl rfl))
 | d + 1, s, p, h => by
  rcases h with h|h
  .rcases h.2.2.2 with⟨h1,h2,h3⟩|⟨h1,h3⟩
   .have e1:QI QX (d+1) s=(Nd.zero,s.fail 1):=by grind[QI]
    have e2:Ql (d+1) p=(Nd.zero,p.spoil):=by grind[Ql]
    rw[e1,e2];exact⟨.inr (h.fail (.inl rfl)),fun e=>absurd e (M0 s 1 Yf)⟩
   .obtain⟨oN,Kf,yN⟩:=h1
    cases ht:s.token with
    |nil=>grind
    |cons c r=>
     rw[ht]at h3 Kf yN;have hc:G1 (c::r)=c:=rfl;rw[hc]at Kf yN;have yR:=h.adv RP;have e1:=OA QX d ht
     have e2:Ql (d+1) p=if c::r=[33]then(⟨1,0,[33],.nil⟩,p.pop)
       else if EL c then(⟨0,(p.pop.var (c::r)).1,[],.nil⟩,(p.pop.var (c::r)).2)
       else if(c==45)||AR c then(⟨2,(E4 (c::r)).getD 0,[],.nil⟩,{ p.pop with bad:=p.bad||(E4 (c::r)).isNone })
       else if BF c=false then(Nd.zero,p.spoil)
       else if p.pop.has [40]then(⟨3,0,c::r,AJ (QO (Ql d) [41] p.pop.pop).1⟩,(QO (Ql d) [41] p.pop.pop).2)
       else(⟨1,0,c::r,.nil⟩,p.pop):=by
      grind[Ql]
     by_cases Pi:c=33
     .have:=yN Pi;subst Pi;cases this
      have f1:QI QX (d+1) s=(⟨1,0,[33],.nil⟩,s.adv):=e1;grind
     rw[XA (by grind)]at e2;by_cases hu:EL c=true
     .grind[EB.var]
     rw[XA hu]at e1 e2;by_cases hd:((c==45)||AR c)=true
     .rw[XB hd]at e2;have hnt:=Kf (by grind)
      have qI:BF c=false:=by
       have hh:∀n:Fin 256,((UInt8.ofNat n.val==45)||AR (UInt8.ofNat n.val))=true->BF (UInt8.ofNat n.val)=false:=by decide+kernel
       have:=hh ⟨c.toNat,c.toNat_lt⟩;simp_all
      rw[XA (by simp[qI]),XA (by grind),XB (by grind)]at e1;rw[e1,e2];unfold RS.number;rw[Qux hnt]
      cases hv:E4 (c::r)with
      |some v=>
       grind[PS.pop]
      |none=>
       simp only[Xa6,Option.isNone_none,Xaw];refine⟨?_,fun e=>absurd e (M0 _ 1 Yf)⟩;rcases yR with ha|ha
       .exact .inr (ha.fail (.inl rfl))
       .exact .inr (ha.fail 1 (.inl rfl))
     rw[XA hd]at e2
     have Za:¬(AR c||(c==45))=true:=by grind
     by_cases qI:BF c=true
     .rw[XA (by simp[qI])]at e2;by_cases hp:s.adv.token=[40]
      .rw[XB (by grind)]at e1;rcases yR with ha|ha
       .have hh:=(ha.tok Yd).1 hp;rw[XB hh]at e2
        have e3:s.adv.take [40]=s.adv.adv:=by grind[RS.take]
        rw[e3]at e1;rw[e1,e2];have h4:=ha.adv (by grind);have h5:=(Qg7 d).terms (NL QX d) (PK d) (SQ QX d) (BQ.term d) [41] MA _ _ h4;grind[TV]
       .exact absurd ha.2.1 (by grind)
      .rw[XA (by simp[hp]),XB (by simp[qI])]at e1;rw[e1];rcases yR with ha|ha
       .rw[XA fun e=>hp ((ha.tok Yd).2 e)]at e2;rw[e2];exact⟨.inl ha,fun _=>rfl⟩
       .rw[e2];refine⟨.inr ⟨ha.1,ha.2.1,ha.2.2.1,?_⟩,fun e=>by have:=ha.1;grind⟩;split
        .rename_i hh;exact BQ.terms (BQ.term d) [41] MA _ (ha.2.2.2.has hh MA)
        .exact ha.2.2.2
     .have Kg:BF c=false:=by grind
      rw[XB Kg]at e2;rw[XA (by simp[Kg]),XA (by grind),XA Za]at e1;rw[e1,e2];refine⟨?_,fun e=>absurd e (M0 _ 1 Yf)⟩;rcases yR with ha|ha
      .exact .inr (ha.fail (.inl rfl))
      .exact .inr (ha.fail 1 (.inl rfl))
  .have e1:QI QX (d+1) s=(Nd.zero,s.fail 1):=by unfold QI;rw[XB h.2.1]
   rw[e1];exact⟨.inr (h.fail 1 (BQ.term _ _ h.2.2.2)),fun e=>absurd e (M0 s 1 Yf)⟩
theorem Qvo(p:PS)(t:AA)(h:p.bad=true):(p.close t).bad=true:=by grind[PS.close]
theorem Qsu(d:Nat)(p:PS)(h:(Ql d p).2.bad=false):(Ql d p).2.l.length<p.l.length:=by
 cases d with
 |zero=>cases h
 |succ d=>
  have hp:∀x r,p.l=x::r->p.pop.l.length<p.l.length:=fun x r e=>by simp[PS.pop,e]
  unfold Ql at h⊢;split at h
  .cases h
  .cases h
  .rename_i c r q hl;have h1:=hp _ _ hl;simp only[hl]at h1⊢;split at h
   .grind
   rw[XA Ye];split at h
   .grind[QqZ]
   rw[XA Ye];split at h
   .grind
   rw[XA Ye];split at h
   .cases h
   rw[XA Ye];split at h
   .rw[XB Ye];exact Ydj
   grind
theorem QyU(p:PS):(Q5 p).2.l.length<=p.l.length:=by
 grind[Q5,QJ,QiT,Qgb,PK,PB]
theorem Qxh(p:PS)(h:p.bad=true):(Q5 p).2.bad=true:=by
 grind[Q5,Qvo]
def Qv(p:PS):Cl×PS:=
 let h:=Ql 24 { p with vars:=[] }
 let q:=Q5 h.2
 (⟨h.1.k,h.1.n,⟨h.1.s.toArray⟩,h.1.ar,AJ q.1,(q.2.vars.length:Nat)⟩,q.2)
theorem QcD(p:PS)(h:(Qv p).2.bad=false):(Qv p).2.l.length<p.l.length:=by
 have h1:=QyU (Ql 24 { p with vars:=[] }).2
 have h2:(Ql 24 { p with vars:=[] }).2.bad=false:=by
  grind[Qxh,Qv]
 have h3:=Qsu 24 _ h2;show(Q5 (Ql 24 { p with vars:=[] }).2).2.l.length<_;grind
def FE:Nat->PS->Option (List Cl)
 |0,p=>some []
 | n + 1, p => if p.l = [] then some [] else
     if(Qv p).2.bad=true\/cB (Qv p).1=false then none
     else(FE n (Qv p).2).map ((Qv p).1::·)
theorem QnM:∀(n:Nat) (p:PS),p.l.length<=n->FE n p=FE p.l.length p:=by
 intro n
 induction n using Nat.strongRecOn with
 | _ n ih =>
  intro p hn
  cases n with
  |zero=>grind
  |succ n=>
   cases hl:p.l with
   |nil=>simp[FE,hl]
   |cons x r=>
    grind[FE,QcD]
theorem U1{p:PS}(oN:p.l≠[])(hb:¬((Qv p).2.bad=true\/cB (Qv p).1=false)):FE p.l.length p=(FE (Qv p).2.l.length (Qv p).2).map ((Qv p).1::·):=by
 have h1:=QcD p (by grind)
 cases hl:p.l with
 |nil=>grind
 |cons x r=>
  grind[FE,QnM]
theorem Qa6{p:PS}(oN:p.l≠[])(hb:(Qv p).2.bad=true\/cB (Qv p).1=false):FE p.l.length p=none:=by
 cases hl:p.l with
 |nil=>grind
 |cons x r=>grind[FE]
theorem Qgd{p:PS}(h:p.l=[]):FE p.l.length p=some []:=by rw[h];rfl
theorem BQ.body{p:PS}(h:BQ p):BQ (Q5 p).2:=by
 unfold Q5;split
 .rename_i hh;exact BQ.terms (BQ.term 24) [46] MA _ (h.has hh.2 MA)
 .exact h.close MA
theorem BQ.clause{p:PS}(h:BQ p):BQ (Qv p).2:=BQ.body (BQ.term 24 _ (show BQ { p with vars:=[] }from h))
theorem BQ.prog:∀(n:Nat) (p:PS),p.l.length<=n->p.bad=false->BQ p->FE p.l.length p=none:=by
 intro n
 induction n with
 |zero=>
  intro p hn hb h;rcases h with h|⟨x,hx,_⟩
  .grind
  grind
 |succ n ih=>
  intro p hn hb h
  have oN:p.l≠[]:=by
   rcases h with h|⟨x,hx,_⟩
   .grind
   grind
  grind[Qa6,QcD,U1,clause]
theorem EB.body{s:RS}{p:PS}(h:EB s p):EB ((C8 QX s).2.take [46]) (Q5 p).2/\(((C8 QX s).2.take [46]).err=0->(C8 QX s).1=(Q5 p).1):=by
 rcases h with h|h
 .by_cases ht:s.token=[58,45]
  .have hp:=(h.tok Yd).1 ht
   have e1:C8 QX s=QY (QI QX 24) s.adv:=by grind[C8]
   have e2:Q5 p=QO (Ql 24) [46] p.pop:=by unfold Q5 QJ;rw[XB ⟨h.2.1,hp⟩]
   rw[e1,e2];have h5:=(Qg7 24).terms (NL QX 24) (PK 24) (SQ QX 24) (BQ.term 24) [46] MA _ _ (h.adv RP);grind[TV]
  .have e1:C8 QX s=([],s):=by grind[C8]
   have e2:Q5 p=([],p.close [46]):=by grind[Q5,MV.tok]
   rw[e1,e2];exact⟨EB.take (.inl h) MA,fun _=>rfl⟩
 .have e1:C8 QX s=([],s):=by unfold C8;rw[XA (by rw[h.2.1];simp)]
  rw[e1];have h2:=h.2.2.2.body
  have h3:s.take [46]=(s.fail 1).adv:=by unfold RS.take;rw[XA (by rw[h.2.1];simp)]
  rw[h3];have h4:=(h.fail 1 h2).adv h2;exact⟨.inr h4,fun e=>by have:=h4.1;omega⟩
theorem QgJ{s:RS}(h:s.token=[]):QP QX s.left s=([],s):=QnS QX h
theorem EB.fresh{s:RS}{p:PS}(h:EB s p):EB { s with vars:=[] } { p with vars:=[] }:=by
 rcases h with h|h
 .exact .inl ⟨h.1,h.2.1,rfl,h.2.2.2⟩
 .exact .inr ⟨h.1,h.2.1,h.2.2.1,h.2.2.2⟩
theorem EB.clause{s:RS}{p:PS}(h:EB s p):∃s3,(Q8 QX s).2=(if cB (Q8 QX s).1 then s3 else s3.fail 1)/\EB s3 (Qv p).2/\(s3.err=0->(Q8 QX s).1=(Qv p).1):=by
 have h1:=Qg7 24 _ _ h.fresh;have h2:=h1.1.body;refine⟨(C8 QX (QI QX 24 { s with vars:=[] }).2).2.take [46],rfl,h2.1,fun e=> ?_⟩;have hl:=h2.1.live e;have e1:=(TV _ _ e).1
 have e2:(QI QX 24 { s with vars:=[] }).2.err=0:=by
  unfold C8 at e1;split at e1
  .exact PH _ (SQ QX 24 _ (Qf2 (SQ QX 24) _ e1))
  omega
 simp only[Q8,Qv];rw[h1.2 e2,h2.2 e,hl.2.2.1]
theorem QwE:∀(n:Nat) (s:RS) (p:PS),s.left<=n->p.bad=false->EB s p->
  match FE p.l.length p with
  |some L=>(QP QX s.left s).1=L/\(QP QX s.left s).2.err=0
  |none=>(QP QX s.left s).2.err=1:=by
 intro n
 induction n with
 |zero=>
  intro s p hn hb h
  have ht:s.token=[]:=by unfold RS.left at hn;exact VL Ya
  rw[QgJ ht];rcases h with h|h
  .rcases h.2.2.2 with⟨_,_,h3⟩|⟨h1,_⟩
   .rw[Qgd h3];exact⟨rfl,h.1⟩
   .exact absurd ht h1.1
  .exact Yef
 |succ n ih=>
  intro s p hn hb h;by_cases ht:s.token=[]
  .rw[QgJ ht];rcases h with h|h
   .rcases h.2.2.2 with⟨_,_,h3⟩|⟨h1,_⟩
    .rw[Qgd h3];exact⟨rfl,h.1⟩
    .exact absurd ht h1.1
   .exact Yef
  .rw [QnT QX ht];have pU:=Qfl QX s ht
   have oN:p.l≠[]:=by
    rcases h with h|h
    .rcases h.2.2.2 with⟨h1,_,_⟩|⟨_,h3⟩
     .grind
     grind
    .exact absurd h.2.1 ht
   obtain⟨s3,e3,hr,wZ⟩:=h.clause
   have Ip:∀s',s'.token=[]->s'.err=1->(QP QX s'.left s').2.err=1:=fun s' h1 h2=>by grind[QgJ]
   rcases hr with hl|hd
   .rw[wZ hl.1]at e3;by_cases hc:cB (Qv p).1=true
    .rw[XB hc]at e3;have pH:¬((Qv p).2.bad=true\/cB (Qv p).1=false):=by simp[hl.2.1,hc]
     rw[U1 oN pH,e3];have h5:=ih s3 (Qv p).2 (by grind) hl.2.1 (.inl hl)
     cases hp:FE (Qv p).2.l.length (Qv p).2 with
     |none=>grind
     |some L=>
      rw[hp]at h5;simp only[X7];exact⟨by rw[wZ hl.1,h5.1],h5.2⟩
    .have zQ:cB (Qv p).1=false:=by grind
     rw[XA hc]at e3;rw[Qa6 oN (.inr zQ),e3];exact Ip _ rfl (by simp[RS.fail,hl.1])
   .have h6:(Q8 QX s).2.token=[]/\(Q8 QX s).2.err=1:=by
     rw[e3];split
     .exact⟨hd.2.1,hd.1⟩
     .exact⟨rfl,by simp[RS.fail,hd.1]⟩
    have h7:=Ip _ h6.1 h6.2
    have h8:FE p.l.length p=none:=by
     by_cases hc:(Qv p).2.bad=true\/cB (Qv p).1=false
     .grind[Qa6]
     .have h0:(Qv p).2.bad=false:=by grind
      rw[U1 oN hc,BQ.prog _ _ (XF _) h0 hd.2.2.2];rfl
    grind
def PS.start(l:AA):PS:=⟨FT l,[],false⟩
theorem Qnw(l:AA)(h:¬2000<l.length):EB (RS.start l) (PS.start l):=by
 grind[RS.start,PS.start,QvU]
theorem Qk0(l:AA)(h:2000<l.length):(RS.start l).token=[]/\(RS.start l).err=3:=by
 unfold RS.start;rw[XB h];exact FI
def QF(l:AA):List Cl×Int:=
 if 2000<l.length then([],3)else
 match FE (PS.start l).l.length (PS.start l)with
 |none=>([],1)
 |some L=>if 24<L.length then([],3)else(L,0)
theorem QjN(l:AA):QC QX l=QF l:=by
 unfold QC QF;by_cases h:2000<l.length
 .grind[Qk0,QgJ]
 .rw[XA h];have h1:=QwE _ (RS.start l) (PS.start l) (XF _) rfl (Qnw l h);generalize QP QX (RS.start l).left (RS.start l)=q at h1⊢
  grind[RS.fail]
def MU(l:AA):Ts×Nat×Int:=
 if 2000<l.length then(.nil,0,3)else
 let g:=QJ (PS.start l)
 if g.2.bad=true\/g.2.l≠[]\/qB (g.2.vars.length:Nat) (AJ g.1)=false then(.nil,0,1)else(AJ g.1,g.2.vars.length,0)
theorem QjL(l:AA):QM QX l=MU l:=by
 unfold QM MU;by_cases h:2000<l.length
 .obtain⟨h1,h2⟩:=Qk0 l h;rw[XB h]
  have e1:(QY (QI QX 24) (RS.start l)).2.err=3:=by
   grind[QI,RS.fail,QY,Z8]
  grind[RS.take,RS.adv,RS.fail]
 .rw[XA h];have h5:=(Qg7 24).terms (NL QX 24) (PK 24) (SQ QX 24) (BQ.term 24) [46] MA _ _ (Qnw l h);have h6:EB ((QY (QI QX 24) (RS.start l)).2.take [46]) (QJ (PS.start l)).2:=h5.1;have h7:((QY (QI QX 24) (RS.start l)).2.take [46]).err=0->(QY (QI QX 24) (RS.start l)).1=(QJ (PS.start l)).1:=fun e=>h5.2 (TV _ _ e).1;clear h5;simp only;generalize QJ (PS.start l)=g at*;generalize QY (QI QX 24) (RS.start l)=a at*;generalize a.2.take [46]=s at*;rcases h6 with hl|hd
  .rw[h7 hl.1,hl.2.2.1]
   have pY:s.token=[]↔g.2.l=[]:=by
    rcases hl.2.2.2 with⟨h1,_,h3⟩|⟨h1,h3⟩
    .grind
    .rw[h3];simp[h1.1]
   by_cases hq:s.token=[]/\qB (g.2.vars.length:Nat) (AJ g.1)=true
   .rw[XB hq,XB hl.1,XA (by simp[hl.2.1,pY.1 hq.1,hq.2]),hl.2.2.1]
   .have e:(s.fail 1).err=1:=by simp[RS.fail,hl.1]
    grind
  .have e4:∀b:Prop,∀_:Decidable b,(if b then s else s.fail 1).err=1:=by
    intro b _;split
    .exact hd.1
    .simp[RS.fail,hd.1]
   rw[XA (by simp_all),e4,XB];rcases hd.2.2.2 with h|⟨x,hx,_⟩
   .grind
   grind
def DY(w:TG)(mb:Nat)(CC:List (Int×TH)):Prop:=
 ∃es rY,w.heap[mb]?=some (.map es rY)/\es.toList.map (fun e=>(e.key,e.val))=CC.map (fun x=>(Value.int .i64 x.1,x.2))
def K2(n:Int):List (Int×TH)->Option TH
 |[]=>none
 |x::r=>if n=x.1 then some x.2 else K2 n r
def TF(n:Int)(v:TH):List (Int×TH)->List (Int×TH)
 |[]=>[(n,v)]
 |x::r=>if n=x.1 then(n,v)::r else x::TF n v r
def K0(n:Int):List (Int×TH)->Nat->Option (Nat×TH)
 |[],_=>none
 |x::r,i=>if n=x.1 then some (i,x.2)else K0 n r (i+1)
theorem Qfe(n:Int):MapKept.IsKey (.int .i64) (.int .i64 n):=by simp[MapKept.IsKey]
theorem Qfj(n:Int):∀(es:List MapEntry) (CC:List (Int×TH)) (i:Nat),es.map (fun e=>(e.key,e.val))=CC.map (fun x=>(Value.int .i64 x.1,x.2))->
  Instr.findNow (.int .i64) (.int .i64 n) es i=some (K0 n CC i)
 |[],[],i,_=>rfl
 |[],_::_,_,h=>by grind
 |_::_,[],_,h=>by grind
 |e::es,x::CC,i,h=>by
  simp only[VE,List.cons.injEq,J7]at h;obtain⟨⟨h1,h2⟩,h3⟩:=h;have ih:=Qfj n es CC (i+1) h3;simp only[Instr.findNow,h1,Instr.sameNow,K0,X5];grind
theorem Qkq{n:Int}:∀{CC:List (Int×TH)} {i:Nat},K0 n CC i=none↔K2 n CC=none
 |[],_=>by simp[K0,K2]
 |x::r,i=>by
  simp only[K0,K2];by_cases e:n=x.1
  .simp[e]
  .simp only[e,XT];exact Qkq
theorem QoZ{n:Int}:∀{CC:List (Int×TH)} {i j:Nat} {v:TH},K0 n CC i=some (j,v)->K2 n CC=some v
 |[],_,_,_,h=>by simp[K0]at h
 |x::r,i,j,v,h=>by
  simp only[K0,K2]at*;by_cases e:n=x.1
  .grind
  .simp only[e,XT]at h⊢;exact QoZ h
theorem Qg8{n:Int}{v:TH}:∀{CC:List (Int×TH)},K2 n CC=none->TF n v CC=CC++[(n,v)]
 |[],_=>rfl
 |x::r,h=>by
  simp only[K2]at h;by_cases e:n=x.1
  .grind
  .simp only[e,XT]at h;simp only[TF,e,XT,Qg8 h,VI]
theorem QoV{n:Int}{v u:TH}:∀{CC:List (Int×TH)} {i j:Nat},K0 n CC i=some (j,u)->i<=j/\(CC[j-i]?).map (·.1)=some n/\TF n v CC=CC.set (j-i) (n,v)
 |[],_,_,h=>by simp[K0]at h
 |x::r,i,j,h=>by
  simp only[K0,TF]at*;by_cases e:n=x.1
  .grind
  .simp only[e,XT]at h⊢;obtain⟨h1,h2,h3⟩:=QoV (v:=v) h;have e1:j-i=(j-(i+1))+1:=by omega
   grind
section
variable{P:Program}{w:TG}{mb:Nat}{CC:List (Int×TH)}{t kt et:TypeId}
theorem DY.lt(h:DY w mb CC):mb<w.heap.size:=by
 obtain⟨_,_,hb,_⟩:=h;grind
theorem DY.keep{w':TG}(h:DY w mb CC)(hk:w'.heap[mb]?=w.heap[mb]?):DY w' mb CC:=by
 obtain⟨es,rY,hb,he⟩:=h;exact⟨es,rY,hk.trans hb,he⟩
theorem DY.made(w:TG):DY (w.alloc (.map #[] 0)) w.heap.size []:=⟨#[],0,heap_alloc_new w _,rfl⟩
theorem Qjv{P:Program}(t:TypeId)(w:TG):(Instr.makeMap t none).run P w= .ok (.map (some w.heap.size)) (w.alloc (.map #[] 0)):=by
 simp_all[Instr.makeMap]
theorem DY.lookup(h:DY w mb CC){z:TH}(ht:P.underlying t=some (.map kt et))(hk:P.underlying kt=some (.int .i64))
  (hz:(zeroValue et).run P w= .ok z w) (n:Int) (c:Bool):
  (Instr.lookup t (.map (some mb)) (.int .i64 n) c).run P w= .ok (if c then .tuple #[(K2 n CC).getD z,.bool (K2 n CC).isSome]else(K2 n CC).getD z) w:=by
 obtain⟨es,_,hb,he⟩:=h;have hf:=Qfj n es.toList CC 0 he
 cases ha:K0 n CC 0 with
 |none=>
  rw[ha]at hf;simp[Instr.lookup,VC ht,ZH hb,XaJ hk (Qfe n),XaK hk hf,hz,Result.andThen,Qkq.1 ha]
 |some x=>
  rw[ha]at hf;simp[Instr.lookup,VC ht,ZH hb,XaJ hk (Qfe n),XaK hk hf,Result.andThen,QoZ ha]
theorem DY.update(h:DY w mb CC)(ht:P.underlying t=some (.map kt et))(hk:P.underlying kt=some (.int .i64))(n:Int)(v:TH):
  ∃w',(Instr.mapUpdate t (.map (some mb)) (.int .i64 n) v).run P w= .ok () w'/\DY w' mb (TF n v CC)/\AM (fun k=>k=mb) w w'/\w'.heap.size=w.heap.size:=by
 have pU:=h.lt;obtain⟨es,rY,hb,he⟩:=h;have hf:=Qfj n es.toList CC 0 he
 cases ha:K0 n CC 0 with
 |none=>
  rw[ha]at hf;refine⟨{ w with heap:=w.heap.setIfInBounds mb (.map (es.push { key:= .int .i64 n,val:=v,born:=rY }) (rY+1)) },?_,⟨_,_,(XaL hb).1,?_⟩,⟨rfl,rfl,rfl,by simp,fun k _ hn=>(XaL hb).2 k hn⟩,by simp⟩
  .simp[Instr.mapUpdate,VC ht,ZH hb,XaJ hk (Qfe n),XaK hk hf,MapKept.run_setObj_map _ hb,Result.andThen]
  grind[Qg8,Qkq]
 |some x=>
  obtain⟨j,u⟩:=x;rw[ha]at hf;obtain⟨_,h2,h3⟩:=QoV (v:=v) ha;simp only[Nat.sub_zero]at h2 h3
  have Zb:∃e,es[j]?=some e/\e.key= .int .i64 n:=by
   have h4:=XM (fun l=>l[j]?) he;grind
  obtain⟨e,hj,Kh⟩:=Zb;refine⟨{ w with heap:=w.heap.setIfInBounds mb (.map (es.modify j fun e=>{ e with key:= .int .i64 n,val:=v }) rY) },?_,⟨_,_,(XaL hb).1,?_⟩,⟨rfl,rfl,rfl,by simp,fun k _ hn=>(XaL hb).2 k hn⟩,by simp⟩
  .simp[Instr.mapUpdate,VC ht,ZH hb,XaJ hk (Qfe n),XaK hk hf,hj,Kh,MapKept.run_keyThatStays (Qfe n),MapKept.run_setObj_map _ hb,Result.andThen]
  .rw[h3];apply J1;intro i;have h4:=XM (fun l=>l[i]?) he;grind
theorem DY.size(h:DY w mb CC):∃es rY,w.heap[mb]?=some (.map es rY)/\es.size=CC.length:=by
 obtain⟨es,rY,hb,he⟩:=h;refine⟨es,rY,hb,?_⟩;have:=XM List.length he;grind
theorem DY.len(h:DY w mb CC)(ht:P.underlying t=some (.map kt et))(ty:TypeId):(Builtin.len_ #[t] ty #[.map (some mb)]).run P w= .ok (.int .i64 CC.length) w:=by
 obtain⟨_,_,hb,hs⟩:=h.size;simp[Builtin.len_,VC ht,ZH hb,Result.andThen,hs,goInt]
end
section
variable{P:Program}{n:Nat}{e:AW}{w:TG}{Q:Exit->Act->TG->Prop}{oI:TB}{rest:TC}{ty:TypeId}{pos:String}{after:TE}{d:Nat}
variable{M:T6}{w0:TG}{H H':T0}{F:T3}{mb:Nat}{es:Array MapEntry}{Zc:Nat}{CC:List (Int×TH)}{x y u:Operand}{v z:TH}{dst:TD}{t kt:TypeId}{i:Int}
end
def pB(L:List Cl):Bool:=decide (L.length<=24)&&L.all cB
theorem Qlw(a b:List Cl):KF (a++b)=KF a+KF b:=by
 induction a with
 |nil=>simp[KF]
 |cons c r ih=>grind[KF]
theorem Qn5(L:List Cl):L.length<=KF L:=by
 induction L with
 |nil=>grind
 |cons c r ih=>simp only[XJ,KF,Cl.nodes];omega
def QrZ(w:TG)(L:List Cl)(g:Nat)(sx:TH)(wr:TG):Prop:=∃D R:List Cl,L=D++R/\g=R.length/\sx= .int .i64 D.length/\D.all cB=true/\Below w.heap.size w wr
def Qx4(w:TG)(L:List Cl)(b:Bool)(g:Nat)(so sx:TH)(wr:TG):Prop:=∃D R:List Cl,L=D++R/\g=R.length/\sx= .int .i64 D.length/\so= .bool (b&&D.all cB)/\Below w.heap.size w wr
theorem Qva(L:List Cl)(v:TH)(w:TG)(hv:EM w (fun _=>True) v L)(hn:KF L<=1048576):
  Calls prog 28 #[v] w fun e w'=>e= .returned (.bool (pB L))/\Below w.heap.size w w':=by
 obtain⟨A,d,rfl,hs⟩:=hv.form;have oW:=Qn5 L;generalize hr:pB L=rb;have R:=XH hr;clear hr;by_cases h3:24<L.length
 .exact Ybx
 have hq:Hid (rb=L.all cB):=XH (by grind[pB,Hid.out])
 have h0:QrZ w L L.length (.int .i64 0) w:=⟨[],L,rfl,rfl,rfl,rfl,XR _ _⟩
 go_enter func28,ntmps28;go_wp2_with fail;go_loopg [10] L.length (QrZ w L)
 case atStart=>exact h0
 case round=>
  clear h0;obtain⟨D,R',hT,hg,rfl,hD,hb⟩:=hrel;have HT:=XH hT;have HG:=XH hg;have HD:=XH hD;clear hT hg hD;have qK:=hs.below hb
  cases R' with
  |nil=>
   have eD:D=L:=by rw[HT.out,VF]
   exact ZN
  |cons c r=>
   have e1:D.length<L.length:=by rw[HT.out,XG];simp
   have pS:c.nodes<=1048576:=by have:=hn;exact Yd4
   have yD:c.hd.nodes<1048576:=by simp only[Cl.nodes]at pS;omega
   have Cj:c.bd.nodes<=1048576:=by simp only[Cl.nodes]at pS;omega
   rw[HT.out]at qK;rw[show(D++c::r).length=L.length by rw[<-HT.out]]at qK;obtain⟨_,_,rfl,_,_,_,_,⟨_,_,oJ⟩,⟨_,_,pG⟩,_,_⟩:=EM.at_ qK Yd;obtain⟨A1,d1,rfl,oJ⟩:=oJ.form;obtain⟨A2,d2,rfl,pG⟩:=pG.form;clear qK;have hX:Below wr.heap.size wr (wr.alloc (.cells #[.int .i64 c.k,.int .i64 c.n,.string c.s,.slice A1 c.hd.length d1,.slice A2 c.bd.length d2,.int .i64 c.vars] 65)):=(XR _ _).alloc (XF _) _;have qV:=hb.trans (hX.mono hb.size);go_wp2_with fail;refine(QfY c _ _ _ (oJ.below hX) (pG.below hX) yD Cj).mono ?_;rintro e _ ⟨rfl,pH⟩;have oZ:=qV.trans (pH.mono qV.size);generalize sG:cB c=gb;have sU:=XH sG;clear sG
   cases gb with
   |false=>
    exact Ycq
   |true=>
    go_wp2_with fail;go_roundg r.length
    case measure=>rw[HG.out];simp
    case rel=>
     refine⟨D++[c],r,?_,rfl,?_,?_,oZ⟩
     .rw[HT.out,VB];rfl
     .grind
     grind[Hid.out]
theorem QmE(L:List Cl)(v:TH)(w:TG)(hv:EM w (fun _=>True) v L)(hn:KF L<=1048576):
  Calls prog 60 #[v] w fun e w'=>e= .returned (.bool (pB L))/\Below w.heap.size w w':=by
 obtain⟨A,d,rfl,hs⟩:=hv.form;have oW:=Qn5 L;generalize hr:pB L=rb;have R:=XH hr;clear hr;go_enter func60,ntmps60;go_wp2_with fail
 have pN:decide ((L.length:Int)<=24)=decide (L.length<=24):=by grind
 generalize Ar:decide ((L.length:Int)<=24)=b;have hq:Hid (rb=(b&&L.all cB)):=XH (by grind[pB,Hid.out]);clear pN Ar
 have h0:Qx4 w L b L.length (.bool b) (.int .i64 0) w:=⟨[],L,rfl,rfl,rfl,by simp,XR _ _⟩
 go_loopg [3,11] L.length (Qx4 w L b)
 case atStart=>exact h0
 case round=>
  clear h0;obtain⟨D,R',hT,hg,rfl,rfl,hb⟩:=hrel;have HT:=XH hT;have HG:=XH hg;clear hT hg;have qK:=hs.below hb;generalize rK:(b&&D.all cB)=db;have HD:=XH rK;clear rK
  cases R' with
  |nil=>
   have eD:D=L:=by rw[HT.out,VF]
   exact ZN
  |cons c r=>
   have e1:D.length<L.length:=by rw[HT.out,XG];simp
   have pS:c.nodes<=1048576:=by have:=hn;exact Yd4
   have yD:c.hd.nodes<1048576:=by simp only[Cl.nodes]at pS;omega
   have Cj:c.bd.nodes<=1048576:=by simp only[Cl.nodes]at pS;omega
   rw[HT.out]at qK;rw[show(D++c::r).length=L.length by rw[<-HT.out]]at qK;obtain⟨_,_,rfl,_,_,_,_,⟨_,_,oJ⟩,⟨_,_,pG⟩,_,_⟩:=EM.at_ qK Yd;obtain⟨A1,d1,rfl,oJ⟩:=oJ.form;obtain⟨A2,d2,rfl,pG⟩:=pG.form;clear qK;have hX:Below wr.heap.size wr (wr.alloc (.cells #[.int .i64 c.k,.int .i64 c.n,.string c.s,.slice A1 c.hd.length d1,.slice A2 c.bd.length d2,.int .i64 c.vars] 65)):=(XR _ _).alloc (XF _) _;have qV:=hb.trans (hX.mono hb.size)
   cases db with
   |false=>
    go_wp2_with fail;go_roundg r.length
    case measure=>rw[HG.out];simp
    case rel=>
     refine⟨D++[c],r,?_,rfl,?_,?_,qV⟩
     .rw[HT.out,VB];rfl
     .grind
     grind[Hid.out]
   |true=>
    go_wp2_with fail;refine(Qff c _ _ _ (oJ.below hX) (pG.below hX) yD Cj).mono ?_;rintro e _ ⟨rfl,pH⟩;have oZ:=qV.trans (pH.mono qV.size);generalize sG:cB c=gb;have sU:=XH sG;clear sG;go_wp2_with fail;go_roundg r.length
    case measure=>rw[HG.out];simp
    case rel=>
     refine⟨D++[c],r,?_,rfl,?_,?_,oZ⟩
     .rw[HT.out,VB];rfl
     .grind
     grind[Hid.out]
section
variable{w w':TG}{p q:Nat->Prop}
end
def low(n:Int):Int:=n%1099511627776
theorem QlE(n:Int):0<=low n/\low n<1099511627776:=by grind[low]
def pos(n:Int):T7->TD
 |[]=>none
 |k::r=>if n=k then some 0 else(pos n r).map (· +1)
def KG(ks:T7)(n:Int):Int:=((pos n ks).getD ks.length:Nat)
def H8(ks:T7)(n:Int):T7:=if(pos n ks).isSome then ks else ks++[n]
def OP(i:Nat):T7->List (Int×TH)
 |[]=>[]
 |k::r=>(k,.int .i64 i)::OP (i+1) r
theorem Qdq:∀(ks:T7) (i:Nat),(OP i ks).length=ks.length
 |[],_=>rfl
 |_::r,i=>by simp[OP,Qdq r (i+1)]
theorem RY(n:Int):∀(ks:T7) (i:Nat),K2 n (OP i ks)=(pos n ks).map fun j=>Value.int .i64 ((i+j:Nat):Int)
 |[],_=>rfl
 |k::r,i=>by
  simp only[OP,K2,pos];by_cases e:n=k
  .simp[e]
  .simp only[e,XT,RY n r (i+1),WR];congr 1;grind
theorem Qev(n:Int):∀(ks:T7) (i:Nat),OP i (ks++[n])=OP i ks++[(n,.int .i64 ((i+ks.length:Nat):Int))]
 |[],i=>rfl
 |k::r,i=>by
  simp only[VI,OP,Qev n r (i+1),XJ];grind
def M6(w:TG)(mb:Nat)(ks:T7):Prop:=DY w mb (OP 0 ks)
theorem Qq1{n:Int}:∀{ks:T7},pos n ks=none->pos n (ks++[n])=some ks.length
 |[],_=>by simp[pos]
 |k::r,h=>by
  simp only[pos]at h;by_cases e:n=k
  .grind
  .simp only[e,XT,Option.map_eq_none_iff]at h;simp[pos,e,Qq1 h]
theorem QR.not_map{w:TG}{g mb:Nat}{t:TypeId}{cs:T9}{CC:List (Int×TH)}(h:QR w g t cs)(hm:DY w mb CC):g≠mb:=by
 rintro rfl;obtain⟨_,_,hb,_⟩:=hm;unfold QR at h;grind
theorem Qw4:(prog.info? 3).map (fun i=>(i.zero,i.size,i.bytes))=some (some (.int .i64 0),1,8):=by kernel_rfl
theorem Qiu(w:TG):(zeroValue 3).run prog w= .ok (.int .i64 0) w:=by
 obtain⟨_,uZ,vB,_⟩:=TS Qw4;simp[zeroValue,typeInfo,uZ,vB]
theorem Qje(n:Int): -1099511627776<n.tmod 1099511627776/\n.tmod 1099511627776<1099511627776:=by
 grind
theorem QpN(n:Int):low n=if 0<=n.tmod 1099511627776 then n.tmod 1099511627776 else n.tmod 1099511627776+1099511627776:=by
 grind[low]
theorem QuQ(n:Int):(n.tmod 1099511627776+1099511627776).tmod 1099511627776=low n:=by
 grind[QpN]
theorem QnA(n:Int)(w:TG):Calls prog 161 #[.int .i64 n] w fun e w'=>e= .returned (.int .i64 (low n))/\w=w':=by
 obtain⟨_,_⟩:=Qje n;have HL2:=XH (show(n.tmod 1099511627776+1099511627776)%1099511627776=low n by grind[QuQ]);go_enter func161,ntmps161;go_wp2_with fail;go_ret;apply Zq.eI.1;rw[<-HL2.out];rfl
theorem Qnz(n m:Int)(fb nb:Nat)(w:TG)(hf:QR w fb 106 #[.func (.func 161) #[] #[]])(hv:QR w nb 3 #[.int .i64 m]):
  Calls prog 163 #[.int .i64 n,.pointer (some ⟨fb,0,none⟩),.pointer (some ⟨nb,0,none⟩)] w fun e w'=>e= .returned (.int .i64 (low n+low m))/\∃q,w'=w.drewN q:=by
 obtain⟨_,_⟩:=QlE n;obtain⟨_,_⟩:=QlE m;have c0:w.cell? ⟨fb,0,none⟩=some (.func (.func 161) #[] #[]):=hf.cell 0;have c1:w.cell? ⟨nb,0,none⟩=some (.int .i64 m):=hv.cell 0;go_enter func163,ntmps163;go_wp2_with fail;go_quiet ((go_at_call 161;exact Calls.quiet_of_same ((QnA _ _).mono fun e w' h=>⟨h.1,h.2.symm⟩)));go_wp2_with fail;go_ret;exact⟨rfl,_,rfl⟩
theorem QtI(n:Int)(ks:T7)(vb mb:Nat)(w:TG)(hv:QR w vb 199 #[.map (some mb)])(hm:M6 w mb ks):
  Calls prog 145 #[.int .i64 n,.pointer (some ⟨vb,0,none⟩)] w fun e w'=>e= .returned (.int .i64 (KG ks n))/\M6 w' mb (H8 ks n)/\AM (fun k=>k=mb) w w':=by
 have c0:w.cell? ⟨vb,0,none⟩=some (.map (some mb)):=hv.cell 0;have Qw:=DY.lookup (P:=prog) hm underlying199 underlying3 (Qiu w) n true;rw[RY]at Qw;have oG:=DY.len (P:=prog) hm underlying199;rw[Qdq]at oG;obtain⟨w1,_,Fq,uU,_⟩:=DY.update (P:=prog) hm underlying199 underlying3 n (.int .i64 ks.length)
 cases hp:pos n ks with
 |none=>
  rw[hp]at Qw;simp only[J5,Xa6,J6,X5]at Qw;have h1:KG ks n=ks.length:=by simp[KG,hp]
  have h2:M6 w1 mb (H8 ks n):=by
   grind[M6,H8,Qev,Qg8,RY]
  have H1:=XH h1;clear h1 hp;go_enter func145,ntmps145;exact Ydy
 |some j=>
  rw[hp]at Qw;simp only[X7,UY,Xa8,X5]at Qw;have h1:KG ks n=j:=by simp[KG,hp]
  have h2:M6 w mb (H8 ks n):=by
   grind[H8]
  have H1:=XH h1;clear h1 hp;go_enter func145,ntmps145;exact Yc0
theorem Qpk(n:Int)(ks:T7)(vb mb:Nat)(w:TG)(hv:QR w vb 199 #[.map (some mb)])(hm:M6 w mb ks):
  Calls prog 198 #[.int .i64 n,.pointer (some ⟨vb,0,none⟩)] w fun e w'=>e= .returned (.int .i64 (KG ks n))/\M6 w' mb (H8 ks n)/\AM (fun k=>k=mb) w w':=by
 have c0:w.cell? ⟨vb,0,none⟩=some (.map (some mb)):=hv.cell 0;have Qw:=DY.lookup (P:=prog) hm underlying199 underlying3 (Qiu w) n true;rw[RY]at Qw;have oG:=DY.len (P:=prog) hm underlying199;rw[Qdq]at oG;obtain⟨w1,_,Fq,uU,_⟩:=DY.update (P:=prog) hm underlying199 underlying3 n (.int .i64 ks.length)
 cases hp:pos n ks with
 |none=>
  rw[hp]at Qw;simp only[J5,Xa6,J6,X5]at Qw;have h1:KG ks n=ks.length:=by simp[KG,hp]
  have h2:M6 w1 mb (H8 ks n):=by
   grind[M6,H8,Qev,Qg8,RY]
  have Dl:=DY.lookup (P:=prog) h2 underlying199 underlying3 (Qiu w1) n false;have c1:w1.cell? ⟨vb,0,none⟩=some (.map (some mb)):=(hv.chg uU (fun e=>QR.not_map hv hm e)).cell 0;rw[RY,show pos n (H8 ks n)=some ks.length by grind[H8,Qq1]]at Dl;simp only[X7,UY,X6,XT]at Dl;have H1:=XH h1;clear h1 hp;go_enter func198,ntmps198;exact Ydy
 |some j=>
  rw[hp]at Qw;simp only[X7,UY,Xa8,X5]at Qw;have h1:KG ks n=j:=by simp[KG,hp]
  have h2:M6 w mb (H8 ks n):=by
   grind[H8]
  have Dl:=DY.lookup (P:=prog) hm underlying199 underlying3 (Qiu w) n false;rw[RY,hp]at Dl;simp only[X7,UY,X6,XT]at Dl;have H1:=XH h1;clear h1 hp;go_enter func198,ntmps198;exact Yc0
structure CM(σ:Type) where
 fid:FuncId
 cap:T9
 own:Nat->Prop
 lean:Nat->Prop
 inv:σ->TG->Prop
 val:σ->Int->Int
 nxt:σ->Int->σ
structure CM.Ok{σ:Type}(N:CM σ):Prop where
 keep:∀s w w',N.inv s w->(∀k,N.lean k->w'.heap[k]?=w.heap[k]?)->N.inv s w'
 lt:∀s w k,N.inv s w->N.lean k->k<w.heap.size
 sub:∀k,N.own k->N.lean k
 bare:∀s w k c t f,N.inv s w->N.own k->w.heap[k]?≠some (.cells c t f)
 enter:∀(args:T9) (w:TG),(callFunc N.fid args).run prog w= .ok (.enter N.fid args) w
 call:∀s n w,N.inv s w->Calls prog N.fid (#[.int .i64 n]++N.cap) w fun e w'=>e= .returned (.int .i64 (N.val s n))/\N.inv (N.nxt s n) w'/\AM N.own w w'
def CM.v1{σ:Type}(N:CM σ)(k n:Int)(s:σ):Int:=if k=0 then N.val s n else n
def CM.s1{σ:Type}(N:CM σ)(k n:Int)(s:σ):σ:=if k=0 then N.nxt s n else s
def Ts.ren{σ:Type}(N:CM σ):Ts->σ->Ts×σ
 | .nil,s=>(.nil,s)
 | .cons k n b ar r,s=>(.cons k (N.v1 k n s) b (ar.ren N (N.s1 k n s)).1 (r.ren N (ar.ren N (N.s1 k n s)).2).1,(r.ren N (ar.ren N (N.s1 k n s)).2).2)
theorem Ts.ren_app{σ:Type}(N:CM σ)(D R:Ts):∀s:σ,(D.app R).ren N s=((D.ren N s).1.app (R.ren N (D.ren N s).2).1,(R.ren N (D.ren N s).2).2):=by
 induction D with
 |nil=>intro s;rfl
 |cons k n b ar r _ ih=>grind[ren,app]
theorem Ts.length_ren{σ:Type}(N:CM σ)(T:Ts):∀s:σ,(T.ren N s).1.length=T.length:=by
 induction T with
 |nil=>intro s;rfl
 |cons k n b ar r _ ih=>grind[length,ren]
section
variable{σ:Type}{N:CM σ}
theorem CM.Ok.cell_none(ok:N.Ok){w:TG}{s:σ}{k o:Nat}(hi:N.inv s w)(ho:N.own k):w.cell? ⟨k,o,none⟩=none:=by
 grind[bare,World.cell?]
theorem CM.Ok.sl(ok:N.Ok){w w':TG}{p:Nat->Prop}{s:σ}{v:TH}{T:Ts}(h:Sl w p v T)(hi:N.inv s w)(hc:AM N.own w w'):Sl w' p v T:=by
 have h1:Sl w (fun k=>p k/\¬N.own k) v T:=h.imp' fun k hk ⟨j,u,hu⟩=>⟨hk,fun ho=>by grind[cell_none]⟩
 exact(h1.chg hc fun k hk=>hk.2).imp fun k hk _=>hk.1
end
def Qm2 {σ : Type} (N : CM σ) (ar : Ts) : Prop := ∀ (k n : Int) (b : TJ) (v : TH) (s : σ) (w : TG), Sl w (fun _ => True) v ar -> N.inv s w -> ar.nodes <= 1048576 ->
    Calls prog 162 #[.agg #[.int .i64 k,.int .i64 n,.string b,v],.func (.func N.fid) #[] N.cap] w fun e w'=>∃v',e= .returned (.agg #[.int .i64 k,.int .i64 (N.v1 k n s),.string b,v'])/\
     Sl w' (fun k=>w.heap.size<=k) v' (ar.ren N (N.s1 k n s)).1/\N.inv (ar.ren N (N.s1 k n s)).2 w'/\AM N.own w w'
structure QzA{σ:Type}(N:CM σ)(w:TG)(k n:Int)(b:TJ)(v:TH)(s:σ)(wx:TG):Prop where
 t:QR wx w.heap.size 63 #[.int .i64 k,.int .i64 n,.string b,v]
 r:QR wx (w.heap.size+1) 63 #[.int .i64 0,.int .i64 0,.string ⟨#[]⟩,.slice none 0 0]
 inv:N.inv s wx
 chg:AM N.own w wx
structure ZR{σ:Type}(N:CM σ)(w:TG)(T:Ts)(k n:Int)(b:TJ)(s:σ)(u:TH)(D R:Ts)(xs:T5)(wr:TG):Prop where
 split:T=D.app R
 t:QR wr w.heap.size 63 #[.int .i64 k,.int .i64 n,.string b,u]
 r:QR wr (w.heap.size+1) 63 #[.int .i64 0,.int .i64 0,.string ⟨#[]⟩,.slice none 0 0]
 own:wr.ownsRow (w.heap.size+2) 63 4 u D.length xs
 cs:Cs wr (fun k=>w.heap.size+2<=k/\u.ownBlock≠some k) (D.ren N s).1 xs
 inv:N.inv (D.ren N s).2 wr
 chg:AM N.own w wr
def Qv3{σ:Type}(N:CM σ)(w:TG)(T:Ts)(k n:Int)(b:TJ)(s:σ)(g:Nat)(s21:TH)(wr:TG):Prop:=
 ∃(u:TH) (D R:Ts) (xs:T5),ZR N w T k n b s u D R xs wr/\g=R.length/\s21= .int .i64 D.length
theorem ZR.step{σ:Type}{N:CM σ}(ok:N.Ok){w wr W w3:TG}{T D r ar:Ts}{k n k1 n1:Int}{b s1:TJ}{s s0:σ}{u v3 v:TH}{xs:T5}(hi:N.inv s0 w)
  (h:ZR N w T k n b s u D (.cons k1 n1 s1 ar r) xs wr) (hC:AM N.own wr W)
  (hv:Sl W (fun k=>wr.heap.size<=k) v (ar.ren N (N.s1 k1 n1 (D.ren N s).2)).1) (hI:N.inv (ar.ren N (N.s1 k1 n1 (D.ren N s).2)).2 W)
  (Ki:w3.ownsRow (w.heap.size+2) 63 4 v3 (D.length+1) (xs++[.int .i64 k1,.int .i64 (N.v1 k1 n1 (D.ren N s).2),.string s1,v]))
  (hg:W.grownBy w3 u.ownBlock) (AD:v3.ownBlock=u.ownBlock\/v3.ownBlock=some W.heap.size):
  ZR N w T k n b s v3 (D.app (.cons k1 n1 s1 ar .nil)) r (xs++[.int .i64 k1,.int .i64 (N.v1 k1 n1 (D.ren N s).2),.string s1,v]) (w3.setCell ⟨w.heap.size,3,none⟩ v3):=by
 have pU:=h.own.lt;have oW:∀k,N.lean k->k<w.heap.size:=fun k hk=>ok.lt s0 w k hi hk;have Dc:=h.r.lt
 have uL:∀k,w.heap.size<=k->¬N.own k:=fun k hk ho=>by have:=oW k (ok.sub k ho);omega
 have e:(D.app (.cons k1 n1 s1 ar .nil)).ren N s=((D.ren N s).1.app (.cons k1 (N.v1 k1 n1 (D.ren N s).2) s1 (ar.ren N (N.s1 k1 n1 (D.ren N s).2)).1 .nil),(ar.ren N (N.s1 k1 n1 (D.ren N s).2)).2):=by
  rw[Ts.ren_app];rfl
 have hu:∀k,u.ownBlock=some k->w.heap.size+2<=k/\k<wr.heap.size:=fun k hk=>pU k hk;have hWs:=hC.size
 have qZ:v3.ownBlock≠some w.heap.size:=by
  grind
 have Zd:QR w3 w.heap.size 63 #[.int .i64 k,.int .i64 n,.string b,u]:=(h.t.chg hC (uL _ (XF _))).grown hg (fun e=>by grind);have Ze:QR w3 (w.heap.size+1) 63 #[.int .i64 0,.int .i64 0,.string ⟨#[]⟩,.slice none 0 0]:=(h.r.chg hC (uL _ Ya)).grown hg (fun e=>by grind);refine⟨by rw[h.split,Ts.app_assoc];rfl,Zd.set_ 3 _,Ze.far Yd _,?_,?_,?_,?_⟩
 .rw[Ts.length_app];exact ownsRow_setCell_other Ki qZ _
 .rw [e]
  have h1:Cs W (fun k=>(w.heap.size+2<=k/\v3.ownBlock≠some k)/\u.ownBlock≠some k) ((D.ren N s).1.app (.cons k1 (N.v1 k1 n1 (D.ren N s).2) s1 (ar.ren N (N.s1 k1 n1 (D.ren N s).2)).1 .nil)) (xs++[.int .i64 k1,.int .i64 (N.v1 k1 n1 (D.ren N s).2),.string s1,v]):=by
   refine Cs.app ?_ ⟨v,[],rfl,?_,rfl⟩
   .refine(h.cs.imp (q:=fun k=>(w.heap.size+2<=k/\v3.ownBlock≠some k)/\u.ownBlock≠some k) fun k hk hl=>⟨⟨hk.1,?_⟩,hk.2⟩).keep fun k hk hl=>hC.block k hl (uL k Ya);grind
   grind[Sl.imp]
  refine((h1.keep (w':=w3) fun k hk hl=>hg.block k hl (fun e=>hk.2 e.symm)).imp (q:=fun k=>w.heap.size+2<=k/\v3.ownBlock≠some k) fun k hk _=>hk.1).keep fun k hk _=> ?_;exact JT _ _ _ _ Yg
 .rw[e];refine ok.keep _ W _ hI fun k hk=> ?_;have:=oW k hk;rw[JT _ _ _ _ Yg];grind[World.grownBy.block]
 .refine AM.setCell (((h.chg.trans hC fun _ _ h=>h)).trans (AM.of_grown hg) fun k hk Ay=> ?_) (fun h=>by grind) _;grind
theorem Qsr{σ:Type}{N:CM σ}(ok:N.Ok)(m:Nat)(ih:∀T:Ts,T.nodes<m->Qm2 N T)(T:Ts)(hm:T.nodes<=m):Qm2 N T:=by
 intro k n b v s w hv hi hn;obtain⟨A,c,rfl,hs⟩:=hv.form;have oW:=T.length_le;have vK:=ok.enter;obtain⟨i0,uZ,vB,sY,vX⟩:=TS QgS;have pU:∀k,N.lean k->k<w.heap.size:=fun k=>ok.lt s w k hi;have yE:=XH pU;clear pU
 have Zf:N.inv s ((w.alloc (.cells #[.int .i64 k,.int .i64 n,.string b,.slice A T.length c] 63)).alloc (.cells #[.int .i64 0,.int .i64 0,.string ⟨#[]⟩,.slice none 0 0] 63)):=
  ok.keep s w _ hi fun k hk=>by
   have:=yE.out k hk;rw[JF _ _ _ Yg,JF _ _ _ this]
 have Zg:AM N.own w ((w.alloc (.cells #[.int .i64 k,.int .i64 n,.string b,.slice A T.length c] 63)).alloc (.cells #[.int .i64 0,.int .i64 0,.string ⟨#[]⟩,.slice none 0 0] 63)):=
  ((AM.refl _ _).alloc _).alloc _
 have b0:QR ((w.alloc (.cells #[.int .i64 k,.int .i64 n,.string b,.slice A T.length c] 63)).alloc (.cells #[.int .i64 0,.int .i64 0,.string ⟨#[]⟩,.slice none 0 0] 63)) w.heap.size 63 #[.int .i64 k,.int .i64 n,.string b,.slice A T.length c]:=
  (QR.new w _ _).alloc _
 have b1:QR ((w.alloc (.cells #[.int .i64 k,.int .i64 n,.string b,.slice A T.length c] 63)).alloc (.cells #[.int .i64 0,.int .i64 0,.string ⟨#[]⟩,.slice none 0 0] 63)) (w.heap.size+1) 63 #[.int .i64 0,.int .i64 0,.string ⟨#[]⟩,.slice none 0 0]:=by
  grind[World.alloc,QR.new]
 go_enter func162,ntmps162;go_upto_if 10 with fail;go_cut [] (fun wx=>QzA N w k (N.v1 k n s) b (.slice A T.length c) (N.s1 k n s) wx)
 case first=>
  by_cases hk:k=0
  .subst hk;go_wp2_with fail;refine(ok.call s n _ Zf).mono ?_;rintro e w1 ⟨rfl,Fh,uU⟩
   have d0:=b0.chg uU fun h=>by have:=yE.out _ (ok.sub _ h);omega
   have d1:=b1.chg uU fun h=>by have:=yE.out _ (ok.sub _ h);omega
   have c1:w1.cell? ⟨w.heap.size,1,none⟩=some (.int .i64 n):=d0.cell 1;have f1:w1.frozen? ⟨w.heap.size,1,none⟩=false:=d0.frozen 1;go_wp2_with fail;go_meet;refine⟨d0.set_ 1 _,d1.far Yd _,?_,?_⟩
   .refine ok.keep _ w1 _ (by grind[CM.s1]) fun k hk=> ?_;exact Yc9
   grind[AM.setCell,AM.trans]
  .have yC:(k==0)=false:=by simp[hk]
   have e1:N.v1 k n s=n:=by simp[CM.v1,hk]
   have e2:N.s1 k n s=s:=by simp[CM.s1,hk]
   have E1:=XH e1;have E2:=XH e2;clear e1 e2;go_wp2_with fail;go_meet;rw[E1.out,E2.out];exact⟨b0,b1,Zf,Zg⟩
 case rest =>
  clear Zf Zg b0 b1;obtain⟨d0,d1,Fh,uU⟩:=hcut;obtain⟨a0,a1,a2,a3,af⟩:=d0.four
  have h0:Qv3 N w T k (N.v1 k n s) b (N.s1 k n s) T.length (.int .i64 0) (wc.setCell ⟨w.heap.size,3,none⟩ (.slice none 0 0)):=by
   refine⟨.slice none 0 0,.nil,T,[],⟨rfl,d0.set_ 3 _,d1.far Yd _,XaI _ _ _ _,rfl,?_,?_⟩,rfl,rfl⟩
   .refine ok.keep _ wc _ Fh fun k hk=> ?_;exact Yc9
   grind[AM.setCell]
  clear d0 d1;go_wp2_with fail;go_loopg [21] T.length (Qv3 N w T k (N.v1 k n s) b (N.s1 k n s))
  case atStart=>exact h0
  case round =>
   clear h0 a0 a1 a2 a3 af;obtain⟨u,D,R,xs,hrel,eg,rfl⟩:=hrel;have hbz:w.heap.size+1<wr.heap.size:=hrel.r.lt
   cases R with
   |nil=>
    have e1:D.length=T.length:=by rw[hrel.split,Ts.app_nil]
    have eD:D=T:=by rw[hrel.split,Ts.app_nil]
    obtain⟨Au,cu,hu⟩:∃Au cu,u= .slice Au D.length cu:=by
     rcases hrel.own.2 with⟨h1,h2⟩|⟨g,cap,cur,h1,_⟩
     .grind
     grind
    subst hu;subst eD
    have pW:Sl wr (fun k=>w.heap.size+2<=k) (.slice Au D.length cu) (D.ren N (N.s1 k n s)).1:=by
     have h1:=hrel.own;grind[Sl.own,Ts.length_ren,Cs.imp,ZR.cs,World.ownsRow.lt]
    obtain⟨a0,a1,a2,a3,af⟩:=hrel.t.four;obtain⟨b0,b1,b2,b3,_⟩:=hrel.r.four;have hI:=hrel.inv;have hC:=hrel.chg;clear eg hrel;go_wp2_with fail;refine bodyPost_ret (v:= .agg #[.int .i64 k,.int .i64 (N.v1 k n s),.string b,.slice Au D.length cu]) (by simp[results,Tryz.results162,go_sem,b0,b1,b2,b3]) rfl ⟨_,rfl,?_,?_,?_⟩
    .refine(pW.keep (w':=_) fun k hk _=> ?_).imp fun k hk _=>by omega
     simp only[World.setCell,J4]
     grind
    .refine ok.keep _ wr _ hI fun k hk=> ?_;have:=yE.out k hk;simp only[World.setCell,J4]
     grind
    grind[AM.setCell]
   |cons k1 n1 s1 ar r=>
    have e1:D.length<T.length:=by rw[hrel.split,Ts.length_app];simp[Ts.length]
    have e2:ar.nodes<m/\ar.nodes<=1048576:=by
     have h:=hrel.split;grind[Ts.nodes,Ts.nodes_app]
    have pW:Sl wr (fun k=>k<w.heap.size) (.slice A T.length c) (D.app (.cons k1 n1 s1 ar r)):=by
     rw[<-hrel.split];exact ok.sl (hs.imp fun k _ h=>h) hi hrel.chg
    obtain⟨b1,_,rfl,rE⟩:=Sl.at_ pW YS;obtain⟨_,_,_,_,⟨v1,_,oJ⟩,_⟩:=Q6.1 rE;obtain⟨A1,d1,rfl,oJ⟩:=oJ.form
    obtain⟨Au,cu,hu⟩:∃Au cu,u= .slice Au D.length cu:=by
     rcases hrel.own.2 with⟨h1,h2⟩|⟨g,cap,cur,h1,_⟩
     .grind
     grind
    subst hu;obtain⟨a0,a1,a2,a3,af⟩:=hrel.t.four;have HG:=XH eg;clear eg rE pW;go_wp2_with fail
    refine Qc4 (fun ws=>ws.cell? ⟨w.heap.size,3,none⟩=some (.slice Au D.length cu)/\ws.cell? ⟨wr.heap.size,0,none⟩=some (.int .i64 k1)/\ws.cell? ⟨wr.heap.size,1,none⟩=some (.int .i64 n1)/\ws.cell? ⟨wr.heap.size,2,none⟩=some (.string s1)/\ws.cell? ⟨wr.heap.size,3,none⟩=some (.slice A1 ar.length d1))
     6 [(0,true),(1,true),(2,true),(3,true),(4,false),(5,false)] Yc Yc ?S0 ?rest
    case S0=>
     have hx:=(QR.new wr 63 #[.int .i64 k1,.int .i64 n1,.string s1,.slice A1 ar.length d1]).four;have ht:=(hrel.t.alloc (.cells #[.int .i64 k1,.int .i64 n1,.string s1,.slice A1 ar.length d1] 63)).cell 3;simp_all
    case rest=>
     iterate 4
      refine ZE rfl rfl ⟨?_,fun w' hS=> ?_,fun _ _ _ h=>h,?_⟩
      rotate_left
      .obtain⟨_,_,_,_,_⟩:=hS;go_simp;exact rfl
     have Gt:N.inv (D.ren N (N.s1 k n s)).2 (wr.alloc (.cells #[.int .i64 k1,.int .i64 n1,.string s1,.slice A1 ar.length d1] 63)).drew:=ok.keep _ wr _ hrel.inv fun k hk=>JF _ _ _ (by grind[Hid.out]);have Zi:Sl (wr.alloc (.cells #[.int .i64 k1,.int .i64 n1,.string s1,.slice A1 ar.length d1] 63)).drew (fun _=>True) (.slice A1 ar.length d1) ar:=oJ.any.keep fun k _ hk=>JF _ _ _ hk;refine Qi1 rfl ?_;go_wp2_with fail;refine(ih ar e2.1 k1 n1 s1 _ _ _ Zi Gt e2.2).mono ?_;rintro e w2 ⟨_,rfl,rW,Iq,sX⟩;obtain⟨Aw,cw,rfl,rW⟩:=rW.form
     have uL:∀k,w.heap.size<=k->¬N.own k:=fun k hk ho=>by have:=yE.out k (ok.sub k ho);omega
     have Zj:QR w2 w.heap.size 63 #[.int .i64 k,.int .i64 (N.v1 k n s),.string b,.slice Au D.length cu]:=((hrel.t.alloc _).drewN 1).chg sX (uL _ (XF _));have rR:QR w2 wr.heap.size 63 #[.int .i64 k1,.int .i64 n1,.string s1,.slice A1 ar.length d1]:=((QR.new wr _ _).drewN 1).chg sX (uL _ Ya)
     have hzz:wr.heap.size<w2.heap.size:=by have:=sX.size;exact ZX
     go_wp2_with fail;refine⟨⟨Zj.cell 3,rR.cell 0,rR.cell 1,rR.cell 2,rR.cell 3⟩,?_⟩;refine Qi1 rfl ?_;go_wp2_with fail;refine⟨⟨(Zj.alloc _).cell 3,(rR.alloc _).cell 0,(rR.alloc _).cell 1,(rR.alloc _).cell 2,(rR.alloc _).cell 3⟩,?_⟩;simp only[LJ,UG,XaE];have Pj:AM N.own wr (w2.alloc (.cells #[.int .i64 k1,.int .i64 (N.v1 k1 n1 (D.ren N (N.s1 k n s)).2),.string s1,.slice Aw (ar.ren N (N.s1 k1 n1 (D.ren N (N.s1 k n s)).2)).1.length cw] 63)):=(((AM.refl _ wr).alloc _).drew.trans sX fun _ _ h=>h).alloc _;have yF:N.inv (ar.ren N (N.s1 k1 n1 (D.ren N (N.s1 k n s)).2)).2 (w2.alloc (.cells #[.int .i64 k1,.int .i64 (N.v1 k1 n1 (D.ren N (N.s1 k n s)).2),.string s1,.slice Aw (ar.ren N (N.s1 k1 n1 (D.ren N (N.s1 k n s)).2)).1.length cw] 63)):=ok.keep _ w2 _ Iq fun k hk=>JF _ _ _ (by grind[Hid.out])
     have qZ:Sl (w2.alloc (.cells #[.int .i64 k1,.int .i64 (N.v1 k1 n1 (D.ren N (N.s1 k n s)).2),.string s1,.slice Aw (ar.ren N (N.s1 k1 n1 (D.ren N (N.s1 k n s)).2)).1.length cw] 63)) (fun k=>wr.heap.size<=k) (.slice Aw (ar.ren N (N.s1 k1 n1 (D.ren N (N.s1 k n s)).2)).1.length cw) (ar.ren N (N.s1 k1 n1 (D.ren N (N.s1 k n s)).2)).1:=
      (rW.below ((XR _ _).alloc (XF _) _)).imp fun k hk _=>by simp at hk;omega
     have Ki:=QpG hrel.own Pj fun g hg=>uL g (by have:=(hrel.own.lt g hg).1;omega);have Zd:=Zj.alloc (.cells #[.int .i64 k1,.int .i64 (N.v1 k1 n1 (D.ren N (N.s1 k n s)).2),.string s1,.slice Aw (ar.ren N (N.s1 k1 n1 (D.ren N (N.s1 k n s)).2)).1.length cw] 63);go_wp2_with (at_builtin;refine QbI _ rfl (.tmp 26) (.tmp 30) _ rfl (w.heap.size+2) 63 i0 _ 4 56 underlying23 uZ vB sY vX rfl Ya (.slice Au D.length cu) D.length xs rfl Ki ⟨w2.heap.size,0,none⟩ 1 1 [.int .i64 k1,.int .i64 (N.v1 k1 n1 (D.ren N (N.s1 k n s)).2),.string s1,.slice Aw (ar.ren N (N.s1 k1 n1 (D.ren N (N.s1 k n s)).2)).1.length cw] rfl rfl (QmQ w2 _ _) (by simp[Value.oneCell']) Yk Ya Yg ?next)
     case next=>
      intro v3 w3 Cb hg AD;have xI:v3.ownBlock=(Value.slice Au D.length cu).ownBlock\/v3.ownBlock=some (w2.alloc (.cells #[.int .i64 k1,.int .i64 (N.v1 k1 n1 (D.ren N (N.s1 k n s)).2),.string s1,.slice Aw (ar.ren N (N.s1 k1 n1 (D.ren N (N.s1 k n s)).2)).1.length cw] 63)).heap.size:=by simp_all
      have hstep:=ZR.step ok hi hrel Pj qZ yF Cb hg xI;have ht4:QR w3 w.heap.size 63 #[.int .i64 k,.int .i64 (N.v1 k n s),.string b,.slice Au D.length cu]:=Zd.grown hg (fun e=>by have:=(hrel.own.lt _ e.symm).1;omega);have c4:w3.cell? ⟨w.heap.size,3,none⟩=some (.slice Au D.length cu):=ht4.cell 3;have f4:w3.frozen? ⟨w.heap.size,3,none⟩=false:=ht4.frozen 3;obtain⟨_,cap,rfl⟩:=TL Cb;clear AD xI Cb;go_wp2_with fail;go_roundg r.length
      case measure=>rw[HG.out];simp[Ts.length]
      case rel=>
       refine⟨_,_,_,_,hstep,rfl,?_⟩;exact KS
theorem QqW{σ:Type}{N:CM σ}(ok:N.Ok)(T:Ts):Qm2 N T:=by
 have:∀m,∀T:Ts,T.nodes<m->Qm2 N T:=by
  intro m
  induction m with
  |zero=>omega
  |succ m ih=>grind[Qsr]
 exact Yec
end Go.Proofs.YthliapbflkfdiacGreatDoor
