/- Steps of the proof. -/
import Derived.Test.YthliapbflkfdiacGreatDoorG7
set_option linter.unusedVariables false
set_option linter.unusedSimpArgs false
set_option maxRecDepth 100000
set_option maxHeartbeats 1000000
namespace Go.Proofs.YthliapbflkfdiacGreatDoor
open Go.Proofs.Tryz
open Go.RowKit
section
variable{M:T6}{w0:TG}{H:T0}{F:T3}{b mb Zc:Nat}{es:Array MapEntry}{TR:TH}{rest:T5}{O:T0}{G:List GB}
end
def I9(B:AC):Prop:=∀x∈B,x.2.ar.nodes<=24
theorem UZ{B:AC}(hB:I9 B){t:Tm}(ht:t.ar.nodes<=24):(Qc B t).ar.nodes<=24:=by
 rcases Qmu (B:=B) t with h|⟨x,hx,h⟩
 .rw[h];exact ht
 .rw[h];exact hB x hx
theorem QvQ{g:Tm->Nat->Bool×Nat}{K:Nat}:∀(T:Ts) (w:Nat),(∀t:Tm,t.ar.nodes<T.nodes->∀w,(g t w).2<=max (w+1) K)->(ON g T w).2<=max w K+T.length
 | .nil,w,_=>by simp[ON,Ts.length];omega
 | .cons k n s a r,w,h=>by
  have h1:=h ⟨k,n,s,a⟩ Yj w;have h2:=QvQ r (g ⟨k,n,s,a⟩ w).2 fun t ht=>h t Yj;simp only[ON,Ts.length];split
  .exact DM
  .omega
theorem QxC{B:AC}(hB:I9 B)(v:Int):∀(f:Nat) (t:Tm),t.ar.nodes<=24->∀w,(I8 B v f t w).2<=max (w+1) (401+24*f)
 |0,t,ht,w=>by simp only[I8];omega
 |f+1,t,ht,w=>by
  simp only[I8];split
  .exact DM
  .split
   .exact DM
   .have hs:=UZ hB ht;have hl:=(Qc B t).ar.length_le;have:=QvQ (g:=I8 B v f) (K:=401+24*f) (Qc B t).ar (w+1) fun u hu=>QxC hB v f u Ya;omega
theorem QxD{B:AC}{v:Int}:∀(f:Nat) (t:Tm) (w:Nat),w+1<=(I8 B v f t w).2
 |0,t,w=>XF _
 |f+1,t,w=>by
  have key:∀(T:Ts) (w:Nat),w<=(ON (I8 B v f) T w).2:=by
   intro T
   induction T with
   |nil=>intro w;exact XF _
   |cons k n s a r _ ih=>
    intro w;have h1:=QxD (B:=B) (v:=v) f ⟨k,n,s,a⟩ w;have h2:=ih (I8 B v f ⟨k,n,s,a⟩ w).2;simp only[ON];split
    .exact DM
    .omega
  simp only[I8];split
  .exact XF _
  .split
   .exact XF _
   .exact key _ _
structure UP(B:AC)(w:Nat)(r:Us):Prop where
 bok:BO r.B
 sm:I9 r.B
 ok:r.ok=true->r.w<=400
 len:r.B.length+w<=B.length+r.w
 ext:∃N,r.B=N++B
theorem I9.cons{B:AC}(h:I9 B){x:Int×Tm}(hx:x.2.ar.nodes<=24):I9 (x::B):=fun y hy=>by
 rcases XV.1 hy with rfl|hy
 .exact hx
 .exact h y hy
theorem QtT{B:AC}{w:Nat}{v:Int}{t:Tm}(hB:BO B)(hS:I9 B)(hv:BR v B=none)(hk:t.k≠0)(ht:t.ar.nodes<=24):UP B w (MK v t B w):=by
 have h1:=QxD (B:=B) (v:=v) 401 t w;unfold MK;split
 .exact Yce
 .rename_i h;exact⟨⟨hv,fun h=>absurd h hk,hB⟩,hS.cons ht,fun _=>by simp only;omega,by simp;omega,[(v,t)],rfl⟩
theorem QtU{g:Tm->Tm->AC->Nat->Us}:∀(T U:Ts) (B:AC) (w:Nat),(∀a b:Tm,a.ar.nodes<T.nodes->b.ar.nodes<U.nodes->∀B w,BO B->I9 B->w<=400->UP B w (g a b B w))->BO B->I9 B->w<=400->UP B w (I2 g T U B w)
 | .nil,U,B,w,h,hB,hS,hw=>⟨hB,hS,fun _=>hw,by simp[I2],[],rfl⟩
 | .cons k n s a r,.nil,B,w,h,hB,hS,hw=>⟨hB,hS,fun _=>hw,by simp[I2],[],rfl⟩
 | .cons k n s a r,.cons k' n' s' a' r',B,w,h,hB,hS,hw=>by
  have h1:=h ⟨k,n,s,a⟩ ⟨k',n',s',a'⟩ Yj Yj B w hB hS hw;simp only[I2];split
  .rename_i oK;have h2:=QtU r r' _ _ (fun a b ha hb=>h a b Yj Yj) h1.bok h1.sm (h1.ok oK);obtain⟨N1,e1⟩:=h1.ext;obtain⟨N2,e2⟩:=h2.ext;refine⟨h2.bok,h2.sm,h2.ok,?_,N2++N1,by rw[e2,e1,VB]⟩;have:=h1.len;have:=h2.len;omega
  .exact h1
theorem PJ:∀(f:Nat) (a b:Tm) (B:AC) (w:Nat),a.ar.nodes<=24->b.ar.nodes<=24->BO B->I9 B->w<=400->UP B w (BI f a b B w)
 |0,a,b,B,w,ha,hb,hB,hS,hw=>⟨hB,hS,fun h=>Y7,by simp only[BI];omega,[],rfl⟩
 | f + 1, a, b, B, w, ha, hb, hB, hS, hw => by
  have ea:=UZ hS ha;have eb:=UZ hS hb;have na:=LY hB a;have nb:=LY hB b
  have Zx:∀r:Us,UP B (w+1) r->UP B w r:=fun r h=>⟨h.bok,h.sm,h.ok,by have:=h.len;omega,h.ext⟩
  simp only[BI];split
  .exact Yce
  split
  .rename_i Jo;split
   .rename_i Cm;by_cases e:(Qc B a).n=(Qc B b).n
    .rw[XB e];exact⟨hB,hS,fun _=>by simp only;omega,by simp only;omega,[],rfl⟩
    .rw[XA e];exact⟨⟨na Jo,fun h=>⟨fun h2=>e h2.symm,nb h⟩,hB⟩,hS.cons eb,fun _=>by simp only;omega,by simp;omega,[_],rfl⟩
   .rename_i Cm;exact Zx _ (QtT hB hS (na Jo) Cm eb)
  split
  .rename_i Jo Cm;exact Zx _ (QtT hB hS (nb Cm) Jo ea)
  split
  .exact Zx _ (QtU _ _ _ _ (fun x y hx hy B w hB hS hw=>PJ f x y B w Ya Ya hB hS hw) hB hS Ya)
  .exact Yce
section
variable{M:T6}{w0:TG}{H:T0}{F:T3}{b mb Zc ub:Nat}{es:Array MapEntry}{TR:TH}{rest:T5}{O:T0}{G:List GB}
end
end Go.Proofs.YthliapbflkfdiacGreatDoor
