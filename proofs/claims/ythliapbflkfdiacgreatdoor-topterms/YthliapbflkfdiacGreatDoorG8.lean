/- SWalk1, SPure2, SWalk2: texts that follow one another, laid into one file. -/
import Derived.Test.YthliapbflkfdiacGreatDoorZ0
import Derived.Test.YthliapbflkfdiacGreatDoorG7
import Derived.Test.YthliapbflkfdiacGreatDoorG0
namespace Go.Proofs.YthliapbflkfdiacGreatDoor
open Go.RowKit
set_option linter.unusedVariables false
set_option linter.unusedSimpArgs false
set_option maxRecDepth 100000
set_option maxHeartbeats 1000000
abbrev pt (b:Nat):Value:= .pointer (some ⟨b,0,none⟩)
abbrev tob (t:LT):Obj:= .cells (tcs t).toArray 63
abbrev sob (mb:Nat) (TR:Value) (rest:List Value):Obj:= .cells (.map (some mb)::TR::rest).toArray 90
section
variable {M:List Nat} {w0:World} {H:List (Nat×Obj)} {F:List (World→Prop)} {b mb clk:Nat} {es:Array MapEntry} {TR:Value} {rest:List Value} {O:List (Nat×Obj)} {G:List GB}
theorem QqN (t:LT) (w:World) (hB:BM G 3 es TR O F) (hA:Und F (LRd t)) (hS:St M w0 ((b,sob mb TR rest)::(mb,.map es clk)::H) F w):
  Calls Tryz.prog 178 #[pt b,tv t] w fun e w'=>∃u:LT,e= .returned (tv u)∧u.tm=Qg (bnd G) t.tm∧Und F (LRd u)∧St M w0 ((b,sob mb TR rest)::(mb,.map es clk)::H) F w':=by
 have hmap:=hB.mp;refine Qf Tryz.func178 rfl Tryz.ntmps178 rfl ?_;refine Zf ?_;clear hS;intro b1 wx1 hS;refine Zw ?_;clear hS;intro b2 wx2 hS;refine Zdm ?_;refine Qex  (7::8::9::11::12::13::14::15::16::17::10::18::19::5::6::20::21::22::23::[]) (fun (x:Nat×LT) w'=>QgF (bnd G) x.1 x.2.tm∧QeG (bnd G) x.1 x.2.tm=Qg (bnd G) t.tm∧Und F (LRd x.2)∧St M w0 ((b2,.cells [.int .i64 0,.int .i64 0,.string ⟨#[]⟩,.slice none 0 0].toArray 63)::(b1,tob x.2)::(b,sob mb TR rest)::(mb,.map es clk)::H) F w') (fun x=>x.1) (((bnd G).length,t)) ?_ ?_
 ·exact ⟨QgF.start _ _,rfl,hA,hS⟩
 clear hS;rintro ⟨m,u⟩ w2 jv ⟨hc,hl,hu,hS⟩ ih;dsimp only at hc hl hu hS;by_cases hk:u.k=0
 ·refine Zl ?_;refine Zc0 ?_;refine Zbh ?_;refine Zbw ?_;refine Zl ?_
  cases hg:QtV u.n G with
  |none=>
   have hbg:Qci u.n (bnd G)=none:=by rw [Qdb,hg];rfl
   have hag:Qf2 u.n (ents G)=none:=by rw [Qec _ _ hB.ok,hg];rfl
   refine Zg9 ?_;replace hS:=hS.drew;refine ZbV ?_;refine ZdT ?_;refine Zha ?_;refine Zfe ?_;refine Zp ?_;refine Zw ?_;clear hS;intro b3 wx3 hS;refine ZaG ?_;refine Zp ?_;refine Zc ?_;clear hS;intro wx4 hS;refine ZaG ?_;refine ZdQ ?_;refine Zu ?_;refine ZaX ?_;refine Zab ?_;refine Zc ?_;clear hS;intro wx5 hS;refine Zb ?_;refine Zhb ?_
   have e:Qg (bnd G) t.tm=u.tm:=by rw [←hl];exact Qcp hbg _
   exact ⟨u,rfl,e.symm,hu,hS.drop.drop.drop⟩
  |some x=>
   obtain ⟨xv,xt⟩:=x
   have hbg:Qci u.n (bnd G)=some xt.tm:=by rw [Qdb,hg];rfl
   have hag:Qf2 u.n (ents G)=some (tv xt):=by rw [Qec _ _ hB.ok,hg];rfl
   obtain ⟨hxm,_⟩:=QoK hg;obtain ⟨p,hp,hcp⟩:=hc.step hB.ok hk hbg;refine Zg9 ?_;replace hS:=hS.drew;refine ZbV ?_;refine ZdT ?_;refine Zha ?_;refine Zfe ?_;refine Zp ?_;refine Zw ?_;clear hS;intro b3 wx3 hS;refine ZaG ?_;refine Zp ?_;refine Zc ?_;clear hS;intro wx4 hS;refine ZaG ?_;refine ZdQ ?_;refine Zu ?_;refine ZX ?_;refine Zbk ?_;refine Zab ?_;refine Zc ?_;clear hS;intro wx5 hS;refine Zb ?_;refine Zam ?_;refine ih ((p,xt)) _ _ ?_ ?_ Yc
   ·exact hp
   ·refine ⟨hcp,?_,hB.rd.imp fun w h=>h _ hxm,hS.drop⟩;rw [←hl]
    obtain ⟨m,rfl⟩:∃m',m=m'+1:=⟨m-1,by omega⟩
    rw [Qco (t:=u.tm) hk hbg];exact (QcO hB.ok p xt.tm hcp m Ya).symm
 ·refine Zl ?_;refine Zc0 ?_;refine Zq ?_;refine ZaR ?_;refine Zg ?_;refine Zab ?_;refine Zc ?_;clear hS;intro wx3 hS;refine Zb ?_;refine Zhb ?_
  have e:Qg (bnd G) t.tm=u.tm:=by rw [←hl];exact Qbo hk _
  exact ⟨u,rfl,e.symm,hu,hS.drop.drop⟩
abbrev Qpg (b:Nat) (work:Nat):Obj:= .cells [pt b,.int .i64 (work:Nat)].toArray 242
theorem Qd6 (ub k:Nat) (w:World) (hS:St M w0 ((ub,Qpg b k)::H) F w):
  Calls Tryz.prog 181 #[pt ub] w fun e w'=>e= .returned (.bool (decide (400<k)))∧St M w0 ((ub,Qpg b k)::H) F w':=by
 by_cases h:400<k
 ·rw [decide_eq_true h];refine Qh Tryz.func181 rfl Tryz.ntmps181 rfl ?_;refine Zk ?_;refine Zd4 ?_;refine Zao ?_;refine Zd ?_;refine Qd Tryz.func181 rfl Yb ?_;exact ⟨rfl,hS⟩
 ·rw [decide_eq_false h];refine Qh Tryz.func181 rfl Tryz.ntmps181 rfl ?_;refine Zk ?_;refine Zd4 ?_;refine Zao ?_;refine Zd ?_;refine Qd Tryz.func181 rfl Yb ?_;exact ⟨rfl,hS⟩
theorem QoU (v:Int) (t:LT) (w:World) (hB:BM G 3 es TR O F) (hv:Qci v (bnd G)=none) (hn:t.k=0→t.n≠v∧Qci t.n (bnd G)=none) (hA:Und F (LRd t)) (hl:G.length≤1099511627776)
  (hS:St M w0 ((b,sob mb TR rest)::(mb,.map es clk)::(O++H)) F w):
  Calls Tryz.prog 210 #[pt b,.int .i64 v,tv t] w fun e w'=>∃es' clk' TR' O',e= .returned (.tuple #[])∧BM (⟨v,t⟩::G) 3 es' TR' O' F∧St M w0 ((b,sob mb TR' rest)::(mb,.map es' clk')::(O'++H)) F w':=by
 have hmap:=hB.mp
 have hag:Qf2 v (ents G)=none:=by
  rw [Qec _ _ hB.ok];rw [Qdb,Option.map_eq_none_iff] at hv;rw [hv];rfl
 refine Qz Tryz.func210 rfl Tryz.ntmps210 rfl ?_;refine Zf ?_;clear hS;intro b1 wx1 hS;refine ZG ?_;refine Zhc ?_;replace hS:=hS.drew;refine ZbV ?_;refine Zs ?_;refine Zb8 ?_;refine ZF ?_;refine QpI hS rfl rfl Yb rfl hmap hag (.tail (.tail .head)) ?_;clear hS;intro w5 hm' hS;refine Zd3 ?_;refine Zc8 ?_;refine ZaZ ?_;clear hS;intro b2 wx2 hS;refine QaN (sz:=1) (bts:=8) hS Yb rfl rfl rfl rfl (hB.row) rfl rfl (.cons _ (List.perm_append_comm_assoc [_,_,_] _ _)) Ya Ya rfl ?_;clear hS;intro v' O' w6 hrow' hS;obtain ⟨A',c',rfl⟩:=hrow'.form;replace hS:=hS.perm (List.perm_append_comm_assoc O' [_,_,_] _);refine Zbt ?_;clear hS;intro wx3 hS;refine Zb ?_;refine QC Tryz.func210 rfl ?_;refine ⟨_,_,_,O',rfl,⟨by rw [Qmx];exact hm',by rw [Qpf];exact hrow',?_,?_⟩,hS.drop⟩
 ·exact fun w h x hx=>by
   rcases List.mem_cons.1 hx with rfl|hx
   ·exact hA w h
   ·exact hB.rd w h x hx
 ·exact ⟨hv,hn,hB.ok⟩
def QpV (l:List GB):List (Int×Value):=l.map fun x=>(x.v,tv x.t)
theorem QoP (G:List GB):ents G=QpV G.reverse:=by simp [ents,QpV]
theorem QhG (G:List GB):Qfl G=G.reverse.map fun x=>Value.int .i64 x.v:=by simp [Qfl]
theorem QjM:∀(N R:List GB) (x:GB),Bok (bnd (N++R))→x∈N→Qf2 x.v (ents R)=none
 |y::N,R,x,h,hx=>by
  have hR:Bok (bnd R):=by
   have:=Bok.drop h (y::N).length;rw [show bnd (y::N++R)=bnd (y::N)++bnd R by simp [bnd]] at this
   rwa [List.drop_append_of_le_length (by simp [bnd]),show (bnd (y::N)).drop (y::N).length=[] by simp [bnd],List.nil_append] at this
  rcases List.mem_cons.1 hx with rfl|hx
  ·have h1:Qci x.v (bnd (N++R))=none:=h.1;rw [show bnd (N++R)=bnd N++bnd R by simp [bnd],Qk4] at h1;rw [Qec _ _ hR]
   have h2:Qci x.v (bnd R)=none:=by
    cases hq:Qci x.v (bnd N) with
    |none=>rw [hq] at h1;simpa using h1
    |some u=>rw [hq] at h1;cases h1
   rw [Qdb,Option.map_eq_none_iff] at h2;rw [h2];rfl
  ·exact QjM N R x h.2.2 hx
theorem QqJ (n:Nat) (w:World) (hB:BM G 3 es TR O F) (hn:n≤G.length) (hl:G.length≤1099511627776)
  (hS:St M w0 ((b,sob mb TR rest)::(mb,.map es clk)::(O++H)) F w):
  Calls Tryz.prog 125 #[pt b,.int .i64 (n:Nat)] w fun e w'=>∃es' TR',e= .returned (.tuple #[])∧BM (G.drop (G.length-n)) 3 es' TR' O F∧St M w0 ((b,sob mb TR' rest)::(mb,.map es' clk)::(O++H)) F w':=by
 have hrow:=hB.row;obtain ⟨A,cap,rfl⟩:=hrow.form;have hcap:=hrow.cap;have hcut:=hrow.cut hn
 have hfin:∀es',Qqj es' (ents (G.drop (G.length-n)))→BM (G.drop (G.length-n)) 3 es' (.slice A n cap) O F:=fun es' hm=>by
  have e0:(G.drop (G.length-n)).length=n:=by simp;omega
  have e1:(Qfl G).take (n*1)=Qfl (G.drop (G.length-n)):=by
   rw [QhG,QhG,Nat.mul_one,←List.map_take,List.take_reverse]
  refine ⟨hm,?_,hB.rd.imp fun w h x hx=>h x (List.mem_of_mem_drop hx),?_⟩
  ·rw [e0,←e1];exact hcut
  ·have:=Bok.drop hB.ok (G.length-n)
   rwa [bnd,←List.map_drop] at this
 by_cases hlt:n<G.length
 ·obtain ⟨g,sp,rfl,rfl,_⟩:=hrow.some_ Ya;generalize hR:G.drop (G.length-n)=R at hfin⊢
  obtain ⟨N,hN⟩:∃N,G=N++R:=⟨G.take (G.length-n),by rw [←hR,List.take_append_drop]⟩
  have hRn:R.length=n:=by rw [←hR];simp;omega
  have hGl:G.length=N.length+R.length:=by rw [hN];simp
  have hm0:Qqj es (ents R++QpV N.reverse):=by
   have:=hB.mp;rw [hN,QoP,List.reverse_append] at this;rw [QoP];simpa [QpV] using this
  refine Qf Tryz.func125 rfl Tryz.ntmps125 rfl ?_;refine ZW ?_;refine ZM ?_;refine ZbM ?_;refine Zgk ?_;refine ZQ ?_;refine Qn 13 (14::15::16::5::17::18::19::20::21::22::[]) (fun (E:List GB) v w'=>∃D es,N.reverse=D++E∧v= .int .i64 (D.length:Nat)∧Qqj es (ents R++QpV E)∧St M w0 ((b,sob mb (.slice (some ⟨g,0,none⟩) G.length cap) rest)::(mb,.map es clk)::([(g,.cells (Qfl G++sp).toArray 3)]++H)) F w') (fun E=>E.length) (N.reverse) ?_ Yb ?_
  ·exact ⟨[],es,rfl,rfl,hm0,hS⟩
  clear hS;rintro E _ w2 jv ⟨D,es2,hDE,rfl,hm,hS⟩ ih
  have hlen:N.length=D.length+E.length:=by have:=congrArg List.length hDE;simpa using this
  cases E with
  |nil=>
   simp only [List.length_nil] at hlen;refine ZL ?_;refine Z8 ?_;refine Zc8 ?_;refine Zfv ?_;refine Zbt ?_;clear hS;intro wx1 hS;refine Zb ?_;refine QC Tryz.func125 rfl ?_;exact ⟨es2,_,rfl,hfin es2 (by simpa [QpV] using hm),hS⟩
  |cons x E=>
   simp only [List.length_cons] at hlen
   have hcell:w2.cell? ⟨g,0+((n:Nat):Int).toNat*1+((D.length:Nat):Int).toNat*1,none⟩=some (.int .i64 x.v):=by
    rw [show 0+((n:Nat):Int).toNat*1+((D.length:Nat):Int).toNat*1=n+D.length by omega,Qp (hS.own (g,_) (.tail _ (.tail _ (.head _)))),QhG,hN,List.reverse_append,hDE,List.getElem?_append_left Yh,List.map_append,List.getElem?_append_right Yh,List.map_append,List.getElem?_append_right Yh]
    have:n+D.length-(List.map (fun x=>Value.int .i64 x.v) R.reverse).length-(List.map (fun x=>Value.int .i64 x.v) D).length=0:=by simp;omega
    rw [this];rfl
   have hxN:x∈N:=by
    have:x∈N.reverse:=by rw [hDE];simp
    simpa using this
   have hA:Qf2 x.v (ents R)=none:=QjM N R x (by rw [←hN];exact hB.ok) hxN;refine ZbW ?_;refine Zeb ?_;refine ZP ?_;refine ZaM ?_;refine ZbM ?_;refine QpJ hS rfl rfl rfl rfl hm hA (.tail .head) ?_;clear hS hm;intro w5 hm hS;refine ZaA ?_;refine ih (E) _ _ _ ?_ ?_ Yb Yc
   ·simp
   ·exact ⟨D++[x],_,by rw [hDE];simp,by simp,hm,hS⟩
 ·obtain rfl:n=G.length:=by omega
  refine Qf Tryz.func125 rfl Tryz.ntmps125 rfl ?_;refine ZW ?_;refine ZM ?_;refine ZbM ?_;refine Zgk ?_;refine ZQ ?_;refine Qn 13 (14::15::16::5::17::18::19::20::21::22::[]) (fun (x:Unit) v w'=>v= .int .i64 0∧St M w0 ((b,sob mb (.slice A G.length cap) rest)::(mb,.map es clk)::(O++H)) F w') (fun _=>0) (()) ?_ Yb ?_
  ·exact ⟨rfl,hS⟩
  clear hS;rintro _ _ w2 jv ⟨rfl,hS⟩ ih;refine ZL ?_;refine Z8 ?_;refine Zc8 ?_;refine Zfv ?_;refine Zbt ?_;clear hS;intro wx1 hS;refine Zb ?_;refine QC Tryz.func125 rfl ?_;refine ⟨es,_,rfl,?_,hS⟩;exact hfin es (by rw [Nat.sub_self];exact hB.mp)
end
def SmB (B:Bnd):Prop:=∀x∈B,x.2.ar.nodes≤24
theorem Qa4 {B:Bnd} (hB:SmB B) {t:Tm} (ht:t.ar.nodes≤24):(Qg B t).ar.nodes≤24:=by
 rcases QkC (B:=B) t with h|⟨x,hx,h⟩
 ·rw [h];exact ht
 ·rw [h];exact hB x hx
theorem QsF {g:Tm→Nat→Bool×Nat} {K:Nat}:∀(T:Ts) (w:Nat),(∀t:Tm,t.ar.nodes<T.nodes→∀w,(g t w).2≤max (w+1) K)→(Qp9 g T w).2≤max w K+T.length
 | .nil,w,_=>by simp [Qp9,Ts.length];omega
 | .cons k n s a r,w,h=>by
  have h1:=h ⟨k,n,s,a⟩ Yi w;have h2:=QsF r (g ⟨k,n,s,a⟩ w).2 fun t ht=>h t Yi;simp only [Qp9,Ts.length];split
  ·simp only;omega
  ·omega
theorem Qrb {B:Bnd} (hB:SmB B) (v:Int):∀(f:Nat) (t:Tm),t.ar.nodes≤24→∀w,(Qem B v f t w).2≤max (w+1) (401+24*f)
 |0,t,ht,w=>by simp only [Qem];omega
 |f+1,t,ht,w=>by
  simp only [Qem];split
  ·simp only;omega
  ·split
   ·simp only;omega
   ·have hs:=Qa4 hB ht;have hl:=(Qg B t).ar.length_le;have:=QsF (g:=Qem B v f) (K:=401+24*f) (Qg B t).ar (w+1) fun u hu=>Qrb hB v f u Ya;omega
theorem Qre {B:Bnd} {v:Int}:∀(f:Nat) (t:Tm) (w:Nat),w+1≤(Qem B v f t w).2
 |0,t,w=>Nat.le_refl _
 |f+1,t,w=>by
  have key:∀(T:Ts) (w:Nat),w≤(Qp9 (Qem B v f) T w).2:=by
   intro T
   induction T with
   |nil=>intro w;exact Nat.le_refl _
   |cons k n s a r _ ih=>
    intro w;have h1:=Qre (B:=B) (v:=v) f ⟨k,n,s,a⟩ w;have h2:=ih (Qem B v f ⟨k,n,s,a⟩ w).2;simp only [Qp9];split
    ·simp only;omega
    ·omega
  simp only [Qem];split
  ·exact Nat.le_refl _
  ·split
   ·exact Nat.le_refl _
   ·exact key _ _
structure UP (B:Bnd) (w:Nat) (r:Us):Prop where
 bok:Bok r.B
 sm:SmB r.B
 ok:r.ok=true→r.w≤400
 len:r.B.length+w≤B.length+r.w
 ext:∃N,r.B=N++B
theorem SmB.cons {B:Bnd} (h:SmB B) {x:Int×Tm} (hx:x.2.ar.nodes≤24):SmB (x::B):=fun y hy=>by
 rcases List.mem_cons.1 hy with rfl|hy
 ·exact hx
 ·exact h y hy
theorem QqP {B:Bnd} {w:Nat} {v:Int} {t:Tm} (hB:Bok B) (hS:SmB B) (hv:Qci v B=none) (hk:t.k≠0) (ht:t.ar.nodes≤24):UP B w (QnL v t B w):=by
 have h1:=Qre (B:=B) (v:=v) 401 t w;unfold QnL;split
 ·exact ⟨hB,hS,fun h=>(by cases h),by simp only;omega,[],rfl⟩
 ·rename_i h;exact ⟨⟨hv,fun h=>absurd h hk,hB⟩,hS.cons ht,fun _=>by simp only;omega,by simp;omega,[(v,t)],rfl⟩
theorem QqQ {g:Tm→Tm→Bnd→Nat→Us}:∀(T U:Ts) (B:Bnd) (w:Nat),(∀a b:Tm,a.ar.nodes<T.nodes→b.ar.nodes<U.nodes→∀B w,Bok B→SmB B→w≤400→UP B w (g a b B w))→Bok B→SmB B→w≤400→UP B w (QiV g T U B w)
 | .nil,U,B,w,h,hB,hS,hw=>⟨hB,hS,fun _=>hw,by simp [QiV],[],rfl⟩
 | .cons k n s a r,.nil,B,w,h,hB,hS,hw=>⟨hB,hS,fun _=>hw,by simp [QiV],[],rfl⟩
 | .cons k n s a r,.cons k' n' s' a' r',B,w,h,hB,hS,hw=>by
  have h1:=h ⟨k,n,s,a⟩ ⟨k',n',s',a'⟩ Yi Yi B w hB hS hw;simp only [QiV];split
  ·rename_i hok;have h2:=QqQ r r' _ _ (fun a b ha hb=>h a b Yi Yi) h1.bok h1.sm (h1.ok hok);obtain ⟨N1,e1⟩:=h1.ext;obtain ⟨N2,e2⟩:=h2.ext;refine ⟨h2.bok,h2.sm,h2.ok,?_,N2++N1,by rw [e2,e1,List.append_assoc]⟩;have:=h1.len;have:=h2.len;omega
  ·exact h1
theorem QeW:∀(f:Nat) (a b:Tm) (B:Bnd) (w:Nat),a.ar.nodes≤24→b.ar.nodes≤24→Bok B→SmB B→w≤400→UP B w (Qa8 f a b B w)
 |0,a,b,B,w,ha,hb,hB,hS,hw=>⟨hB,hS,fun h=>(by cases h),by simp only [Qa8];omega,[],rfl⟩
 | f + 1, a, b, B, w, ha, hb, hB, hS, hw => by
  have ea:=Qa4 hS ha;have eb:=Qa4 hS hb;have na:=QbP hB a;have nb:=QbP hB b
  have up1:∀r:Us,UP B (w+1) r→UP B w r:=fun r h=>⟨h.bok,h.sm,h.ok,by have:=h.len;omega,h.ext⟩
  simp only [Qa8];split
  ·exact ⟨hB,hS,fun h=>(by cases h),by simp only;omega,[],rfl⟩
  split
  ·rename_i ha0;split
   ·rename_i hb0;by_cases e:(Qg B a).n=(Qg B b).n
    ·rw [if_pos e];exact ⟨hB,hS,fun _=>by simp only;omega,by simp only;omega,[],rfl⟩
    ·rw [if_neg e];exact ⟨⟨na ha0,fun h=>⟨fun h2=>e h2.symm,nb h⟩,hB⟩,hS.cons eb,fun _=>by simp only;omega,by simp;omega,[_],rfl⟩
   ·rename_i hb0;exact up1 _ (QqP hB hS (na ha0) hb0 eb)
  split
  ·rename_i ha0 hb0;exact up1 _ (QqP hB hS (nb hb0) ha0 ea)
  split
  ·exact up1 _ (QqQ _ _ _ _ (fun x y hx hy B w hB hS hw=>QeW f x y B w Ya Ya hB hS hw) hB hS Ya)
  ·exact ⟨hB,hS,fun h=>(by cases h),by simp only;omega,[],rfl⟩
theorem Qgs {M:List Nat} {w0:World} {H H0:List (Nat×Obj)} {F:List (World→Prop)} {b mb clk:Nat} {es:Array MapEntry} {TR:Value} {rest:List Value} {O:List (Nat×Obj)} {G:List GB} (t:LT) (w:World) (hB:BM G 3 es TR O F) (hA:Und F (LRd t)) (hS:St M w0 H0 F w) (hP:H0.Perm ((b,sob mb TR rest)::(mb,.map es clk)::H)):
  Calls Tryz.prog 178 #[pt b,tv t] w fun e w'=>∃u:LT,e= .returned (tv u)∧u.tm=Qg (bnd G) t.tm∧Und F (LRd u)∧St M w0 H0 F w':=
 (QqN t w hB hA (hS.perm hP)).mono fun e w' ⟨u,h1,h2,h3,h4⟩=>⟨u,h1,h2,h3,h4.perm hP.symm⟩
def Qla (f:Nat):Prop:=∀(M:List Nat) (w0:World) (H:List (Nat×Obj)) (F:List (World→Prop)) (b mb clk ub:Nat) (es:Array MapEntry) (TR:Value) (rest:List Value) (O:List (Nat×Obj)) (G:List GB) (v:Int) (t:LT) (k:Nat) (w:World),
 BM G 3 es TR O F→SmB (bnd G)→t.tm.ar.nodes≤24→Und F (LRd t)→400≤k+f→k≤20000→f≤401→St M w0 ((ub,Qpg b k)::(b,sob mb TR rest)::(mb,.map es clk)::H) F w→
  Calls Tryz.prog 238 #[pt ub,.int .i64 v,tv t] w fun e w'=>e= .returned (.bool (Qem (bnd G) v f t.tm k).1)∧St M w0 ((ub,Qpg b (Qem (bnd G) v f t.tm k).2)::(b,sob mb TR rest)::(mb,.map es clk)::H) F w'
theorem QlB (f:Nat) (ih:∀f',f=f'+1→Qla f'):Qla f:=by
 intro M w0 H F b mb clk ub es TR rest O G v t k w hB hSm ht hA hkf hk hf hS;refine Qz Tryz.func238 rfl Tryz.ntmps238 rfl ?_;refine Zf ?_;clear hS;intro b1 wx1 hS;refine Zd ?_;refine Zd4 ?_;refine ZB ?_;refine Zbt ?_;clear hS;intro wx2 hS;refine Zdh ?_;replace hS:St M w0 ((b1,tob t)::(ub,Qpg b (k+1))::(b,sob mb TR rest)::(mb,.map es clk)::H) F _:=hS;refine Zj ?_;refine Calls.mono (Qd6 ub (k+1) _ hS.swap) ?_;rintro _ w3 ⟨rfl,hS'⟩;refine Za ?_;replace hS:=hS';clear hS';refine Zb ?_;replace hS:=hS.swap;by_cases hk4:400<k+1
 ·have e:Qem (bnd G) v f t.tm k=(false,k+1):=by
   cases f with
   |zero=>rfl
   |succ f=>simp only [Qem];rw [if_pos hk4]
  rw [e,decide_eq_true hk4];refine ZaF ?_;refine Zk ?_;refine ZeO ?_;exact ⟨rfl,hS.drop⟩
 ·obtain ⟨f,rfl⟩:∃f',f=f'+1:=⟨f-1,by omega⟩
  have ih:=ih f rfl;rw [decide_eq_false hk4];simp only [Qem];rw [if_neg hk4];refine Zdk ?_;refine Zl ?_;refine Qq (St _ _ _ _) 6 ((0,true)::(1,true)::(2,true)::(3,true)::(4,true)::(5,false)::[]) Yc Yc (hS.drew) ?_;replace hS:=hS.drew;refine ZbV ?_;refine Zb8 ?_;refine ZbT ?_;refine Calls.mono (Qgs t _ hB hA hS (List.perm_append_comm_assoc [_,_] [_,_] _)) ?_;rintro _ w4 ⟨u,rfl,hu,hru,hS'⟩;refine Za ?_;replace hS:=hS';clear hS'
  have hun:u.tm.ar.nodes≤24:=by rw [hu];exact Qa4 hSm ht
  rw [←hu];by_cases hk0:u.k=0
  ·rw [if_pos (show u.tm.k=0 from hk0)];by_cases hv:u.n=v
   ·rw [decide_eq_true (show u.tm.n=v from hv)];refine Zcf ?_;clear hS;intro wx3 hS;refine Zcg ?_;refine Zbh ?_;refine Zf8 ?_;refine Ze ?_;refine Zq ?_;refine Zd ?_;refine ZeO ?_;exact ⟨rfl,hS.drop⟩
   ·rw [decide_eq_false (show¬u.tm.n=v from hv)];refine Zcf ?_;clear hS;intro wx3 hS;refine Zcg ?_;refine Zbh ?_;refine Zf8 ?_;refine Ze ?_;refine Zq ?_;refine Zd ?_;refine ZeO ?_;exact ⟨rfl,hS.drop⟩
  ·rw [if_neg (show ¬ u.tm.k = 0 from hk0)];refine Zcf ?_;clear hS;intro wx3 hS;refine Zcg ?_;refine ZaW ?_;refine Za8 ?_;refine Za2 ?_;refine ZQ ?_;have hlu:=u.ar.ts.length_le;rw [TA.len_ts] at hlu;have hun':u.ar.ts.nodes≤24:=hun;refine Qn 34 (35::36::37::8::38::39::40::41::6::42::[]) (fun (R:TA) x w'=>∃(D:TA) (kk:Nat),u.ar=D.app R∧x= .int .i64 (D.len:Nat)∧kk≤max (k+1) (401+24*f)+D.len∧k+1≤kk∧Qp9 (Qem (bnd G) v f) u.tm.ar (k+1)=Qp9 (Qem (bnd G) v f) R.ts kk∧St M w0 ((b1,tob u)::(ub,Qpg b kk)::(b,sob mb TR rest)::(mb,.map es clk)::H) F w') (fun R=>R.len) (u.ar) ?_ Yb ?_
   ·exact ⟨.nil,k+1,rfl,rfl,by simp [TA.len];omega,Nat.le_refl _,rfl,hS⟩
   clear hS;rintro R _ w5 jv ⟨D,kk,hDR,rfl,hkk,hkk2,hany,hS⟩ ihl;have hlen:u.ar.len=D.len+R.len:=by rw [hDR,TA.len_app]
   cases R with
   |nil=>
    simp only [TA.len] at hlen;refine Zcd ?_;refine ZeO ?_;rw [hany];exact ⟨rfl,hS.drop⟩
   |cons k1 n1 s1 A1 c1 a1 r1=>
    simp only [TA.len] at hlen
    have hsub:Und F (LRd ⟨k1,n1,s1,A1,c1,a1⟩):=fun w hw=>by
     have:=hru w hw;unfold LRd at this;rw [hDR] at this;exact this.sub
    have hcell:=hS.und hru;unfold LRd at hcell;rw [hDR] at hcell;obtain ⟨b6,o6,hA6,q0,q1,q2,q3,_⟩:=hcell.at_;obtain ⟨uk,un,us,uA,uc,uar⟩:=u;dsimp only at*;subst hA6
    have hnod:a1.ts.nodes<uar.ts.nodes:=by rw [hDR,TA.app_ts,Ts.nodes_app];simp only [TA.ts,Ts.nodes];omega
    have hocc:=Qrb hSm v f ⟨k1,n1,s1,a1.ts⟩ (by show a1.ts.nodes≤24;omega) kk;have hgt:=Qre (B:=bnd G) (v:=v) f ⟨k1,n1,s1,a1.ts⟩ kk
    have hstep:Qp9 (Qem (bnd G) v f) (TA.cons k1 n1 s1 A1 c1 a1 r1).ts kk=if (Qem (bnd G) v f ⟨k1,n1,s1,a1.ts⟩ kk).1=true then (true,(Qem (bnd G) v f ⟨k1,n1,s1,a1.ts⟩ kk).2) else Qp9 (Qem (bnd G) v f) r1.ts (Qem (bnd G) v f ⟨k1,n1,s1,a1.ts⟩ kk).2:=rfl
    refine Zec ?_;refine Zab ?_;refine Zw ?_;clear hS;intro b2 wx4 hS;refine Zc ?_;clear hS;intro wx5 hS;refine Zbg ?_;refine Zab ?_;refine Zz ?_;refine Calls.mono ((ih M w0 _ F b mb clk ub es TR rest O G v ⟨k1,n1,s1,A1,c1,a1⟩ kk _ hB hSm (by show a1.ts.nodes≤24;omega) hsub Ya Ya Ya (hS.perm (List.perm_append_comm_assoc [_,_] [_,_,_] _)))) ?_;rintro _ w6 ⟨rfl,hS'⟩;refine Za ?_;replace hS:=hS';clear hS';refine Zb ?_;replace hS:=hS.perm (List.perm_append_comm_assoc [_,_,_] [_,_] _)
    cases hr:(Qem (bnd G) v f ⟨k1,n1,s1,a1.ts⟩ kk).1 with
    |true=>
     rw [show (LT.mk k1 n1 s1 A1 c1 a1).tm=⟨k1,n1,s1,a1.ts⟩ from rfl,hr];refine ZaF ?_;refine Zk ?_;refine ZeO ?_;rw [hany,hstep,if_pos hr];exact ⟨rfl,hS.drop.drop⟩
    |false=>
     rw [show (LT.mk k1 n1 s1 A1 c1 a1).tm=⟨k1,n1,s1,a1.ts⟩ from rfl,hr];refine Zdk ?_;refine ZbI ?_;refine ihl r1 _ _ _ ?_ ?_ Yb Yc
     ·simp [TA.len]
     ·refine ⟨D.app (.cons k1 n1 s1 A1 c1 a1 .nil),_,by rw [hDR,TA.app_assoc];rfl,by rw [TA.len_app];rfl,?_,?_,?_,hS.drop⟩
      ·rw [TA.len_app];simp only [TA.len];exact Nat.le_trans hocc Ya
      ·exact Nat.le_trans Ya hgt
      ·rw [hany,hstep,if_neg (by rw [hr];decide)];rfl
theorem QlC:∀f,Qla f
 |0=>QlB 0 fun f' h=>by omega
 |f+1=>QlB (f+1) fun f' h=>by
  obtain rfl:f=f':=by omega
  exact QlC f
def USt (M:List Nat) (w0:World) (H:List (Nat×Obj)) (F:List (World→Prop)) (b mb ub:Nat) (rest:List Value) (r:Us) (w:World):Prop:=
 ∃(G:List GB) (es:Array MapEntry) (clk:Nat) (TR:Value) (O:List (Nat×Obj)),bnd G=r.B∧BM G 3 es TR O F∧St M w0 ((ub,Qpg b r.w)::(b,sob mb TR rest)::(mb,.map es clk)::(O++H)) F w
section
variable {M:List Nat} {w0:World} {H:List (Nat×Obj)} {F:List (World→Prop)} {b mb clk ub:Nat} {es:Array MapEntry} {TR:Value} {rest:List Value} {O:List (Nat×Obj)} {G:List GB}
theorem QhV (v:Int) (t:LT) (k:Nat) (w:World) (hB:BM G 3 es TR O F) (hSm:SmB (bnd G)) (ht:t.tm.ar.nodes≤24) (hA:Und F (LRd t)) (hv:Qci v (bnd G)=none) (hk0:t.k≠0) (hk:k≤400) (hl:G.length≤1099511627776)
  (hS:St M w0 ((ub,Qpg b k)::(b,sob mb TR rest)::(mb,.map es clk)::(O++H)) F w):
  Calls Tryz.prog 211 #[pt ub,.int .i64 v,tv t] w fun e w'=>e= .returned (.bool (QnL v t.tm (bnd G) k).ok)∧USt M w0 H F b mb ub rest (QnL v t.tm (bnd G) k) w':=by
 have hpos:QnL v t.tm (bnd G) k=if (Qem (bnd G) v 401 t.tm k).1=true∨400<(Qem (bnd G) v 401 t.tm k).2 then ⟨false,bnd G,(Qem (bnd G) v 401 t.tm k).2⟩ else ⟨true,(v,t.tm)::bnd G,(Qem (bnd G) v 401 t.tm k).2⟩:=rfl
 refine Qz Tryz.func211 rfl Tryz.ntmps211 rfl ?_;refine Zf ?_;clear hS;intro b1 wx1 hS;refine ZZ ?_;refine Ze ?_;refine Zab ?_;refine Zz ?_;refine Calls.mono ((QlC 401 M w0 _ F b mb clk ub es TR rest O G v t k _ hB hSm ht hA Ya Ya Ya (hS.perm (List.perm_append_comm_assoc [_] [_,_,_] _)))) ?_;rintro _ w3 ⟨rfl,hS'⟩;refine Za ?_;replace hS:=hS';clear hS';replace hS:=hS.perm (List.perm_append_comm_assoc [_,_,_] [_] _);generalize Qem (bnd G) v 401 t.tm k=oc at*;obtain ⟨o1,o2⟩:=oc;dsimp only at*
 cases o1 with
 |true=>
  rw [if_pos (.inl rfl)] at hpos;rw [hpos];refine Za0 ?_;refine Z1 ?_;refine Zgl ?_;exact ⟨rfl,G,es,clk,TR,O,rfl,hB,hS.drop⟩
 |false=>
  by_cases h4:400<o2
  ·rw [if_pos (.inr h4)] at hpos;rw [hpos];refine ZI ?_;refine Zj ?_;refine Calls.mono (Qd6 ub o2 _ hS.swap) ?_;rintro _ w4 ⟨rfl,hS'⟩;refine Za ?_;replace hS:=hS';clear hS';replace hS:=hS.swap;rw [decide_eq_true h4];refine Z1 ?_;refine Zgl ?_;exact ⟨rfl,G,es,clk,TR,O,rfl,hB,hS.drop⟩
  ·rw [if_neg (by simp [h4])] at hpos;rw [hpos];refine ZI ?_;refine Zj ?_;refine Calls.mono (Qd6 ub o2 _ hS.swap) ?_;rintro _ w4 ⟨rfl,hS'⟩;refine Za ?_;replace hS:=hS';clear hS';replace hS:=hS.swap;rw [decide_eq_false h4];refine Z2 ?_;refine Zl ?_;refine Zhc ?_;replace hS:=hS.drew;refine ZbV ?_;refine Zs ?_;refine Zb8 ?_;refine ZF ?_;refine Zz ?_;refine Calls.mono (QoU v t _ hB hv (fun h=>absurd h hk0) hA hl (hS.perm ((List.perm_append_comm_assoc [_,_] [_,_] _).trans (.cons _ (.cons _ (List.perm_append_comm_assoc [_,_] _ _)))))) ?_;rintro _ w5 ⟨es',clk',TR',O',rfl,hB',hS'⟩;refine Za ?_;replace hS:=hS';clear hS';replace hS:=hS.perm ((List.Perm.cons _ (.cons _ (List.perm_append_comm_assoc _ [_,_] _))).trans (List.perm_append_comm_assoc [_,_] [_,_] _));refine Zay ?_;refine Zgl ?_;exact ⟨rfl,_,es',clk',TR',O',rfl,hB',hS.drop⟩
end
end Go.Proofs.YthliapbflkfdiacGreatDoor
