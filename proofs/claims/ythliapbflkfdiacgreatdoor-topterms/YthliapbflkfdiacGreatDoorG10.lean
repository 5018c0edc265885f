/- SWalk4, SWalk5, TidyBy, Tidy, SInv, SMem3: texts that follow one another, laid into one file. -/
import Derived.Test.YthliapbflkfdiacGreatDoorZ0
import Derived.Test.YthliapbflkfdiacGreatDoorG9
import Derived.Test.YthliapbflkfdiacGreatDoorG7
import Derived.Test.YthliapbflkfdiacGreatDoorG3
import Derived.Test.YthliapbflkfdiacGreatDoorG8
namespace Go.Proofs.YthliapbflkfdiacGreatDoor
open Go.RowKit
set_option linter.unusedVariables false
set_option linter.unusedSimpArgs false
set_option maxRecDepth 100000
set_option maxHeartbeats 1000000
abbrev PR:=PRd 129
section
variable {M:List Nat} {w0:World} {H:List (Nat×Obj)} {F:List (World→Prop)}
theorem Qgi (t:LT) (m:Int) (w:World) (hA:Und F (LRd t)) (hn:t.tm.ar.nodes<1048576) (hS:St M w0 H F w):
  Calls Tryz.prog 120 #[tv t,.int .i64 m] w fun e w'=>∃u:LT,e= .returned (tv u)∧u.tm=t.tm.shift m∧St M w0 H (LRd u::F) w':=by
 have h1:=(hS.und hA).sl;refine (QqO t.k t.n m t.s t.ar.ts _ w h1 hn).mono ?_;rintro e w' ⟨v',rfl,h2,h3⟩;obtain ⟨A,c,L,rfl,e2,h4⟩:=hS.located h3 h2;exact ⟨⟨t.k,QcI t.k t.n m,t.s,A,c,L⟩,rfl,by simp only [LT.tm,Tm.shift,e2],h4⟩
theorem TA.snoc:∀(T:TA) (j:Nat),T.len=j+1→∃(D:TA) (k n:Int) (s:ByteArray) (A:Option Addr) (c:Nat) (a:TA),T=D.app (.cons k n s A c a .nil)∧D.len=j
 | .nil,j,h=>by simp [TA.len] at h
 | .cons k n s A c a .nil,j,h=>by
  obtain rfl:j=0:=by simp [TA.len] at h;omega
  exact ⟨.nil,k,n,s,A,c,a,rfl,rfl⟩
 | .cons k n s A c a (.cons k' n' s' A' c' a' r),j,h=>by
  obtain ⟨j,rfl⟩:∃j',j=j'+1:=⟨j-1,by simp only [TA.len] at h;omega⟩
  obtain ⟨D,k1,n1,s1,A1,c1,a1,e,hl⟩:=TA.snoc (.cons k' n' s' A' c' a' r) j (by simp only [TA.len] at h⊢;omega);exact ⟨.cons k n s A c a D,k1,n1,s1,A1,c1,a1,by rw [e];rfl,by simp only [TA.len,hl]⟩
theorem Qkb (T:TA) (A:Option Addr) (c:Nat) (m:Int) (o:Nat) (rest:List GN) (w:World) (hT:Und F (ArA A c T)) (hn:T.ts.nodes<1048576) (hr:Und F (PR rest)) (hS:St M w0 H F w):
  Calls Tryz.prog 73 #[.slice A T.len c,.int .i64 m,.int .i64 (o:Nat),Qcu rest] w fun e w'=>∃(gs:List GN) (F':List (World→Prop)),e= .returned (Qcu gs)∧Qdq gs=QiL T.ts m o (Qdq rest)∧(∀φ∈F,φ∈F')∧Und F' (PR gs)∧St M w0 H F' w':=by
 have hle:=T.ts.length_le;rw [TA.len_ts] at hle;refine Qbj Tryz.func73 rfl Tryz.ntmps73 rfl ?_;refine ZaL ?_;refine ZcI ?_;refine Zb3 ?_;refine QX 9 3 (13::14::17::18::19::20::21::22::23::24::25::26::15::16::[]) (fun (j:Nat) v u w'=>∃(D R:TA) (gs:List GN) (F':List (World→Prop)),T=D.app R∧D.len=j∧v= .int .i64 ((j:Nat)-1)∧u=Qcu gs∧Qdq gs=QiL R.ts m o (Qdq rest)∧(∀φ∈F,φ∈F')∧Und F' (PR gs)∧St M w0 H F' w') (fun j=>j) (T.len) ?_ Yb Yb ?_
 ·exact ⟨T,.nil,rest,F,by rw [TA.app_nil],rfl,rfl,rfl,rfl,fun _ h=>h,hr,hS⟩
 clear hS;rintro j _ _ w2 jv ⟨D,R,gs,F',hDR,hDj,rfl,rfl,hgs,hFF,hpr,hS⟩ ih;have hlen:T.len=D.len+R.len:=by rw [hDR,TA.len_app]
 cases j with
 |zero=>
  have hD:D= .nil:=by cases D with
   |nil=>rfl
   |cons _ _ _ _ _ _ _=>simp [TA.len] at hDj
  subst hD;refine Zu ?_;refine Z6 ?_;refine ZaR ?_;refine Zar ?_;refine Qd Tryz.func73 rfl Yb ?_;exact ⟨gs,F',rfl,by rw [hDR];exact hgs,hFF,hpr,hS⟩
 |succ j=>
  obtain ⟨D',k1,n1,s1,A1,c1,a1,rfl,hD'⟩:=TA.snoc D j hDj
  have hDR':T=D'.app (.cons k1 n1 s1 A1 c1 a1 R):=by rw [hDR,TA.app_assoc];rfl
  have hT':=hT.mono hFF;rw [hDR'] at hT'
  have hnod:a1.ts.nodes<T.ts.nodes:=by rw [hDR',TA.app_ts,Ts.nodes_app];simp only [TA.ts,Ts.nodes];omega
  have hsub:Und F' (LRd ⟨k1,n1,s1,A1,c1,a1⟩):=hT'.imp fun w h=>h.sub;obtain ⟨b6,o6,rfl⟩:=(hS.und hT').some_ (by rw [TA.len_app];simp only [TA.len];omega);obtain ⟨q0,q1,q2,q3⟩:=(hS.und hT').cells;rw [show o6+D'.len*4=o6+(((j+1:Nat):Int)-1).toNat*4 by omega] at q0 q1 q2 q3;refine Zu ?_;refine Z6 ?_;refine ZR ?_;refine Ze6 ?_;refine Z8 ?_;refine Zb4 ?_;refine Zab ?_;refine Zak ?_;refine Calls.mono (Qgi ⟨k1,n1,s1,A1,c1,a1⟩ m _ hsub (by show a1.ts.nodes<_;omega) hS) ?_;rintro _ w3 ⟨u,rfl,hu,hS'⟩;refine Za ?_;replace hS:=hS';clear hS';refine ZS ?_;refine Qa (QH (cells:=[_,_,_,_,_,_]) (.cons Yb (.cons Yb (.cons Yb .nil))) rfl) rfl ?_;refine Zaw ?_;clear hS;intro b1 wx1 hS;refine Zd ?_;refine Zam ?_;refine ZP ?_;refine Zbl ?_;refine Zd ?_;replace hS:=hS.freeze;refine ih j _ _ _ _ ?_ ?_ Yb Yb Yc
  ·omega
  ·refine ⟨D',.cons k1 n1 s1 A1 c1 a1 R,⟨u,o,b1⟩::gs,_,hDR',hD',?_,rfl,?_,fun φ h=> .tail _ (.tail _ (hFF φ h)),?_,hS⟩
   ·congr 1;omega
   ·show (u.tm,o)::Qdq gs=_;rw [hu,hgs];rfl
   ·exact fun w hw=>⟨hw _ (.head _),hw _ (.tail _ (.head _)),hpr w fun φ hφ=>hw φ (.tail _ (.tail _ hφ))⟩
def Qlf (g:LT) (c:LC):Bool:=decide (c.hd.s=g.s)&&decide (c.hd.ar.len=g.ar.len)
theorem Qvl (g:LT) (P:List LC):(P.filter (Qlf g)).map LC.cl=(P.map LC.cl).filter (QeI g.tm):=by
 rw [List.filter_map];congr 2;funext c;show (_&&decide (c.hd.ar.len=g.ar.len))=(_&&decide (c.hd.ar.ts.length=g.ar.ts.length));rw [TA.len_ts,TA.len_ts];rfl
theorem Ql5 {b mb:Nat} {TR:Value} {rest:List Value} (P:List LC) (pA:Option Addr) (pc:Nat) (g:LT) (w:World) (hP:Und F (QgE P pA pc)) (hl:P.length≤24)
  (hS:St M w0 ((b,sob mb TR (.slice pA P.length pc::rest))::H) F w):
  Calls Tryz.prog 77 #[pt b,tv g] w fun e w'=>∃(A:Option Addr) (c:Nat) (F':List (World→Prop)),e= .returned (.slice A (P.filter (Qlf g)).length c)∧(∀φ∈F,φ∈F')∧Und F' (QgE (P.filter (Qlf g)) A c)∧St M w0 ((b,sob mb TR (.slice pA P.length pc::rest))::H) F' w':=by
 refine Qf Tryz.func77 rfl Tryz.ntmps77 rfl ?_;refine Zf ?_;clear hS;intro b1 wx1 hS;refine Zd ?_;refine ZcJ ?_;refine Z7 ?_;refine ZQ ?_;refine QX 13 5 (14::15::16::7::17::18::19::20::21::22::23::24::25::26::27::28::29::30::31::32::33::34::35::36::37::[]) (fun (R:List LC) v u w'=>∃(D:List LC) (O:List (Nat×Obj)),P=D++R∧v= .int .i64 (D.length:Nat)∧Row 65 6 u (D.filter (Qlf g)).length (QrK (D.filter (Qlf g))) O∧St M w0 ((b1,tob g)::(b,sob mb TR (.slice pA P.length pc::rest))::(O++H)) F w') (fun R=>R.length) (P) ?_ Yb Yb ?_
 ·exact ⟨[],[],rfl,rfl,Row.nil_,hS⟩
 clear hS;rintro R _ V w2 jv ⟨D,O,hDR,rfl,hrow,hS⟩ ih
 have hlen:P.length=D.length+R.length:=by rw [hDR];simp
 obtain ⟨Av,cv,rfl⟩:=hrow.form
 cases R with
 |nil=>
  simp only [List.length_nil] at hlen
  have e:P=D:=by rw [hDR];simp
  refine Zci ?_;refine Qd Tryz.func77 rfl Yb ?_;rw [←e] at hrow⊢;obtain ⟨F',h1,h2,h3⟩:=St.freezeC (H:=(b,sob mb TR (.slice pA P.length pc::rest))::H) hrow (fun x hx=>hP.imp fun w h=>h.2.2 x (List.mem_filter.1 hx).1) (hS.drop.perm (List.perm_append_comm_assoc [_] _ _));exact ⟨Av,cv,F',rfl,h1,h2,h3⟩
 |cons x R=>
  simp only [List.length_cons] at hlen;rw [hDR] at hP;obtain ⟨b6,o6,rfl⟩:=(hS.und hP).some_ Yh;obtain ⟨q0,q1,q2,q3,q4,q5⟩:=(hS.und hP).cells;have hflen:=List.length_filter_le (Qlf g) D;by_cases hs:x.hd.s=g.s
  ·by_cases hal:x.hd.ar.len=g.ar.len
   ·have hfit:(D++[x]).filter (Qlf g)=D.filter (Qlf g)++[x]:=by rw [List.filter_append];simp [Qlf,hs,hal]
    refine ZdS ?_;refine Zfy ?_;refine Zb7 ?_;refine ZcS ?_;clear hS;intro b2 wx2 hS;refine Zc ?_;clear hS;intro wx3 hS;refine Zb ?_;refine ZaD ?_;refine Z7 ?_;refine Z7 ?_;refine Zaf ?_;refine Zc4 ?_;refine ZbU ?_;refine ZbU ?_;refine Zq ?_;refine ZaI ?_;refine ZP ?_;refine Zb7 ?_;refine QaB (cells:=[_,_,_,_,_,_]) hS (.cons Yb .nil) rfl rfl ?_;clear hS;intro b3 wx4 hS;refine QaN (sz:=6) (bts:=88) hS Yb rfl rfl rfl rfl (hrow) rfl rfl (.cons _ (List.perm_append_comm_assoc [_,_,_] _ _)) Ya Ya rfl ?_;clear hS;intro v' O' w6 hrow' hS;replace hS:=hS.perm (List.perm_append_comm_assoc O' [_,_,_] _);refine ZaY ?_;refine ih (R) _ _ _ _ ?_ ?_ Yb Yb Yc
    ·simp
    ·exact ⟨D++[x],O',by rw [hDR];simp,by simp,by rw [hfit,QtJ,List.length_append];exact hrow',hS.drop⟩
   ·have hfit:(D++[x]).filter (Qlf g)=D.filter (Qlf g):=by rw [List.filter_append];simp [Qlf,hal]
    refine ZdS ?_;refine Zfy ?_;refine Zb7 ?_;refine ZcS ?_;clear hS;intro b2 wx2 hS;refine Zc ?_;clear hS;intro wx3 hS;refine Zb ?_;refine ZaD ?_;refine Z7 ?_;refine Z7 ?_;refine Zaf ?_;refine Zc4 ?_;refine ZbU ?_;refine ZbU ?_;refine Zq ?_;refine Z2 ?_;refine ZbI ?_;refine ih (R) _ _ _ _ ?_ ?_ Yb Yb Yc
    ·simp
    ·exact ⟨D++[x],O,by rw [hDR];simp,by simp,by rw [hfit];exact hrow,hS.drop⟩
  ·have hfit:(D++[x]).filter (Qlf g)=D.filter (Qlf g):=by rw [List.filter_append];simp [Qlf,hs]
   refine ZdS ?_;refine Zfy ?_;refine Zb7 ?_;refine ZcS ?_;clear hS;intro b2 wx2 hS;refine Zc ?_;clear hS;intro wx3 hS;refine Zb ?_;refine ZaD ?_;refine Z7 ?_;refine Z7 ?_;refine Zaf ?_;refine Zde ?_;refine Zah ?_;refine Z2 ?_;refine ZbI ?_;refine ih (R) _ _ _ _ ?_ ?_ Yb Yb Yc
   ·simp
   ·exact ⟨D++[x],O,by rw [hDR];simp,by simp,by rw [hfit];exact hrow,hS.drop⟩
end
theorem QfG (g:Tm→Nat→Option (Tm×Nat)) (k n:Int) (s:ByteArray) (a r:Ts) (l:Nat):Qf9 g (.cons k n s a r) l=(g ⟨k,n,s,a⟩ l).bind fun p=>(Qf9 g r p.2).map fun q=>(.cons p.1.k p.1.n p.1.s p.1.ar q.1,q.2):=by
 simp only [Qf9]
 cases g ⟨k,n,s,a⟩ l with
 |none=>rfl
 |some p=>
  simp only [Option.bind_some];cases Qf9 g r p.2<;>rfl
theorem Qeb (B:Bnd) (f:Nat) (t:Tm) (l:Nat):Qfg B (f+1) t l=if l=0 then none else (Qf9 (Qfg B f) (Qg B t).ar (l-1)).map fun p=>(⟨(Qg B t).k,(Qg B t).n,(Qg B t).s,p.1⟩,p.2):=by
 simp only [Qfg];split
 ·rfl
 ·cases Qf9 (Qfg B f) (Qg B t).ar (l-1)<;>rfl
theorem QjR {g:Tm→Nat→Option (Tm×Nat)} (hg:∀t l p,g t l=some p→p.1.ar.nodes+1+p.2=l):∀(T:Ts) (l:Nat) (p:Ts×Nat),Qf9 g T l=some p→p.1.nodes+p.2=l∧p.1.length=T.length
 | .nil,l,p,h=>by
  simp only [Qf9,Option.some.injEq] at h;subst h;exact ⟨by simp [Ts.nodes],rfl⟩
 | .cons k n s a r,l,p,h=>by
  rw [QfG] at h
  cases h1:g ⟨k,n,s,a⟩ l with
  |none=>rw [h1] at h;cases h
  |some q=>
   rw [h1,Option.bind_some] at h
   cases h2:Qf9 g r q.2 with
   |none=>rw [h2] at h;cases h
   |some x=>
    rw [h2,Option.map_some,Option.some.injEq] at h;subst h;have:=hg _ _ _ h1;obtain ⟨i1,i2⟩:=QjR hg r q.2 x h2;simp only [Ts.nodes,Ts.length];omega
theorem QfZ {B:Bnd}:∀(f:Nat) (t:Tm) (l:Nat) (p:Tm×Nat),Qfg B f t l=some p→p.1.ar.nodes+1+p.2=l
 |0,t,l,p,h=>by cases h
 |f+1,t,l,p,h=>by
  rw [Qeb] at h;by_cases h0:l=0
  ·rw [if_pos h0] at h;cases h
  ·rw [if_neg h0] at h
   cases h1:Qf9 (Qfg B f) (Qg B t).ar (l-1) with
   |none=>rw [h1] at h;cases h
   |some q=>
    rw [h1,Option.map_some,Option.some.injEq] at h;subst h;have:=(QjR (fun t l p h=>QfZ f t l p h) _ _ _ h1).1;show q.1.nodes+1+q.2=l;omega
section
variable {M:List Nat} {w0:World} {H:List (Nat×Obj)} {F:List (World→Prop)}
theorem Qr9 (A:Option Addr) (c:Nat) (T:TA) (w:World) (hA:Und F (ArA A c T)) (hn:T.len≤1048576) (hS:St M w0 H F w):
  Calls Tryz.prog 179 #[.slice A T.len c] w fun e w'=>∃(A':Option Addr) (c':Nat),e= .returned (.slice A' T.len c')∧T.len≤c'∧
   ((T.len=0∧St M w0 H F w')∨∃g sp,A'=some ⟨g,0,none⟩∧St M w0 ((g,.cells (QcH T++sp).toArray 63)::H) F w'):=by
 have h1:=hS.und hA
 have hraw:Raw w (.slice A T.len c) T.len (QcH T):=⟨A,c,rfl,h1.1,Qfn T,Qs9 T,fun hl=>by
  obtain ⟨b,o,e,hs⟩:=h1.2 hl
  exact ⟨b,o,e,hs.cells.2⟩⟩
 refine (QiI hraw (Nat.le_trans hn Ya)).mono ?_;rintro e w' ⟨v',rfl,hown,hb⟩;rcases hown.2 with ⟨rfl,h0⟩|⟨g,cap,cur,rfl,hg,hh,hle,_,hsz,htk⟩
 ·exact ⟨none,0,by rw [h0],by omega,.inl ⟨h0,hS.grow hb⟩⟩
 ·refine ⟨_,cap,rfl,hle,.inr ⟨g,cur.toList.drop (T.len*4),rfl,hS.adopt hb hg ?_⟩⟩;rw [←htk,List.take_append_drop,Array.toArray_toList];exact hh
def Qwi:Value:= .agg #[.int .i64 0,.int .i64 0,.string ⟨#[]⟩,.slice none 0 0]
def Qwv (F':List (World→Prop)) (e:Ending):Option (Tm×Nat)→Prop
 |none=>e= .returned (.tuple #[Qwi,.int .i64 0,.bool false])
 |some (u,l)=>∃u':LT,u'.tm=u∧Und F' (LRd u')∧e= .returned (.tuple #[tv u',.int .i64 (l:Nat),.bool true])
def QsT (f:Nat):Prop:=∀(M:List Nat) (w0:World) (H:List (Nat×Obj)) (F:List (World→Prop)) (b mb clk:Nat) (es:Array MapEntry) (TR:Value) (rest:List Value) (O:List (Nat×Obj)) (G:List GB) (t:LT) (l:Nat) (w:World),
 BM G 3 es TR O F→SmB (bnd G)→t.tm.ar.nodes≤24→Und F (LRd t)→l≤f→f≤1000→St M w0 ((b,sob mb TR rest)::(mb,.map es clk)::H) F w→
  Calls Tryz.prog 121 #[pt b,tv t,.int .i64 (l:Nat)] w fun e w'=>∃F',(∀φ∈F,φ∈F')∧Qwv F' e (Qfg (bnd G) f t.tm l)∧St M w0 ((b,sob mb TR rest)::(mb,.map es clk)::H) F' w'
theorem QsB (f:Nat) (iha:∀f',f=f'+1→QsT f'):QsT f:=by
 intro M w0 H F b mb clk es TR rest O G t l w hB hSm ht hA hlf hf hS;refine Qz Tryz.func121 rfl Tryz.ntmps121 rfl ?_;by_cases hl0:l=0
 ·subst hl0
  have e:Qfg (bnd G) f t.tm 0=none:=by
   cases f with
   |zero=>rfl
   |succ f=>rw [Qeb,if_pos rfl]
  rw [e];refine Zf ?_;clear hS;intro b1 wx1 hS;refine Zw ?_;clear hS;intro b2 wx2 hS;refine Zbq ?_;refine Zbd ?_;refine ZR ?_;refine Zg ?_;refine Zby ?_;clear hS;intro wx3 hS;refine Zo ?_;refine Zfz ?_;exact ⟨F,fun _ h=>h,rfl,hS.drop.drop⟩
 obtain ⟨f,rfl⟩:∃f',f=f'+1:=⟨f-1,by omega⟩
 have iha:=iha f rfl;rw [Qeb,if_neg hl0];refine Zf ?_;clear hS;intro b1 wx1 hS;refine Zw ?_;clear hS;intro b2 wx2 hS;refine Zbq ?_;refine Zbd ?_;refine Zn ?_;refine Zm ?_;refine Zbl ?_;refine Z4 ?_;refine Zab ?_;refine Zi ?_;refine Calls.mono (Qgs t _ hB hA hS (List.perm_append_comm_assoc [_,_] [_,_] _)) ?_;rintro _ w4 ⟨u,rfl,hu,hru,hS'⟩;refine Za ?_;replace hS:=hS';clear hS';refine Zc ?_;clear hS;intro wx3 hS;refine ZaV ?_;refine Za2 ?_
 have hun:u.ar.ts.nodes≤24:=by
  have:u.tm.ar.nodes≤24:=by rw [hu];exact Qa4 hSm ht
  exact this
 have hlu:=u.ar.ts.length_le;rw [TA.len_ts] at hlu;rw [←hu];refine Zj ?_;refine Calls.mono (Qr9 u.A u.c u.ar _ hru Ya hS) ?_;rintro _ w5 ⟨A',c',rfl,hc',hor⟩;refine Za ?_;clear hS;rcases hor with ⟨h0,hS⟩|⟨g,sp,rfl,hS⟩
 ·have hnil:u.ar= .nil:=by
   cases hq:u.ar with
   |nil=>rfl
   |cons _ _ _ _ _ _ _=>rw [hq] at h0;simp [TA.len] at h0
  refine Zd2 ?_;clear hS;intro wx4 hS;refine ZG ?_;refine Zg ?_;refine Za2 ?_;refine ZQ ?_;refine QX 27 2 (28::29::30::31::10::9::11::33::34::35::36::37::38::39::32::40::41::42::43::44::45::46::7::8::47::[]) (fun (x:Unit) v y w'=>v= .int .i64 0∧y= .int .i64 ((l:Int)-1)∧St M w0 ((b2,.cells [.int .i64 0,.int .i64 0,.string ⟨#[]⟩,.slice none 0 0].toArray 63)::(b1,.cells [.int .i64 u.k,.int .i64 u.n,.string u.s,.slice A' u.ar.len c'].toArray 63)::(b,sob mb TR rest)::(mb,.map es clk)::H) F w') (fun _=>0) (()) ?_ Yb Yb ?_
  ·exact ⟨rfl,rfl,hS⟩
  clear hS;rintro _ _ _ w6 jv ⟨rfl,rfl,hS⟩ ih;refine ZL ?_;refine Zg ?_;refine Zab ?_;refine Ze ?_;refine Zc ?_;clear hS;intro wx5 hS;refine Zo ?_;refine Zfz ?_;refine ⟨F,fun _ h=>h,?_,hS.drop.drop⟩
  have e:u.tm.ar= .nil:=by show u.ar.ts=_;rw [hnil];rfl
  rw [e];refine ⟨⟨u.k,u.n,u.s,A',c',u.ar⟩,by simp only [LT.tm,hnil];rfl,fun w _=>⟨hc',fun h=>by have h:0<u.ar.len:=h;omega⟩,?_⟩;rw [show ((l-1:Nat):Int)=(l:Int)-1 by omega]
 ·refine Zd2 ?_;clear hS;intro wx4 hS;refine ZG ?_;refine Zg ?_;refine Za2 ?_;refine ZQ ?_;have hcast:((l:Int)-1)=((l-1:Nat):Int):=by omega
  refine QX 27 2 (28::29::30::31::10::9::11::33::34::35::36::37::38::39::32::40::41::42::43::44::45::46::7::8::47::[]) (fun (R:TA) v x w'=>∃(D D':TA) (li:Nat) (F':List (World→Prop)),u.ar=D.app R∧D.len=D'.len∧v= .int .i64 (D.len:Nat)∧x= .int .i64 (li:Nat)∧li≤f∧Qf9 (Qfg (bnd G) f) u.ar.ts (l-1)=(Qf9 (Qfg (bnd G) f) R.ts li).map (fun p=>(D'.ts.app p.1,p.2))∧(∀φ∈F,φ∈F')∧Und F' (QnU D')∧St M w0 ((b2,.cells [.int .i64 0,.int .i64 0,.string ⟨#[]⟩,.slice none 0 0].toArray 63)::(b1,.cells [.int .i64 u.k,.int .i64 u.n,.string u.s,.slice (some ⟨g,0,none⟩) u.ar.len c'].toArray 63)::(g,.cells (QcH D'++(QcH R++sp)).toArray 63)::(b,sob mb TR rest)::(mb,.map es clk)::H) F' w') (fun R=>R.len) (u.ar) ?_ Yb Yb ?_
  ·exact ⟨.nil,.nil,l-1,F,rfl,rfl,rfl,by rw [←hcast],by omega,by cases Qf9 (Qfg (bnd G) f) u.ar.ts (l-1)<;>rfl,fun _ h=>h,fun _ _=>trivial,hS.down3⟩
  clear hS;rintro R _ _ w6 jv ⟨D,D',li,F',hDR,hDD,rfl,rfl,hli,hmap,hFF,hAR,hS⟩ ih;have hlen:u.ar.len=D.len+R.len:=by rw [hDR,TA.len_app]
  cases R with
  |nil=>
   simp only [TA.len] at hlen;refine ZL ?_;refine Zg ?_;refine Zab ?_;refine Ze ?_;refine Zc ?_;clear hS;intro wx5 hS;refine Zo ?_;refine Zfz ?_;replace hS:=(hS.drop.drop).freeze;refine ⟨_,fun φ h=> .tail _ (hFF φ h),?_,hS⟩
   have e:Qf9 (Qfg (bnd G) f) u.tm.ar (l-1)=some (D'.ts,li):=by
    show Qf9 (Qfg (bnd G) f) u.ar.ts (l-1)=_;rw [hmap];show some (D'.ts.app .nil,li)=_;rw [Ts.app_nil]
   rw [e];refine ⟨⟨u.k,u.n,u.s,some ⟨g,0,none⟩,c',D'⟩,rfl,fun w hw=>⟨by show D'.len≤c';omega,fun _=>⟨g,0,rfl,?_⟩⟩,?_⟩
   ·refine Qkn (hAR w fun φ hφ=>hw φ (.tail _ hφ)) fun j x hj=> ?_;have hg:=hw _ (.head _)
    have hjl:j<(QcH D').length:=by
     rcases Nat.lt_or_ge j (QcH D').length with h|h
     ·exact h
     ·rw [List.getElem?_eq_none h] at hj;cases hj
    rw [Qp hg,Nat.zero_add,List.getElem?_append_left hjl];exact hj
   ·have e2:u.ar.len=D'.len:=by omega
    rw [e2]
  |cons k1 n1 s1 A1 c1 a1 r1=>
   simp only [TA.len] at hlen;have hD4:=Qfn D'
   have hsub:Und F' (LRd ⟨k1,n1,s1,A1,c1,a1⟩):=(hru.mono hFF).imp fun w h=>by
    unfold LRd at h;rw [hDR] at h;exact h.sub
   have hnod:a1.ts.nodes≤24:=by rw [hDR,TA.app_ts,Ts.nodes_app] at hun;simp only [TA.ts,Ts.nodes] at hun;omega
   have hgc:∀j x,[Value.int .i64 k1,.int .i64 n1,.string s1,.slice A1 a1.len c1][j]?=some x→w6.cell? ⟨g,0+((D.len:Nat):Int).toNat*4+j,none⟩=some x:=fun j x hj=>by
    have hjl:j<4:=by
     rcases Nat.lt_or_ge j 4 with h|h
     ·exact h
     ·rw [List.getElem?_eq_none (by simpa using h)] at hj;cases hj
    rw [Qp (hS.own (g,_) (.tail _ (.tail _ (.head _)))),show 0+((D.len:Nat):Int).toNat*4+j=(QcH D').length+j by omega,List.getElem?_append_right Ya,show (QcH D').length+j-(QcH D').length=j by omega];simp only [QcH,List.append_assoc];rw [List.getElem?_append_left (by simpa using hjl)];exact hj
   have q0:=hgc 0 _ rfl;have q1:=hgc 1 _ rfl;have q2:=hgc 2 _ rfl;have q3:=hgc 3 _ rfl;rw [show (TA.cons k1 n1 s1 A1 c1 a1 r1).ts=Ts.cons k1 n1 s1 a1.ts r1.ts from rfl,QfG] at hmap
   cases hap:Qfg (bnd G) f ⟨k1,n1,s1,a1.ts⟩ li with
   |none=>
    rw [hap,Option.bind_none,Option.map_none] at hmap;have e:Qf9 (Qfg (bnd G) f) u.tm.ar (l-1)=none:=hmap;rw [e];refine Zd9 ?_;refine Zab ?_;refine Zw ?_;clear hS;intro b3 wx5 hS;refine Zbz ?_;clear hS;intro wx6 hS;refine Zay ?_;refine Zl ?_;refine Zhd ?_;replace hS:=hS.drew;refine Zdj ?_;refine Z0 ?_;refine Zb8 ?_;refine Zs ?_;refine Zp ?_;refine Zz ?_;refine Zhe ?_;rintro _ w7 ⟨F2,hF2,rfl,hS'⟩;refine Za ?_;replace hS:=hS';clear hS';replace hS:=hS.perm (List.perm_append_comm_assoc [_,_] [_,_,_,_] _);refine ZfA ?_;refine Zfe ?_;refine Zfl ?_;refine ZbC ?_;refine Zp ?_;refine Qa2 hS rfl Yb rfl rfl (.tail (.tail (.tail .head))) (QcK (QcH D') [.int .i64 k1,.int .i64 n1,.string s1,.slice A1 a1.len c1] [.int .i64 0,.int .i64 0,.string ⟨#[]⟩,.slice none 0 0] (QcH r1++sp) _ Ya rfl) (.tail (.tail (.tail .head))) ?_;clear hS;intro w8 hS;refine ZfA ?_;refine ZbO ?_;refine Zm ?_;refine ZaX ?_;refine Zby ?_;clear hS;intro wx7 hS;refine Zo ?_;refine Zfz ?_;exact ⟨F2,fun φ h=>hF2 φ (hFF φ h),rfl,hS.drop.drop.drop.drop⟩
   |some p=>
    obtain ⟨p1,lp⟩:=p;have hlp:=QfZ _ _ _ _ hap;rw [hap,Option.bind_some] at hmap;refine Zd9 ?_;refine Zab ?_;refine Zw ?_;clear hS;intro b3 wx5 hS;refine Zbz ?_;clear hS;intro wx6 hS;refine Zay ?_;refine Zl ?_;refine Zhd ?_;replace hS:=hS.drew;refine Zdj ?_;refine Z0 ?_;refine Zb8 ?_;refine Zs ?_;refine Zp ?_;refine Zz ?_;refine Zhe ?_;rintro _ w7 ⟨F2,hF2,⟨u2,hu2,hru2,rfl⟩,hS'⟩;refine Za ?_;replace hS:=hS';clear hS';replace hS:=hS.perm (List.perm_append_comm_assoc [_,_] [_,_,_,_] _);refine ZfA ?_;refine Zfe ?_;refine Zfl ?_;refine ZbC ?_;refine Zp ?_;refine Qa2 hS rfl Yb rfl rfl (.tail (.tail (.tail .head))) (QcK (QcH D') [.int .i64 k1,.int .i64 n1,.string s1,.slice A1 a1.len c1] (tcs u2) (QcH r1++sp) _ Ya rfl) (.tail (.tail (.tail .head))) ?_;clear hS;intro w8 hS;refine ZfA ?_;refine ZbO ?_;refine Zm ?_;refine Zef ?_;refine ih (r1) _ _ _ _ ?_ ?_ Yb Yb Yc
    ·simp [TA.len]
    ·refine ⟨D.app (.cons k1 n1 s1 A1 c1 a1 .nil),D'.app (.cons u2.k u2.n u2.s u2.A u2.c u2.ar .nil),lp,F2,by rw [hDR,TA.app_assoc];rfl,by rw [TA.len_app,TA.len_app,hDD];rfl,by rw [TA.len_app];rfl,rfl,by omega,?_,fun φ h=>hF2 φ (hFF φ h),?_,?_⟩
     ·rw [hmap,Option.map_map,TA.app_ts];congr 1;funext q;show (D'.ts.app (.cons p1.k p1.n p1.s p1.ar q.1),q.2)=((D'.ts.app (.cons u2.k u2.n u2.s u2.ar.ts .nil)).app q.1,q.2);rw [←hu2,Ts.app_assoc];rfl
     ·exact fun w hw=>QnU.app (U:= .cons u2.k u2.n u2.s u2.A u2.c u2.ar .nil) ⟨hru2 w hw,trivial⟩ ((hAR.mono hF2) w hw)
     ·rw [Qg8,List.append_assoc];exact hS.drop
theorem QsC:∀f,QsT f
 |0=>QsB 0 fun f' h=>by omega
 |f+1=>QsB (f+1) fun f' h=>by
  obtain rfl:f=f':=by omega
  exact QsC f
end
def Ts.vars (P:Int→Prop):Ts→Prop
 | .nil=>True
 | .cons k n _ ar r=>(k=0→P n)∧ar.vars P∧r.vars P
theorem Quo {n:Int}:∀{ks:List Int} {j:Nat},pos n ks=some j→j<ks.length
 |[],_,h=>by cases h
 |k::r,j,h=>by
  rw [pos] at h;by_cases e:n=k
  ·rw [if_pos e] at h;cases h;simp
  ·rw [if_neg e] at h
   cases hp:pos n r with
   |none=>rw [hp] at h;cases h
   |some i=>
    rw [hp] at h;cases h
    have:=Quo hp;simp;omega
def Ts.Mem (x:Tm):Ts→Prop
 | .nil=>False
 | .cons k n s a r=>x=⟨k,n,s,a⟩∨r.Mem x
def Qwt (Q:Tm→Prop):Prop:=∀t:Tm,Q t→∀x,t.ar.Mem x→Q x
theorem QgU {Q:Tm→Prop} {B:Bnd} (hB:∀x∈B,Q x.2) {t:Tm} (ht:Q t):Q (Qg B t):=by
 rcases QkC (B:=B) t with h|⟨x,hx,h⟩
 ·rw [h];exact ht
 ·rw [h];exact hB x hx
theorem QvT {Q:Tm→Prop} {B:Bnd} {v:Int} {t:Tm} {w:Nat} (hB:∀x∈B,Q x.2) (ht:Q t):∀x∈(QnL v t B w).B,Q x.2:=by
 unfold QnL;split
 ·exact hB
 ·intro x hx;rcases List.mem_cons.1 hx with rfl|hx
  ·exact ht
  ·exact hB x hx
theorem Qv0 {Q:Tm→Prop} {g:Tm→Tm→Bnd→Nat→Us} (hg:∀a b B w,(∀x∈B,Q x.2)→Q a→Q b→∀x∈(g a b B w).B,Q x.2):∀(T U:Ts) (B:Bnd) (w:Nat),(∀x,T.Mem x→Q x)→(∀x,U.Mem x→Q x)→(∀x∈B,Q x.2)→∀x∈(QiV g T U B w).B,Q x.2
 | .nil,U,B,w,_,_,hB=>hB
 | .cons k n s a r,.nil,B,w,_,_,hB=>hB
 | .cons k n s a r,.cons k' n' s' a' r',B,w,hT,hU,hB=>by
  have h1:=hg ⟨k,n,s,a⟩ ⟨k',n',s',a'⟩ B w hB (hT _ (.inl rfl)) (hU _ (.inl rfl));simp only [QiV];split
  ·exact Qv0 hg r r' _ _ (fun x hx=>hT x (.inr hx)) (fun x hx=>hU x (.inr hx)) h1
  ·exact h1
theorem Qqv {Q:Tm→Prop} (hQ:Qwt Q):∀(f:Nat) (a b:Tm) (B:Bnd) (w:Nat),(∀x∈B,Q x.2)→Q a→Q b→∀x∈(Qa8 f a b B w).B,Q x.2
 |0,a,b,B,w,hB,ha,hb=>hB
 | f + 1, a, b, B, w, hB, ha, hb => by
  have ea:=QgU hB ha;have eb:=QgU hB hb;simp only [Qa8];split
  ·exact hB
  split
  ·split
   ·by_cases e:(Qg B a).n=(Qg B b).n
    ·rw [if_pos e];exact hB
    ·rw [if_neg e];intro x hx;rcases List.mem_cons.1 hx with rfl|hx
     ·exact eb
     ·exact hB x hx
   ·exact QvT hB eb
  split
  ·exact QvT hB ea
  split
  ·exact Qv0 (fun a b B w=>Qqv hQ f a b B w) _ _ _ _ (hQ _ ea) (hQ _ eb) hB
  ·exact hB
theorem QvX {g:Tm→Tm→Bnd→Nat→Us}:∀(T U:Ts) (B:Bnd) (w:Nat),(∀a b:Tm,a.ar.nodes<T.nodes→b.ar.nodes<U.nodes→∀B w,Bok B→SmB B→w≤400→UP B w (g a b B w)∧(g a b B w).w≤10025)→Bok B→SmB B→w≤400→(QiV g T U B w).w≤10025
 | .nil,U,B,w,h,hB,hS,hw=>by simp [QiV];omega
 | .cons k n s a r,.nil,B,w,h,hB,hS,hw=>by simp [QiV];omega
 | .cons k n s a r,.cons k' n' s' a' r',B,w,h,hB,hS,hw=>by
  obtain ⟨h1,h2⟩:=h ⟨k,n,s,a⟩ ⟨k',n',s',a'⟩ Yi Yi B w hB hS hw;simp only [QiV];split
  ·rename_i hok;exact QvX r r' _ _ (fun a b ha hb=>h a b Yi Yi) h1.bok h1.sm (h1.ok hok)
  ·exact h2
theorem QuR:∀(f:Nat) (a b:Tm) (B:Bnd) (w:Nat),a.ar.nodes≤24→b.ar.nodes≤24→Bok B→SmB B→w≤400→(Qa8 f a b B w).w≤10025
 |0,a,b,B,w,ha,hb,hB,hS,hw=>by simp only [Qa8];omega
 |f+1,a,b,B,w,ha,hb,hB,hS,hw=>by
  have ea:=Qa4 hS ha;have eb:=Qa4 hS hb
  have hasg:∀(v:Int) (t:Tm),t.ar.nodes≤24→(QnL v t B (w+1)).w≤max (w+2) 10025:=fun v t ht=>by
   have h1:=Qrb hS v 401 t ht (w+1);unfold QnL;split
   ·simp only;omega
   ·simp only;omega
  simp only [Qa8];split
  ·simp only;omega
  split
  ·split
   ·simp only;omega
   ·have:=hasg (Qg B a).n (Qg B b) eb;omega
  split
  ·have:=hasg (Qg B b).n (Qg B a) ea;omega
  split
  ·exact QvX _ _ _ _ (fun x y hx hy B w hB hS hw=>⟨QeW f x y B w Ya Ya hB hS hw,QuR f x y B w Ya Ya hB hS hw⟩) hB hS Ya
  ·simp only;omega
def tgd (t:Tm):Prop:=(Ts.cons t.k t.n t.s t.ar .nil).good 549755813888=true∧t.ar.nodes+1≤24
theorem Ts.mem_nodes {x:Tm}:∀{T:Ts},T.Mem x→x.ar.nodes+1≤T.nodes
 | .cons k n s a r,h=>by
  simp only [Ts.nodes];rcases h with rfl|h
  ·simp only;omega
  ·have:=Ts.mem_nodes h;omega
theorem Ts.mem_good {v:Int} {x:Tm}:∀{T:Ts},T.Mem x→T.good v=true→(Ts.cons x.k x.n x.s x.ar .nil).good v=true
 | .cons k n s a r,h,hg=>by
  simp only [Ts.good,Bool.and_eq_true] at hg⊢;rcases h with rfl|h
  ·exact ⟨hg.1,trivial⟩
  ·have:=Ts.mem_good h hg.2;simp only [Ts.good,Bool.and_eq_true] at this;exact this
theorem QbN:Qwt tgd:=fun t h x hx=>by
 obtain ⟨h1,h2⟩:=h;have h3:=Ts.mem_nodes hx;refine ⟨?_,by omega⟩;simp only [Ts.good,Bool.and_eq_true] at h1;exact Ts.mem_good hx h1.1.2
theorem tgd.small {t:Tm} (h:tgd t):t.ar.nodes≤24:=by have:=h.2;omega
def Qb6:List Gl→Nat→Prop
 |[],_=>True
 |g::r,n=>g.2≤n∧Qb6 r g.2
theorem Qb6.mono:∀{l:List Gl} {n m:Nat},Qb6 l n→n≤m→Qb6 l m
 |[],_,_,_,_=>trivial
 |g::r,n,m,h,hm=>⟨Nat.le_trans h.1 hm,h.2⟩
def Qfc:List Ch→Nat→Prop
 |[],_=>True
 |c::cs,n=>c.bound≤n∧Qb6 (c.g::c.next) cs.length∧(∀g∈c.g::c.next,tgd g.1)∧c.cls≠[]∧(∀cl∈c.cls,cB cl=true)∧Qfc cs c.bound
theorem Qfc.mono:∀{l:List Ch} {n m:Nat},Qfc l n→n≤m→Qfc l m
 |[],_,_,_,_=>trivial
 |c::cs,n,m,h,hm=>⟨Nat.le_trans h.1 hm,h.2⟩
theorem Qfc.drop:∀{l:List Ch} {n:Nat},Qfc l n→∀k,Qfc (l.drop k) n
 |[],_,_,_=>by simp [Qfc]
 |c::cs,n,h,0=>h
 |c::cs,n,h,k+1=>by
  have:=Qfc.drop h.2.2.2.2.2 k;exact this.mono h.1
theorem Qhp:∀(l:List Ch) (k:Nat),Qdz (l.drop k)≤Qdz l
 |[],k=>by simp
 |c::cs,0=>Nat.le_refl _
 |c::cs,k+1=>by have:=Qhp cs k;simp only [List.drop_succ_cons,Qdz];omega
theorem Qfc.len:∀{l:List Ch} {n:Nat},Qfc l n→l.length≤Qdz l
 |[],_,_=>Nat.le_refl _
 |c::cs,n,h=>by
  have h1:=Qfc.len h.2.2.2.2.2;have h2:0<c.cls.length:=List.length_pos_iff.2 h.2.2.2.1;simp only [List.length_cons,Qdz];omega
def mu (s:SS):Nat:=25*s.fuel+Qdz s.ch
structure QdA (s:SS):Prop where
 bok:Bok s.B
 gb:∀x∈s.B,tgd x.2
 ch:Qfc s.ch s.B.length
 fr:s.fresh+8*mu s≤40000
 bl:s.B.length+10100*mu s≤1000000000
structure Inv (s:SS):Prop where
 c:QdA s
 gg:∀g∈s.goals,tgd g.1
 og:Qb6 s.goals s.ch.length
theorem QdA.sm {s:SS} (h:QdA s):SmB s.B:=fun x hx=>(h.gb x hx).small
theorem Qor {n:Int} (h0:0≤n) (h1:n<1099511627776):low n=n:=by unfold low;omega
theorem QpC {v k n m:Int} {s:ByteArray} {l:Nat} (h:Qa1 v k n s l=true) (hv:v≤8) (h0:0≤m) (h1:m≤40000):Qa1 549755813888 k (QcI k n m) s l=true:=by
 unfold Qa1 at h⊢;unfold QcI;by_cases e:k=0
 ·rw [if_pos e] at h⊢;rw [if_pos e];simp only [Bool.and_eq_true,decide_eq_true_eq] at h⊢;rw [Qor (n:=n) Ya Ya,Qor (n:=m) Ya Ya];exact ⟨⟨⟨by omega,by omega⟩,h.1.2⟩,h.2⟩
 ·rw [if_neg e] at h⊢;rw [if_neg e];exact h
theorem Ts.shift_nil (m:Int):Ts.nil.shift m= .nil:=rfl
theorem Ts.shift_len (m:Int) (T:Ts):(T.shift m).length=T.length:=by
 induction T with
 |nil=>rfl
 |cons k n s a r _ ih=>rw [Ts.shift_cons];simp only [Ts.length,ih]
theorem Ts.shift_nodes (m:Int) (T:Ts):(T.shift m).nodes=T.nodes:=by
 induction T with
 |nil=>rfl
 |cons k n s a r iha ihr=>rw [Ts.shift_cons];simp only [Ts.nodes,iha,ihr]
theorem Ts.shift_good {v m:Int} (hv:v≤8) (h0:0≤m) (h1:m≤40000) (T:Ts):T.good v=true→(T.shift m).good 549755813888=true:=by
 induction T with
 |nil=>intro _;rfl
 |cons k n s a r iha ihr=>
  intro h;rw [Ts.shift_cons];simp only [Ts.good,Bool.and_eq_true] at h⊢;exact ⟨⟨by rw [Ts.shift_len];exact QpC h.1.1 hv h0 h1,iha h.1.2⟩,ihr h.2⟩
theorem Qlv {v k n m:Int} {s:ByteArray} {T:Ts} (h:gB v k n s T=true) (hv:v≤8) (h0:0≤m) (h1:m≤40000):tgd (Tm.shift ⟨k,n,s,T⟩ m):=by
 simp only [gB,Bool.and_eq_true,decide_eq_true_eq] at h;refine ⟨?_,by show (T.shift m).nodes+1≤24;rw [Ts.shift_nodes];exact h.2⟩;have:=Ts.shift_good hv h0 h1 (.cons k n s T .nil) h.1.2
 rwa [Ts.shift_cons,Ts.shift_nil] at this
theorem QnE {v m:Int} {o:Nat} {rest:List Gl} (hv:v≤8) (h0:0≤m) (h1:m≤40000) (hr:∀g∈rest,tgd g.1):∀T:Ts,T.goals v=true→∀g∈QiL T m o rest,tgd g.1
 | .nil,_=>hr
 | .cons k n s a r,h=>by
  simp only [Ts.goals,Bool.and_eq_true] at h;intro g hg;rcases List.mem_cons.1 hg with rfl|hg
  ·exact Qlv h.1 hv h0 h1
  ·exact QnE hv h0 h1 hr r h.2 g hg
theorem QgB {m:Int} {o:Nat} {rest:List Gl} (hr:Qb6 rest o):∀T:Ts,Qb6 (QiL T m o rest) o
 | .nil=>hr
 | .cons k n s a r=>⟨Nat.le_refl _,QgB hr r⟩
theorem Qhq {c:Cl} (h:cB c=true):0≤c.vars∧c.vars≤8∧c.bd.length≤5∧c.bd.goals c.vars=true∧gB c.vars c.k c.n c.s c.hd=true:=by
 simp only [cB,qB,Bool.and_eq_true,decide_eq_true_eq] at h;exact ⟨h.1.1.1.1.1,h.1.1.1.1.2,h.1.1.1.2,h.1.1.2,h.1.2⟩
theorem goals_nodes {v:Int}:∀T:Ts,T.goals v=true→T.nodes≤24*T.length
 | .nil,_=>Nat.le_refl _
 | .cons k n s a r,h=>by
  simp only [Ts.goals,Bool.and_eq_true] at h;have h1:=goals_nodes r h.2;have h2:=h.1;simp only [gB,Bool.and_eq_true,decide_eq_true_eq] at h2;simp only [Ts.nodes,Ts.length];omega
theorem Qn3 (B:Bnd) {n:Nat} (h:n≤B.length):(Qas B n).length=n:=by unfold Qas;simp;omega
theorem Qsc {cl:Cl} (h:cB cl=true) {m:Nat} (hm:m≤40000):tgd (cl.head.shift m):=by
 obtain ⟨h0,h1,_,_,h2⟩:=Qhq h;exact Qlv h2 h1 Ya Ya
theorem Qn5 {Q:Tm→Prop} {B:Bnd} (h:∀x∈B,Q x.2) (n:Nat):∀x∈Qas B n,Q x.2:=fun x hx=>h x (List.mem_of_mem_drop hx)
theorem Qu6 (c:Ch) (more:List Cl) (cs:List Ch):cs.length≤(Qhf c more cs).length:=by
 cases more with
 |nil=>exact Nat.le_refl _
 |cons x r=>simp [Qhf]
theorem Qdm (c:Ch) (more:List Cl) (cs:List Ch):Qdz (Qhf c more cs)=more.length+Qdz cs:=by
 cases more with
 |nil=>simp [Qhf]
 |cons x r=>simp [Qhf,Qdz]
theorem Qie {s:SS} {c:Ch} {cs:List Ch} {cl:Cl} {more:List Cl} (hI:QdA s) (h1:s.ch=c::cs) (h2:c.cls=cl::more) (g':List Gl):
  QdA ⟨(Qa8 401 (cl.head.shift s.fresh) c.g.1 (Qas s.B c.bound) 0).B,s.fresh+cl.vars.toNat,s.fuel,g',Qhf c more cs,s.ev⟩:=by
 have hch:=hI.ch;rw [h1] at hch;obtain ⟨a1,a2,a3,a4,a5,a6⟩:=hch;have hfr:=hI.fr;have hbl:=hI.bl
 have hmu:mu s=25*s.fuel+(more.length+1+Qdz cs):=by unfold mu;rw [h1];simp only [Qdz,h2,List.length_cons]
 have hcl:cB cl=true:=a5 cl (by rw [h2];exact .head _);obtain ⟨v0,v1,_,_,_⟩:=Qhq hcl
 have hmu':mu ⟨(Qa8 401 (cl.head.shift s.fresh) c.g.1 (Qas s.B c.bound) 0).B,s.fresh+cl.vars.toNat,s.fuel,g',Qhf c more cs,s.ev⟩=25*s.fuel+(more.length+Qdz cs):=by unfold mu;simp only [Qdm]
 have t1:=Qsc hcl (m:=s.fresh) Ya;have t2:=a3 c.g (.head _);have hu:=Qn3 s.B a1;have bu:Bok (Qas s.B c.bound):=hI.bok.drop _;have su:SmB (Qas s.B c.bound):=Qn5 (Q:=fun t=>t.ar.nodes≤24) hI.sm _;have hup:=QeW 401 (cl.head.shift s.fresh) c.g.1 (Qas s.B c.bound) 0 t1.small t2.small bu su Ya;have hw:=QuR 401 (cl.head.shift s.fresh) c.g.1 (Qas s.B c.bound) 0 t1.small t2.small bu su Ya;have hgb:=Qqv QbN 401 (cl.head.shift s.fresh) c.g.1 (Qas s.B c.bound) 0 (Qn5 hI.gb _) t1 t2;obtain ⟨N,hN⟩:=hup.ext;have hlen:=hup.len
 have hle:c.bound≤(Qa8 401 (cl.head.shift s.fresh) c.g.1 (Qas s.B c.bound) 0).B.length:=by rw [hN];simp;omega
 refine ⟨hup.bok,hgb,?_,by rw [hmu'];simp only;omega,by rw [hmu'];simp only;omega⟩;show Qfc (Qhf c more cs) _
 cases more with
 |nil=>exact a6.mono hle
 |cons x r=>exact ⟨hle,a2,a3,by simp,fun y hy=>a5 y (by rw [h2];exact .tail _ hy),a6⟩
theorem Qku:∀(n:Nat) (s:SS),QdA s→((QaK n s).1=0→Inv (QaK n s).2∧mu (QaK n s).2<mu s)∧(QaK n s).2.ev=s.ev∧((QaK n s).1=0∨(QaK n s).1=2∨(QaK n s).1=4)∧(QaK n s).2.fuel=s.fuel
 |0,s,hI=>⟨fun h=>(by cases h),rfl,.inr (.inl rfl),rfl⟩
 | n + 1, s, hI => by
  unfold QaK
  cases h1:s.ch with
  |nil=>exact ⟨fun h=>(by cases h),rfl,.inr (.inl rfl),rfl⟩
  |cons c cs=>
   simp only
   cases h2:c.cls with
   |nil=>exact ⟨fun h=>(by cases h),rfl,.inr (.inl rfl),rfl⟩
   |cons cl more=>
    simp only
    have hmu:mu s=25*s.fuel+(more.length+1+Qdz cs):=by unfold mu;rw [h1];simp only [Qdz,h2,List.length_cons]
    split
    ·exact ⟨fun h=>(by cases h),rfl,.inr (.inr rfl),rfl⟩
    split
    ·refine ⟨fun _=>⟨⟨Qie hI h1 h2 _,?_,?_⟩,?_⟩,rfl,.inl rfl,rfl⟩
     ·have hch:=hI.ch;rw [h1] at hch;obtain ⟨a1,a2,a3,a4,a5,a6⟩:=hch;obtain ⟨v0,v1,_,v3,_⟩:=Qhq (a5 cl (by rw [h2];exact .head _));have:=hI.fr;exact QnE v1 Ya Ya (fun g hg=>a3 g (.tail _ hg)) _ v3
     ·have hch:=hI.ch;rw [h1] at hch;obtain ⟨a1,a2,a3,a4,a5,a6⟩:=hch;exact (QgB (a2.2.mono a2.1) _).mono (Qu6 c more cs)
     ·rw [hmu];unfold mu;simp only [Qdm];omega
    ·obtain ⟨i1,i2,i3,i4⟩:=Qku n _ (Qie hI h1 h2 s.goals);refine ⟨fun h=>⟨(i1 h).1,Nat.lt_trans (i1 h).2 ?_⟩,i2,i3,i4⟩;rw [hmu];unfold mu;simp only [Qdm];omega
theorem Qe2 {n:Nat} {s:SS} {c:Ch} {cs:List Ch} {cl:Cl} {more:List Cl} (h1:s.ch=c::cs) (h2:c.cls=cl::more):QaK (n+1) s=
  if 400<(Qa8 401 (cl.head.shift s.fresh) c.g.1 (Qas s.B c.bound) 0).w then (4,⟨(Qa8 401 (cl.head.shift s.fresh) c.g.1 (Qas s.B c.bound) 0).B,s.fresh+cl.vars.toNat,s.fuel,s.goals,Qhf c more cs,s.ev⟩)
  else if (Qa8 401 (cl.head.shift s.fresh) c.g.1 (Qas s.B c.bound) 0).ok=true then (0,⟨(Qa8 401 (cl.head.shift s.fresh) c.g.1 (Qas s.B c.bound) 0).B,s.fresh+cl.vars.toNat,s.fuel,QiL cl.bd s.fresh cs.length c.next,Qhf c more cs,s.ev⟩)
  else QaK n ⟨(Qa8 401 (cl.head.shift s.fresh) c.g.1 (Qas s.B c.bound) 0).B,s.fresh+cl.vars.toNat,s.fuel,s.goals,Qhf c more cs,s.ev⟩:=by
 conv=>lhs;unfold QaK
 rw [h1];simp only;rw [h2]
structure LCh where
 g:GN
 next:List GN
 cA:Option Addr
 cc:Nat
 cls:List LC
 bound:Nat
def LCh.ch (c:LCh):Ch:=⟨(c.g.t.tm,c.g.o),Qdq c.next,c.cls.map LC.cl,c.bound⟩
abbrev Qwn (c:LCh):List Value:=[.pointer (some ⟨c.g.blk,0,none⟩),.slice c.cA c.cls.length c.cc,.int .i64 (c.bound:Nat)]
def chL:List LCh→List Value
 |[]=>[]
 |c::r=>Qwn c++chL r
theorem QiK (a b:List LCh):chL (a++b)=chL a++chL b:=by
 induction a with
 |nil=>rfl
 |cons c r ih=>simp [chL,ih]
theorem QkZ (a:List LCh):(chL a).length=a.length*3:=by
 induction a with
 |nil=>rfl
 |cons c r ih=>simp [chL,ih];omega
def Qv9 (c:LCh) (w:World):Prop:=PR (c.g::c.next) w∧QgE c.cls c.cA c.cc w
structure LE where
 A:Option Addr
 c:Nat
 T:TA
abbrev QwH (k:Int) (e:LE):List Value:=[.int .i64 k,.slice e.A e.T.len e.c]
def evL:List LE→List Value
 |[]=>[]
 |e::r=>QwH 1 e++evL r
theorem Qr0 (a b:List LE):evL (a++b)=evL a++evL b:=by
 induction a with
 |nil=>rfl
 |cons c r ih=>simp [evL,ih]
structure SD where
 G:List GB
 mb:Nat
 es:Array MapEntry
 clk:Nat
 TR:Value
 O:List (Nat×Obj)
 gs:List GN
 cs:List LCh
 CH:Value
 O2:List (Nat×Obj)
 evs:List LE
 EV:Value
 O3:List (Nat×Obj)
structure SOk (P:List LC) (pA:Option Addr) (pc:Nat) (s:SS) (d:SD) (F:List (World→Prop)):Prop where
 bm:BM d.G 3 d.es d.TR d.O F
 hB:bnd d.G=s.B
 hg:Qdq d.gs=s.goals
 rg:Und F (PR d.gs)
 hc:d.cs.map LCh.ch=s.ch
 rc:∀c∈d.cs,Und F (Qv9 c)
 row2:Row 134 3 d.CH d.cs.length (chL d.cs.reverse) d.O2
 he:d.evs.map (fun e=>e.T.ts)=s.ev
 re:∀e∈d.evs,Und F (ArA e.A e.c e.T)
 row3:Row 34 2 d.EV d.evs.length (evL d.evs) d.O3
 rp:Und F (QgE P pA pc)
theorem SOk.mono {P:List LC} {pA:Option Addr} {pc:Nat} {s:SS} {d:SD} {F F':List (World→Prop)} (h:SOk P pA pc s d F) (hs:∀φ∈F,φ∈F'):SOk P pA pc s d F':=
 ⟨h.bm.mono hs,h.hB,h.hg,h.rg.mono hs,h.hc,fun c hc=>(h.rc c hc).mono hs,h.row2,h.he,fun e he=>(h.re e he).mono hs,h.row3,h.rp.mono hs⟩
abbrev QdB (P:List LC) (pA:Option Addr) (pc:Nat) (vars:Nat) (fresh fuel:Nat) (gp CH EV:Value):List Value:=[.slice pA P.length pc,.int .i64 (vars:Nat),.int .i64 (fresh:Nat),.int .i64 (fuel:Nat),gp,CH,EV]
def SSt (M:List Nat) (w0:World) (H:List (Nat×Obj)) (F0:List (World→Prop)) (b:Nat) (P:List LC) (pA:Option Addr) (pc vars:Nat) (s:SS) (w:World):Prop:=
 ∃(d:SD) (F:List (World→Prop)),(∀φ∈F0,φ∈F)∧SOk P pA pc s d F∧St M w0 ((b,sob d.mb d.TR (QdB P pA pc vars s.fresh s.fuel (Qcu d.gs) d.CH d.EV))::(d.mb,.map d.es d.clk)::(d.O++(d.O2++(d.O3++H)))) F w
theorem QpA {α:Type} (a b:α) (O O2 O3 H:List α):(a::b::(O++(O2++(O3++H)))).Perm (a::b::(O2++(O++(O3++H)))):= .cons _ (.cons _ (List.perm_append_comm_assoc O O2 _))
theorem QB {M:List Nat} {w0 w:World} {H:List (Nat×Obj)} {F:List (World→Prop)} {g o:Nat} {ct:TypeId} {X sp:List Value} {p q r:Value} (hS:St M w0 H F w) (hm:(g,Obj.cells (X++p::q::r::sp).toArray ct)∈H) (ho:X.length=o):w.cell? ⟨g,o,none⟩=some p∧w.cell? ⟨g,o+1,none⟩=some q∧w.cell? ⟨g,o+2,none⟩=some r:=by
 have hb:=hS.own _ hm;subst ho;refine ⟨?_,?_,?_⟩
 ·rw [Qp hb,List.getElem?_append_right (Nat.le_refl _),Nat.sub_self];rfl
 ·rw [Qp hb,List.getElem?_append_right Ya,show X.length+1-X.length=1 by omega];rfl
 ·rw [Qp hb,List.getElem?_append_right Ya,show X.length+2-X.length=2 by omega];rfl
theorem Qol {p q u:Value} {sp:List Value}:∀(X:List Value) (o:Nat),X.length=o→Put (X++p::q::sp) (o+1) u (X++p::u::sp)
 |[],o,h=>by
  obtain rfl:o=0:=by simpa using h.symm
  exact .s .z
 |x::X,o,h=>by
  obtain ⟨o,rfl⟩:∃o',o=o'+1:=⟨o-1,by simp at h;omega⟩
  exact .s (Qol X o (by simpa using h))
end Go.Proofs.YthliapbflkfdiacGreatDoor
