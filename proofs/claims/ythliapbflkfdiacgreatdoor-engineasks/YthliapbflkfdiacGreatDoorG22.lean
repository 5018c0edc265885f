/-
  The document's own one, walked: unification by a list of pairs.
-/
import Derived.Test.YthliapbflkfdiacGreatDoorZ0
import Derived.Test.YthliapbflkfdiacGreatDoorG20
import Derived.Test.YthliapbflkfdiacGreatDoorG21
import Derived.Test.YthliapbflkfdiacGreatDoorG11
import Derived.Test.YthliapbflkfdiacGreatDoorG18
namespace Go.Proofs.YthliapbflkfdiacGreatDoor
open Go.RowKit
set_option linter.unusedVariables false
set_option linter.unusedSimpArgs false
set_option maxRecDepth 100000
set_option maxHeartbeats 1000000
def pcs:List (LT×LT)→List Value
 |[]=>[]
 |p::r=>tcs p.1++(tcs p.2++pcs r)
theorem QpF:∀L,(pcs L).length=L.length*8
 |[]=>rfl
 |p::r=>by simp only [pcs,List.length_append,QpF r,List.length_cons];show 4+(4+_)=_;omega
theorem QjR:∀L K,pcs (L++K)=pcs L++pcs K
 |[],K=>rfl
 |p::r,K=>by simp only [pcs,List.cons_append,QjR r K,List.append_assoc]
theorem Quj:∀L,(pcs L).all (·.oneCell')=true
 |[]=>rfl
 |p::r=>by simp only [pcs,List.all_append,Quj r,Bool.and_true];rfl
theorem Rw.cutS {el sz len cap k:Nat} {A:Option Addr} {xs ys:List Value} {O:List (Nat×Obj)} (h:Rw el sz (.slice A (len+k) cap) (len+k) (xs++ys) O) (hx:xs.length=len*sz) (hk:0<k):Rw el sz (.slice A len cap) len xs O:=by
 generalize hz:xs++ys=zs at h
 generalize hn:len+k=m at h
 cases h with
 |zero_=>omega
 |own_ hx2 hc hle hcp=>
  rename_i b sp
  subst hz
  rw [List.append_assoc] at hc⊢
  exact Rw.own_ hx hc Ya hcp
theorem Qeo {α:Type}:∀L:List α,L=[]∨∃K p,L=K++[p]
 |[]=> .inl rfl
 |x::r=>by
  rcases Qeo r with rfl|⟨K,p,rfl⟩
  ·exact .inr ⟨[],x,rfl⟩
  ·exact .inr ⟨x::K,p,rfl⟩
theorem QzL:∀(X vs Z:List Value) (o k:Nat),X.length=o→vs.length=k→Cut (X++(vs++Z)) o k vs
 |[],vs,Z,o,k,h,hk=>by
  obtain rfl:o=0:=by simpa using h.symm
  subst hk
  induction vs with
  |nil=>exact .z
  |cons v vs ih=>exact .t ih
 |x::X,vs,Z,o,k,h,hk=>by
  obtain ⟨o,rfl⟩:∃o',o=o'+1:=⟨o-1,by simp at h;omega⟩
  exact .s (QzL X vs Z o k (by simpa using h) hk)
def Qo7 (p:LT×LT):Tm×Tm:=(p.1.tm,p.2.tm)
def QzK (F:List (World→Prop)) (L:List (LT×LT)):Prop:=∀p∈L,Und F (LRd p.1)∧Und F (LRd p.2)∧tgd p.1.tm∧tgd p.2.tm
structure EOk (F:List (World→Prop)) (E:List EN):Prop where
 rd:Und F (ERd tyE E)
 ok:Bok (QK E)
 gd:∀x∈QK E,tgd x.2
theorem QqD {t:Tm} (h:tgd t) (hk:t.k=0):0≤t.n∧t.n<549755813888:=by
 have:=h.1
 simp only [Ts.good,Bool.and_eq_true] at this
 have hn:=this.1.1
 unfold QaH at hn
 rw [if_pos hk] at hn
 simp only [Bool.and_eq_true,decide_eq_true_eq] at hn
 exact ⟨hn.1.1.1,hn.1.1.2⟩
theorem Qyg {n:Int} (h0:0≤n) (h1:n<549755813888):tgd ⟨0,n,⟨#[]⟩,.nil⟩:=by
 refine ⟨?_,by simp [Ts.nodes]⟩
 simp only [Ts.good,Bool.and_eq_true,and_true]
 unfold QaH
 rw [if_pos rfl]
 simp only [Bool.and_eq_true,decide_eq_true_eq]
 exact ⟨⟨⟨h0,h1⟩,Qap []⟩,rfl⟩
theorem Qw1 {B:Bnd} (hB:Bok B) {a b:Tm} (ka:(Qc B a).k=0) (kb:(Qc B b).k=0) (hn:(Qc B a).n≠(Qc B b).n):Bok ((max (Qc B a).n (Qc B b).n,⟨0,min (Qc B a).n (Qc B b).n,⟨#[]⟩,.nil⟩)::B):=by
 have fa:=QbJ hB a ka
 have fb:=QbJ hB b kb
 refine ⟨?_,fun _=>⟨?_,?_⟩,hB⟩
 ·show QcY (max _ _) B=none
  rcases Int.le_total (Qc B a).n (Qc B b).n with h|h
  ·rw [Int.max_eq_right h];exact fb
  ·rw [Int.max_eq_left h];exact fa
 ·show min (Qc B a).n (Qc B b).n≠max (Qc B a).n (Qc B b).n;omega
 ·show QcY (min _ _) B=none
  rcases Int.le_total (Qc B a).n (Qc B b).n with h|h
  ·rw [Int.min_eq_left h];exact fa
  ·rw [Int.min_eq_right h];exact fb
theorem EOk.cons {F:List (World→Prop)} {E:List EN} {v:Int} {t:LT} {bk:Nat} (hE:EOk F E) (ht:Und F (LRd t)) (hg:tgd t.tm) (hB:Bok ((v,t.tm)::QK E)):EOk ((fun w=>w.heap[bk]?=some (.cells (ecs v t (Qgk E)).toArray tyE))::F) (⟨v,t,bk⟩::E):=
 ⟨fun w hw=>⟨hw _ (.head _),ht w fun φ h=>hw φ (.tail _ h),hE.rd w fun φ h=>hw φ (.tail _ h)⟩,hB,fun x hx=>by
  rcases List.mem_cons.1 hx with rfl|hx
  ·exact hg
  ·exact hE.gd x hx⟩
theorem QzK.tail {F:List (World→Prop)} {L:List (LT×LT)} {φ:World→Prop} (h:QzK F L):QzK (φ::F) L:=fun p hp=>⟨(h p hp).1.tail,(h p hp).2.1.tail,(h p hp).2.2⟩
def TA.lts:TA→List LT
 | .nil=>[]
 | .cons k n s A c ar r=>⟨k,n,s,A,c,ar⟩::r.lts
theorem TA.lts_tm (T:TA):T.lts.map LT.tm=T.ts.tms:=by
 induction T with
 |nil=>rfl
 |cons k n s A c ar r _ ih=>simp only [TA.lts,List.map_cons,ih];rfl
theorem TA.lts_len (T:TA):T.lts.length=T.len:=by
 induction T with
 |nil=>rfl
 |cons k n s A c ar r _ ih=>simp only [TA.lts,List.length_cons,ih,TA.len]
theorem TA.lts_app (D R:TA):(D.app R).lts=D.lts++R.lts:=by
 induction D with
 |nil=>rfl
 |cons k n s A c ar r _ ih=>simp only [TA.app,TA.lts,ih,List.cons_append]
theorem TA.at_split:∀(T:TA) (j:Nat),j<T.len→∃(D R:TA) (x:LT),T=D.app (.cons x.k x.n x.s x.A x.c x.ar R)∧D.len=j
 | .nil,j,h=>by simp [TA.len] at h
 | .cons k n s A c ar r,0,_=>⟨.nil,r,⟨k,n,s,A,c,ar⟩,rfl,rfl⟩
 | .cons k n s A c ar r,j+1,h=>by
  obtain ⟨D,R,x,e,hl⟩:=TA.at_split r j (by simpa [TA.len] using h)
  exact ⟨.cons k n s A c ar D,R,x,by rw [e];rfl,by simp only [TA.len,hl]⟩
def Qfa:List LT→List Value
 |[]=>[]
 |t::r=>tcs t++Qfa r
theorem QgO:∀L,(Qfa L).length=L.length*4
 |[]=>rfl
 |t::r=>by simp only [Qfa,List.length_append,QgO r,List.length_cons];show 4+_=_;omega
theorem Qb7:∀L K,Qfa (L++K)=Qfa L++Qfa K
 |[],K=>rfl
 |t::r,K=>by simp only [Qfa,List.cons_append,Qb7 r K,List.append_assoc]
def QzR (F:List (World→Prop)) (L:List LT):Prop:=∀t∈L,Und F (LRd t)∧tgd t.tm
theorem Qf1 {T:TA} (h:∀x,T.ts.Mem x→tgd x):∀x∈T.lts,tgd x.tm:=by
 induction T with
 |nil=>intro x hx;cases hx
 |cons k n s A c ar r _ ih=>
  intro x hx
  rcases List.mem_cons.1 hx with rfl|hx
  ·exact h _ (.inl rfl)
  ·exact ih (fun y hy=>h y (.inr hy)) x hx
theorem ArA.lts {A:Option Addr} {c:Nat} {T:TA} {w:World} (h:ArA A c T w):∀x∈T.lts,LRd x w:=by
 have:=h.all
 clear h
 induction T with
 |nil=>intro x hx;cases hx
 |cons k n s A c ar r _ ih=>
  intro x hx
  rcases List.mem_cons.1 hx with rfl|hx
  ·exact this.1
  ·exact ih this.2 x hx
theorem Qmt {P:Program} {n:Nat} {e:Env} {w:World} {Q:Exit→Act→World→Prop} {ops:Array Oper} {rest:List Oper} {ty:TypeId} {pos:String} {after:Array Edge} {d:Nat} {M:List Nat} {w0:World} {F:List (World→Prop)} {H H':List (Nat×Obj)} {x y:Operand} {v:Value} {t tx:TypeId} {el len c:Nat} {A:Option Addr} {u:LT} {xs:List Value} {O:List (Nat×Obj)} (hS:St M w0 H F w) (hx:ev n e x=v) (hy:ev n e y= .slice A 1 c)
  (hT:QE P t=some el) (hTx:QE P tx=some el) (hi:Qte P el=some (4,56)) (hL:QG 4 (tcs u) A 1 c w) (hrow:Rw el 4 v len xs O)
  (hP:H.Perm (O++H')) (hbig:len+1≤1099511627776) (hd:Nat.blt d n=true)
  (h:∀v' O' w',Rw el 4 v' (len+1) (xs++tcs u) O'→St M w0 (O'++H') F w'→Lst P Q ops rest n ((d,v')::e) w'):
  Lst P Q ops (⟨some d,.call ⟨.builtin .append, #[x,y], #[t,tx]⟩,ty,pos,after,none⟩::rest) n e w:=by
 obtain ⟨i,z,h2,h3,h4,h5,h6⟩:=Qa2 hi
 refine Qbr (k:=1) (ys:=tcs u) hS hx hy hT hTx h2 h3 h4 (by rw [h5];rfl) (by rw [h5];exact hL.src hTx rfl) (by rw [h5];exact hrow) hP (by rw [h6];omega) Ya hd ?_
 rw [h5];exact h
theorem QoL {α β:Type}:∀(l:List α) (m:List β) (n:Nat),(l.zip m).drop n=(l.drop n).zip (m.drop n)
 |l,m,0=>rfl
 |[],m,n+1=>by simp
 |_::_,[],n+1=>by simp
 |x::l,y::m,n+1=>by simp only [List.zip_cons_cons,List.drop_succ_cons];exact QoL l m n
theorem Qth:∀(l m:List LT),(l.zip m).map Qo7=(l.map LT.tm).zip (m.map LT.tm)
 |[],m=>by simp
 |_::_,[]=>by simp
 |x::l,y::m=>by simp only [List.zip_cons_cons,List.map_cons,Qth l m];rfl
theorem QuP {P:Program} {n:Nat} {e:Env} {w:World} {Q:Exit→Act→World→Prop} {ops:Array Oper} {rest:List Oper} {ty:TypeId} {pos:String} {after:Array Edge} {d:Nat} {M:List Nat} {w0:World} {F:List (World→Prop)} {H H':List (Nat×Obj)} {x y:Operand} {v:Value} {t tx:TypeId} {el len c:Nat} {A:Option Addr} {u:LT×LT} {xs:List Value} {O:List (Nat×Obj)} (hS:St M w0 H F w) (hx:ev n e x=v) (hy:ev n e y= .slice A 1 c)
  (hT:QE P t=some el) (hTx:QE P tx=some el) (hi:Qte P el=some (8,112)) (hL:QG 8 (pcs [u]) A 1 c w) (hrow:Rw el 8 v len xs O)
  (hP:H.Perm (O++H')) (hbig:len+1≤1099511627776) (hd:Nat.blt d n=true)
  (h:∀v' O' w',Rw el 8 v' (len+1) (xs++pcs [u]) O'→St M w0 (O'++H') F w'→Lst P Q ops rest n ((d,v')::e) w'):
  Lst P Q ops (⟨some d,.call ⟨.builtin .append, #[x,y], #[t,tx]⟩,ty,pos,after,none⟩::rest) n e w:=by
 obtain ⟨i,z,h2,h3,h4,h5,h6⟩:=Qa2 hi
 refine Qbr (k:=1) (ys:=pcs [u]) hS hx hy hT hTx h2 h3 h4 (by rw [h5];rfl) (by rw [h5];exact hL.src hTx (Quj _)) (by rw [h5];exact hrow) hP (by rw [h6];omega) Ya hd ?_
 rw [h5];exact h
def Qx3 (M:List Nat) (w0:World) (H:List (Nat×Obj)) (F:List (World→Prop)) (r:Ug Bnd) (e:Ending) (w:World):Prop:=
 ∃(E':List EN) (F':List (World→Prop)) (k:Int),(∀φ∈F,φ∈F')∧St M w0 H F' w∧(400<r.w→k<0∧e= .returned (.tuple #[Qgk E',.bool false,.int .i64 k]))∧(r.w≤400→k=400-(r.w:Nat)∧e= .returned (.tuple #[Qgk E',.bool r.ok,.int .i64 k]))∧(r.w≤400→r.ok=true→QK E'=r.s∧EOk F' E')
section
variable {M:List Nat} {w0:World} {H:List (Nat×Obj)} {F:List (World→Prop)}
theorem Qyz (E : List EN) (a b : LT) (w : World) (hE : EOk F E) (ha : Und F (LRd a)) (hb : Und F (LRd b)) (ga : tgd a.tm) (gb : tgd b.tm) (hS : St M w0 H F w) :
  Calls Tryz.prog 105 #[Qgk E,tv a,tv b] w (Qx3 M w0 H F (QbM Qdl 401 a.tm b.tm (QK E) 0)):=by
 generalize hr:QbM Qdl 401 a.tm b.tm (QK E) 0=r
 have hr0:Qli ([(a,b)].reverse.map Qo7) (QK E) 0=r:=by rw [←hr];exact QwA a.tm b.tm (QK E) 0
 refine QQ Tryz.func105 rfl Tryz.ntmps105 rfl ?_
 refine Zi ?_
 clear hS
 intro b1 wx1 hS
 refine ZaX ?_
 clear hS
 intro b2 wx2 hS
 refine ZaH ?_
 refine Zg ?_
 refine Zk ?_
 refine Zbg ?_
 refine Zbg ?_
 refine Qa (QD (cells:=[_,_,_,_,_,_,_,_]) (.cons Yb (.cons Yb .nil)) rfl) rfl ?_
 refine Zjw ?_
 clear hS
 intro b3 wx3 hS
 refine Zd9 ?_
 have hrl0:Rw 218 8 (.slice (some ⟨b3,0,none⟩) 1 1) 1 (pcs [(a,b)]) [(b3,.cells (pcs [(a,b)]++[]).toArray 218)]:=Rw.own_ rfl rfl (Nat.le_refl _) Ya
 refine QhJ 10 9 0 (22::23::24::25::26::27::28::29::30::11::31::32::33::34::35::36::37::38::39::40::41::6::7::8::42::43::44::45::46::47::48::49::12::13::50::51::52::53::54::55::56::57::58::59::60::61::62::63::64::65::66::67::68::69::70::71::72::73::74::75::76::77::78::79::80::81::82::83::84::85::86::14::87::88::89::90::91::92::93::94::95::15::96::97::98::99::100::101::102::103::104::105::106::107::108::109::110::111::112::113::114::115::116::117::118::119::120::121::122::123::124::125::16::126::127::130::131::132::133::134::135::136::137::128::129::138::139::140::141::142::143::144::145::146::147::148::149::150::151::152::153::154::155::156::157::158::159::160::161::162::163::164::165::166::167::168::169::170::171::172::173::174::175::176::177::17::178::179::182::183::184::185::186::187::188::189::190::191::192::193::194::195::180::181::[]) (fun (x:List (LT×LT)×List EN×Nat) v y z w'=>∃(Al:Option Addr) (cl:Nat) (O:List (Nat×Obj)) (F':List (World→Prop)),v= .slice Al x.1.length cl∧y= .int .i64 (400-(x.2.2:Nat))∧z=Qgk x.2.1∧Qli (x.1.reverse.map Qo7) (QK x.2.1) x.2.2=r∧x.2.2≤400∧x.1.length≤24*x.2.2+1∧(∀φ∈F,φ∈F')∧EOk F' x.2.1∧QzK F' x.1∧Rw 218 8 (.slice Al x.1.length cl) x.1.length (pcs x.1) O∧St M w0 ((b2,.cells (tcs b).toArray 63)::(b1,.cells (tcs a).toArray 63)::(O++H)) F' w') (fun x=>401-x.2.2) (([(a,b)],E,0)) ?_ Yb Yb Yb ?_
 ·exact ⟨_,_,_,F,rfl,rfl,rfl,hr0,by show 0≤400;omega,by simp,fun _ h=>h,hE,fun p hp=>by rw [List.mem_singleton.1 hp];exact ⟨ha,hb,ga,gb⟩,hrl0,hS.perm (List.perm_append_comm_assoc [_] [_,_] _)⟩
 clear hS hrl0 hr0 hE
 rintro x v y z w2 jv ⟨Al,cl,O,F',hv,hy,hz,hrun,hwk,hLl,hF,hE,hAP,hrow,hS⟩ ih
 obtain ⟨L,E,wk⟩:=x
 dsimp only at hv hy hz hrun hwk hLl hE hAP hrow hS
 subst hv hy hz
 rcases Qeo L with rfl|⟨L,p,rfl⟩
 ·have hr2:r=⟨true,QK E,wk⟩:=by rw [←hrun];rfl
  refine ZcR ?_
  refine Zbp ?_
  refine Zcu ?_
  refine ⟨E,F',400-(wk:Nat),hF,hS.drop.drop.dropN,fun h=> ?_,fun _=> ?_,fun _ _=> ?_⟩
  ·rw [hr2] at h;exact absurd h (by show¬400<wk;omega)
  ·rw [hr2];exact ⟨rfl,rfl⟩
  ·rw [hr2];exact ⟨rfl,hE⟩
 have hlp:(L++[p]).length=L.length+1:=by simp
 obtain ⟨h1,h2,t1,t2⟩:=hAP p Yd
 have hAL:QzK F' L:=fun q hq=>hAP q (by simp [hq])
 obtain ⟨g,sp,rfl,rfl,hcap,hle,_⟩:=hrow.some_ Ya
 have hcut:Cut (pcs (L++[p])++sp) (0+((((L++[p]).length:Nat):Int)-1).toNat*8) 8 (tcs p.1++tcs p.2):=by
  have:=QzL (pcs L) (tcs p.1++tcs p.2) sp (0+((((L++[p]).length:Nat):Int)-1).toNat*8) 8 (by rw [QpF];omega) rfl
  rw [QjR]
  simpa [pcs] using this
 have hrowL:Rw 218 8 (.slice (some ⟨g,0,none⟩) L.length cl) L.length (pcs L) [(g,.cells (pcs (L++[p])++sp).toArray 218)]:=by
  rw [hlp,QjR] at hrow
  rw [QjR]
  exact hrow.cutS (QpF L) Ya
 have hrun2:Qli (Qo7 p::L.reverse.map Qo7) (QK E) wk=r:=by rw [←hrun,List.reverse_append];rfl
 by_cases hw4:wk=400
 ·have hr2:r=⟨false,QK E,wk+1⟩:=by rw [←hrun2];exact Qt4 (Qo7 p) _ _ Ya
  refine ZfT ?_
  refine Qa (Q0 (sz:=8) rfl rfl rfl rfl Ya Ya) rfl ?_
  refine Zjx ?_
  refine Qdp (cs:=[_,_,_,_,_,_,_,_]) hS rfl rfl rfl ?_
  clear hS
  intro b4 wx4 hS
  refine Zc ?_
  clear hS
  intro wx5 hS
  refine ZfU ?_
  refine Qa (QZ (sz:=8) rfl rfl rfl rfl Ya Ya) rfl ?_
  refine ZfV ?_
  refine Zs ?_
  refine Zt ?_
  refine Zcu ?_
  refine ⟨E,F',400-(wk:Nat)-1,hF,hS.drop.drop.drop.drop,fun _=>⟨by omega,rfl⟩,fun h=> ?_,fun h=> ?_⟩
  ·rw [hr2] at h;exact absurd h (by show¬wk+1≤400;omega)
  ·rw [hr2] at h;exact absurd h (by show¬wk+1≤400;omega)
 refine ZfT ?_
 refine Qa (Q0 (sz:=8) rfl rfl rfl rfl Ya Ya) rfl ?_
 refine Zjx ?_
 refine Qdp (cs:=[_,_,_,_,_,_,_,_]) hS rfl rfl rfl ?_
 clear hS
 intro b4 wx4 hS
 refine Zc ?_
 clear hS
 intro wx5 hS
 refine ZfU ?_
 refine Qa (QZ (sz:=8) rfl rfl rfl rfl Ya Ya) rfl ?_
 refine ZfV ?_
 refine ZbJ ?_
 refine Zp ?_
 refine Qd9 12 13 (42::43::44::45::46::47::48::49::[]) (fun y z w'=>∃(b5 b6:Nat) (u v:LT),y= .pointer (some ⟨b5,0,none⟩)∧z= .pointer (some ⟨b6,0,none⟩)∧u.tm=Qc (QK E) p.1.tm∧v.tm=Qc (QK E) p.2.tm∧Und F' (LRd u)∧Und F' (LRd v)∧St M w0 ((b5,.cells (tcs u).toArray 63)::(b6,.cells (tcs v).toArray 63)::(b4,.cells (tcs p.1++tcs p.2).toArray 218)::(b2,.cells (tcs b).toArray 63)::(b1,.cells (tcs a).toArray 63)::([(g,.cells (pcs (L++[p])++sp).toArray 218)]++H)) F' w') ?_ ?_
 ·intro hmeet
  refine QaS (St _ _ _ _) 10 (.read 0 (.read 1 (.read 2 (.read 4 (.read 5 (.read 6 (.pick 3 (.pick 7 (.pick 8 (.pick 9 .tail .none) (.pick 9 (.pick 8 .tail .none) .none)) (.pick 8 (.pick 7 (.pick 9 .tail .none) (.pick 9 (.pick 7 .tail .none) .none)) (.pick 9 (.pick 7 (.pick 8 .tail .none) (.pick 8 (.pick 7 .tail .none) .none)) .none))) (.pick 8 (.pick 3 (.pick 7 (.pick 9 .tail .none) (.pick 9 (.pick 7 .tail .none) .none)) (.pick 9 (.pick 3 (.pick 7 .tail .none) .none) .none)) (.pick 9 (.pick 3 (.pick 7 (.pick 8 .tail .none) (.pick 8 (.pick 7 .tail .none) .none)) (.pick 8 (.pick 3 (.pick 7 .tail .none) .none) .none)) .none))))))))) Yc Yc hS.drew ?_
  replace hS:=hS.drew
  refine ZbR ?_
  refine ZcI ?_
  refine Zin ?_
  refine ZbR ?_
  refine Qj rfl (fun _ hS=>Qi (off:=4) rfl rfl) rfl ?_
  refine Zin ?_
  refine QA rfl ?_ ?_
  ·refine Ze ?_
   refine ZgE ?_
   rintro _ w5 ⟨u,rfl,hu1,hu2,hu3,hS'⟩
   refine Za ?_
   replace hS:=hS'
   clear hS'
   refine ZM ?_
   refine QA rfl ?_ ?_
   ·refine Ze ?_
    refine ZeU ?_
    rintro _ w6 ⟨v,rfl,hv1,hv2,hv3,hS'⟩
    refine Za ?_
    replace hS:=hS'
    clear hS'
    refine ZM ?_
    refine QA rfl ?_ ?_
    ·refine ZY ?_
     clear hS
     intro b5 wx6 hS
     refine ZaL ?_
     clear hS
     intro b6 wx7 hS
     refine ZA ?_
     clear hS
     intro wx8 hS
     refine Zc ?_
     clear hS
     intro wx9 hS
     refine Zb ?_
     first|exact hmeet _ _ _ _ ⟨_,_,u,v,rfl,rfl,hu1,hv1,hu2,hv2,hS⟩ Yb Yb Yc|exact hmeet _ _ _ _ ⟨_,_,u,v,rfl,rfl,hu1,hv1,hu2,hv2,hS.perm (List.Perm.swap _ _ _)⟩ Yb Yb Yc
    refine ZV ?_
    clear hS
    intro b7 wx10 hS
    refine ZaL ?_
    clear hS
    intro b8 wx11 hS
    refine ZA ?_
    clear hS
    intro wx12 hS
    refine Zc ?_
    clear hS
    intro wx13 hS
    refine Zb ?_
    first|exact hmeet _ _ _ _ ⟨_,_,u,v,rfl,rfl,hu1,hv1,hu2,hv2,hS⟩ Yb Yb Yc|exact hmeet _ _ _ _ ⟨_,_,u,v,rfl,rfl,hu1,hv1,hu2,hv2,hS.perm (List.Perm.swap _ _ _)⟩ Yb Yb Yc
   refine QA rfl ?_ ?_
   ·refine ZY ?_
    clear hS
    intro b9 wx14 hS
    refine ZM ?_
    refine QA rfl ?_ ?_
    ·refine Ze ?_
     refine ZeU ?_
     rintro _ w6 ⟨v,rfl,hv1,hv2,hv3,hS'⟩
     refine Za ?_
     replace hS:=hS'
     clear hS'
     refine ZaL ?_
     clear hS
     intro b10 wx15 hS
     refine ZA ?_
     clear hS
     intro wx16 hS
     refine Zc ?_
     clear hS
     intro wx17 hS
     refine Zb ?_
     first|exact hmeet _ _ _ _ ⟨_,_,u,v,rfl,rfl,hu1,hv1,hu2,hv2,hS⟩ Yb Yb Yc|exact hmeet _ _ _ _ ⟨_,_,u,v,rfl,rfl,hu1,hv1,hu2,hv2,hS.perm (List.Perm.swap _ _ _)⟩ Yb Yb Yc
    refine ZV ?_
    clear hS
    intro b11 wx18 hS
    refine ZfW ?_
    rintro _ w6 ⟨v,rfl,hv1,hv2,hv3,hS'⟩
    refine Za ?_
    replace hS:=hS'
    clear hS'
    refine ZA ?_
    clear hS
    intro wx19 hS
    refine Zc ?_
    clear hS
    intro wx20 hS
    refine Zb ?_
    first|exact hmeet _ _ _ _ ⟨_,_,u,v,rfl,rfl,hu1,hv1,hu2,hv2,hS⟩ Yb Yb Yc|exact hmeet _ _ _ _ ⟨_,_,u,v,rfl,rfl,hu1,hv1,hu2,hv2,hS.perm (List.Perm.swap _ _ _)⟩ Yb Yb Yc
   refine ZV ?_
   clear hS
   intro b12 wx21 hS
   refine ZM ?_
   refine QA rfl ?_ ?_
   ·refine Ze ?_
    refine ZeU ?_
    rintro _ w6 ⟨v,rfl,hv1,hv2,hv3,hS'⟩
    refine Za ?_
    replace hS:=hS'
    clear hS'
    refine ZaL ?_
    clear hS
    intro b13 wx22 hS
    refine ZA ?_
    clear hS
    intro wx23 hS
    refine Zc ?_
    clear hS
    intro wx24 hS
    refine Zb ?_
    first|exact hmeet _ _ _ _ ⟨_,_,u,v,rfl,rfl,hu1,hv1,hu2,hv2,hS⟩ Yb Yb Yc|exact hmeet _ _ _ _ ⟨_,_,u,v,rfl,rfl,hu1,hv1,hu2,hv2,hS.perm (List.Perm.swap _ _ _)⟩ Yb Yb Yc
   refine ZV ?_
   clear hS
   intro b14 wx25 hS
   refine ZfW ?_
   rintro _ w6 ⟨v,rfl,hv1,hv2,hv3,hS'⟩
   refine Za ?_
   replace hS:=hS'
   clear hS'
   refine ZA ?_
   clear hS
   intro wx26 hS
   refine Zc ?_
   clear hS
   intro wx27 hS
   refine Zb ?_
   first|exact hmeet _ _ _ _ ⟨_,_,u,v,rfl,rfl,hu1,hv1,hu2,hv2,hS⟩ Yb Yb Yc|exact hmeet _ _ _ _ ⟨_,_,u,v,rfl,rfl,hu1,hv1,hu2,hv2,hS.perm (List.Perm.swap _ _ _)⟩ Yb Yb Yc
  refine QA rfl ?_ ?_
  ·refine ZY ?_
   clear hS
   intro b15 wx28 hS
   refine ZM ?_
   refine QA rfl ?_ ?_
   ·refine Ze ?_
    refine ZgE ?_
    rintro _ w5 ⟨u,rfl,hu1,hu2,hu3,hS'⟩
    refine Za ?_
    replace hS:=hS'
    clear hS'
    refine ZM ?_
    refine QA rfl ?_ ?_
    ·refine Ze ?_
     refine ZeU ?_
     rintro _ w6 ⟨v,rfl,hv1,hv2,hv3,hS'⟩
     refine Za ?_
     replace hS:=hS'
     clear hS'
     refine ZaL ?_
     clear hS
     intro b16 wx29 hS
     refine ZA ?_
     clear hS
     intro wx30 hS
     refine Zc ?_
     clear hS
     intro wx31 hS
     refine Zb ?_
     first|exact hmeet _ _ _ _ ⟨_,_,u,v,rfl,rfl,hu1,hv1,hu2,hv2,hS⟩ Yb Yb Yc|exact hmeet _ _ _ _ ⟨_,_,u,v,rfl,rfl,hu1,hv1,hu2,hv2,hS.perm (List.Perm.swap _ _ _)⟩ Yb Yb Yc
    refine ZV ?_
    clear hS
    intro b17 wx32 hS
    refine ZfW ?_
    rintro _ w6 ⟨v,rfl,hv1,hv2,hv3,hS'⟩
    refine Za ?_
    replace hS:=hS'
    clear hS'
    refine ZA ?_
    clear hS
    intro wx33 hS
    refine Zc ?_
    clear hS
    intro wx34 hS
    refine Zb ?_
    first|exact hmeet _ _ _ _ ⟨_,_,u,v,rfl,rfl,hu1,hv1,hu2,hv2,hS⟩ Yb Yb Yc|exact hmeet _ _ _ _ ⟨_,_,u,v,rfl,rfl,hu1,hv1,hu2,hv2,hS.perm (List.Perm.swap _ _ _)⟩ Yb Yb Yc
   refine ZV ?_
   clear hS
   intro b18 wx35 hS
   refine Zdg ?_
   refine ZgE ?_
   rintro _ w5 ⟨u,rfl,hu1,hu2,hu3,hS'⟩
   refine Za ?_
   replace hS:=hS'
   clear hS'
   refine ZfW ?_
   rintro _ w6 ⟨v,rfl,hv1,hv2,hv3,hS'⟩
   refine Za ?_
   replace hS:=hS'
   clear hS'
   refine ZA ?_
   clear hS
   intro wx36 hS
   refine Zc ?_
   clear hS
   intro wx37 hS
   refine Zb ?_
   first|exact hmeet _ _ _ _ ⟨_,_,u,v,rfl,rfl,hu1,hv1,hu2,hv2,hS⟩ Yb Yb Yc|exact hmeet _ _ _ _ ⟨_,_,u,v,rfl,rfl,hu1,hv1,hu2,hv2,hS.perm (List.Perm.swap _ _ _)⟩ Yb Yb Yc
  refine ZV ?_
  clear hS
  intro b19 wx38 hS
  refine ZM ?_
  refine QA rfl ?_ ?_
  ·refine Ze ?_
   refine ZgE ?_
   rintro _ w5 ⟨u,rfl,hu1,hu2,hu3,hS'⟩
   refine Za ?_
   replace hS:=hS'
   clear hS'
   refine ZM ?_
   refine QA rfl ?_ ?_
   ·refine Ze ?_
    refine ZeU ?_
    rintro _ w6 ⟨v,rfl,hv1,hv2,hv3,hS'⟩
    refine Za ?_
    replace hS:=hS'
    clear hS'
    refine ZaL ?_
    clear hS
    intro b20 wx39 hS
    refine ZA ?_
    clear hS
    intro wx40 hS
    refine Zc ?_
    clear hS
    intro wx41 hS
    refine Zb ?_
    first|exact hmeet _ _ _ _ ⟨_,_,u,v,rfl,rfl,hu1,hv1,hu2,hv2,hS⟩ Yb Yb Yc|exact hmeet _ _ _ _ ⟨_,_,u,v,rfl,rfl,hu1,hv1,hu2,hv2,hS.perm (List.Perm.swap _ _ _)⟩ Yb Yb Yc
   refine ZV ?_
   clear hS
   intro b21 wx42 hS
   refine ZfW ?_
   rintro _ w6 ⟨v,rfl,hv1,hv2,hv3,hS'⟩
   refine Za ?_
   replace hS:=hS'
   clear hS'
   refine ZA ?_
   clear hS
   intro wx43 hS
   refine Zc ?_
   clear hS
   intro wx44 hS
   refine Zb ?_
   first|exact hmeet _ _ _ _ ⟨_,_,u,v,rfl,rfl,hu1,hv1,hu2,hv2,hS⟩ Yb Yb Yc|exact hmeet _ _ _ _ ⟨_,_,u,v,rfl,rfl,hu1,hv1,hu2,hv2,hS.perm (List.Perm.swap _ _ _)⟩ Yb Yb Yc
  refine ZV ?_
  clear hS
  intro b22 wx45 hS
  refine Zdg ?_
  refine ZgE ?_
  rintro _ w5 ⟨u,rfl,hu1,hu2,hu3,hS'⟩
  refine Za ?_
  replace hS:=hS'
  clear hS'
  refine ZfW ?_
  rintro _ w6 ⟨v,rfl,hv1,hv2,hv3,hS'⟩
  refine Za ?_
  replace hS:=hS'
  clear hS'
  refine ZA ?_
  clear hS
  intro wx46 hS
  refine Zc ?_
  clear hS
  intro wx47 hS
  refine Zb ?_
  first|exact hmeet _ _ _ _ ⟨_,_,u,v,rfl,rfl,hu1,hv1,hu2,hv2,hS⟩ Yb Yb Yc|exact hmeet _ _ _ _ ⟨_,_,u,v,rfl,rfl,hu1,hv1,hu2,hv2,hS.perm (List.Perm.swap _ _ _)⟩ Yb Yb Yc
 clear hS
 rintro jv2 _ _ w7 ⟨b5,b6,u,v,rfl,rfl,hu1,hv1,hu2,hv2,hS⟩
 have tu:tgd u.tm:=by rw [hu1];exact Qd3 hE.gd t1
 have tv':tgd v.tm:=by rw [hv1];exact Qd3 hE.gd t2
 by_cases ku:u.k=0
 ·have ku' : (Qc (QK E) p.1.tm).k = 0 := by rw [← hu1]; exact ku
  by_cases kv:v.k=0
  ·have kv':(Qc (QK E) p.2.tm).k=0:=by rw [←hv1];exact kv
   by_cases hn:u.n=v.n
   ·have hrun3:Qli (L.reverse.map Qo7) (QK E) (wk+1)=r:=by
     rw [←hrun2];exact (Qt3 _ Ya ku' kv' (by rw [←hu1,←hv1];exact hn)).symm
    refine ZaF ?_
    refine Zq ?_
    refine ZcZ ?_
    refine ZaK ?_
    refine Zex ?_
    refine Zao ?_
    refine ZU ?_
    refine ZU ?_
    refine ZfE ?_
    refine ZaW ?_
    refine ih (L,E,wk+1) _ _ _ _ _ ?_ ?_ Yb Yb Yb Yc
    ·show 401-(wk+1)<401-wk;omega
    ·exact ⟨_,_,_,F',by rw [show ((((L++[p]).length:Nat):Int)-1).toNat=L.length by omega],by congr 1;show (400:Int)-(wk:Nat)-1=400-((wk+1:Nat):Int);omega,rfl,hrun3,by show wk+1≤400;omega,by show L.length≤24*(wk+1)+1;omega,hF,hE,hAL,hrowL,hS.drop.drop.drop⟩
   ·have hrun3:Qli (L.reverse.map Qo7) ((max u.n v.n,⟨0,min u.n v.n,⟨#[]⟩,.nil⟩)::QK E) (wk+1)=r:=by
     have:=Qt5 (L.reverse.map Qo7) (w:=wk) Ya ku' kv' (by rw [←hu1,←hv1];exact hn)
     rw [←hu1,←hv1] at this
     rw [←hrun2];exact this.symm
    have hmx:max u.n v.n=if u.n<v.n then v.n else u.n:=by split<;>omega
    have hmn:min u.n v.n=if v.n<u.n then v.n else u.n:=by split<;>omega
    refine ZaF ?_
    refine Zq ?_
    refine ZcZ ?_
    refine ZaK ?_
    refine Zex ?_
    refine Zao ?_
    refine ZU ?_
    refine ZU ?_
    refine ZfD ?_
    refine Zbe ?_
    refine ZU ?_
    refine ZU ?_
    refine Zhq ?_
    refine ZU ?_
    refine ZU ?_
    refine Qa (QiE rfl rfl Ye) rfl ?_
    refine ZeX ?_
    refine Zf ?_
    refine ZgF ?_
    refine ZaX ?_
    clear hS
    intro b23 wx48 hS
    refine Zd ?_
    refine ZaW ?_
    replace hS:=hS.freeze
    have nu:0≤u.n∧u.n<549755813888:=QqD tu ku
    have nv:0≤v.n∧v.n<549755813888:=QqD tv' kv
    have hbk:=Qw1 hE.ok ku' kv' (by rw [←hu1,←hv1];exact hn)
    rw [←hu1,←hv1] at hbk
    have hE':=EOk.cons (bk:=b23) (t:=⟨0,min u.n v.n,⟨#[]⟩,none,0,.nil⟩) (v:=max u.n v.n) hE (fun w _=>⟨Nat.le_refl _,fun h=>absurd h (by simp [TA.len])⟩) (show tgd ⟨0,min u.n v.n,⟨#[]⟩,.nil⟩ from Qyg Ya Ya) hbk
    refine ih (L,⟨max u.n v.n,⟨0,min u.n v.n,⟨#[]⟩,none,0,.nil⟩,b23⟩::E,wk+1) _ _ _ _ _ ?_ ?_ Yb Yb Yb Yc
    ·show 401-(wk+1)<401-wk;omega
    ·exact ⟨_,_,_,_,by rw [show ((((L++[p]).length:Nat):Int)-1).toNat=L.length by omega],by congr 1;show (400:Int)-(wk:Nat)-1=400-((wk+1:Nat):Int);omega,rfl,hrun3,by show wk+1≤400;omega,by show L.length≤24*(wk+1)+1;omega,fun φ h=> .tail _ (hF φ h),hE',hAL.tail,hrowL,hS.drop.drop.drop⟩
  ·have kv' : (Qc (QK E) p.2.tm).k ≠ 0 := by rw [← hv1]; exact kv
   have hrd:=Qyn (L.reverse.map Qo7) (w:=wk) hE.ok Ya ku' kv'
   rw [←hu1,←hv1] at hrd
   replace hrd:=hrun2.symm.trans hrd
   refine ZaF ?_
   refine Zq ?_
   refine ZcZ ?_
   refine ZaK ?_
   refine Zib ?_
   refine ZaF ?_
   refine Zq ?_
   refine Zan ?_
   refine ZaF ?_
   refine Zq ?_
   refine Zr ?_
   refine Zb0 ?_
   refine Zbg ?_
   refine ZaO ?_
   clear hS
   intro b23 wx48 hS
   refine Zd9 ?_
   have hfP:QcY u.n (QK E)=none:=by
    have:=QbJ hE.ok p.1.tm ku'
    rw [←hu1] at this;exact this
   have hkQ:v.tm.k≠0:=kv
   obtain ⟨ro,hro⟩:∃ro,QbN (QK E) u.tm.n [v.tm] (wk+1)=ro:=⟨_,rfl⟩
   rw [hro] at hrd
   have hrow0:Rw 63 4 (.slice (some ⟨b23,0,none⟩) 1 1) 1 (Qfa [v]) [(b23,.cells (Qfa [v]++[]).toArray 63)]:=Rw.own_ rfl rfl (Nat.le_refl _) Ya
   rw [show (400:Int)-(wk:Nat)-1=400-((wk+1:Nat):Int) by omega]
   refine Qx 14 9 (87::88::89::90::91::92::93::94::95::15::96::97::98::99::100::101::102::103::104::105::106::6::7::8::107::108::109::110::111::112::113::114::115::116::117::118::119::120::121::122::123::124::125::16::126::127::130::131::132::133::134::135::136::137::128::129::[]) (fun (x:List LT×Nat) s y w'=>∃(As:Option Addr) (cs:Nat) (Os:List (Nat×Obj)),s= .slice As x.1.length cs∧y= .int .i64 (400-(x.2:Nat))∧QbN (QK E) u.tm.n (x.1.reverse.map LT.tm) x.2=ro∧wk<x.2∧x.2≤400∧x.1.length≤24*x.2+1∧QzR F' x.1∧Rw 63 4 (.slice As x.1.length cs) x.1.length (Qfa x.1) Os∧St M w0 (Os++((b5,.cells (tcs u).toArray 63)::(b6,.cells (tcs v).toArray 63)::(b4,.cells (tcs p.1++tcs p.2).toArray 218)::(b2,.cells (tcs b).toArray 63)::(b1,.cells (tcs a).toArray 63)::(g,.cells (pcs (L++[p])++sp).toArray 218)::H)) F' w') (fun x=>401-x.2) (([v],wk+1)) ?_ Yb Yb ?_
   ·exact ⟨_,_,_,rfl,rfl,hro,by show wk<wk+1;omega,by show wk+1≤400;omega,by show 1≤24*(wk+1)+1;omega,fun x hx=>by rw [List.mem_singleton.1 hx];exact ⟨hv2,tv'⟩,hrow0,hS⟩
   clear hS hrow0 hro
   rintro x s y w8 jv3 ⟨As,cs,Os,hs,hy,hoc,hk1,hk2,hSl,hAT,hrows,hS⟩ ih2
   obtain ⟨S,wq⟩:=x
   dsimp only at hs hy hoc hk1 hk2 hSl hAT hrows hS
   subst hs hy
   rcases Qeo S with rfl|⟨S,z,rfl⟩
   ·have hro2:ro=(false,wq):=by rw [←hoc];rfl
    rw [hro2,if_neg (by rintro (h|h);cases h;exact absurd h (by show¬400<wq;omega))] at hrd
    replace hS:=St.dropN hS
    refine ZcR ?_
    refine Zbp ?_
    refine Zk ?_
    refine ZU ?_
    refine Zbg ?_
    refine Zf ?_
    refine ZgF ?_
    refine ZaX ?_
    clear hS
    intro b24 wx49 hS
    refine Zd ?_
    refine ZaW ?_
    replace hS:=hS.freeze
    have hbk:Bok ((u.n,v.tm)::QK E):=⟨hfP,fun e=>absurd e hkQ,hE.ok⟩
    have hE':=EOk.cons (bk:=b24) (t:=v) (v:=u.n) hE hv2 tv' hbk
    refine ih (L,⟨u.n,v,b24⟩::E,wq) _ _ _ _ _ ?_ ?_ Yb Yb Yb Yc
    ·show 401-wq<401-wk;omega
    ·exact ⟨_,_,_,_,by rw [show ((((L++[p]).length:Nat):Int)-1).toNat=L.length by omega],rfl,rfl,hrd.symm,by show wq≤400;omega,by show L.length≤24*wq+1;omega,fun φ h=> .tail _ (hF φ h),hE',hAL.tail,hrowL,hS.drop.drop.drop⟩
   have hlz:(S++[z]).length=S.length+1:=by simp
   obtain ⟨hz1,hz2⟩:=hAT z Yd
   have hATS:QzR F' S:=fun q hq=>hAT q (by simp [hq])
   obtain ⟨sg,ssp,rfl,rfl,hscap,hsle,_⟩:=hrows.some_ Ya
   have hcutz:Cut (Qfa (S++[z])++ssp) (0+((((S++[z]).length:Nat):Int)-1).toNat*4) 4 (tcs z):=by
    have:=QzL (Qfa S) (tcs z) ssp (0+((((S++[z]).length:Nat):Int)-1).toNat*4) 4 (by rw [QgO];omega) rfl
    rw [Qb7]
    simpa [Qfa] using this
   have hrowS:Rw 63 4 (.slice (some ⟨sg,0,none⟩) S.length cs) S.length (Qfa S) [(sg,.cells (Qfa (S++[z])++ssp).toArray 63)]:=by
    rw [hlz,Qb7] at hrows
    rw [Qb7]
    exact hrows.cutS (QgO S) Ya
   have hoc2:QbN (QK E) u.tm.n (z.tm::S.reverse.map LT.tm) wq=ro:=by rw [←hoc,List.reverse_append];rfl
   by_cases hwq:wq=400
   ·have hlg:=Qlf (QK E) u.tm.n z.tm (S.reverse.map LT.tm) (w:=wq) Ya
    rw [hoc2] at hlg
    rw [if_pos (.inr hlg.2)] at hrd
    refine ZfT ?_
    refine ZeB ?_
    clear hS
    intro b24 wx49 hS
    refine Zc ?_
    clear hS
    intro wx50 hS
    refine ZfU ?_
    refine ZgG ?_
    refine ZfV ?_
    refine Zs ?_
    refine Zt ?_
    refine Zcu ?_
    refine ⟨E,F',400-(wq:Nat)-1,hF,hS.drop.drop.drop.drop.drop.drop.drop.drop,fun _=>⟨by omega,rfl⟩,fun h=> ?_,fun h=> ?_⟩
    ·rw [hrd] at h;exact absurd h (by show¬ro.2≤400;omega)
    ·rw [hrd] at h;exact absurd h (by show¬ro.2≤400;omega)
   refine ZfT ?_
   refine ZeB ?_
   clear hS
   intro b24 wx49 hS
   refine Zc ?_
   clear hS
   intro wx50 hS
   refine ZfU ?_
   refine ZgG ?_
   refine ZfV ?_
   refine ZbJ ?_
   refine ZF ?_
   refine Zbg ?_
   refine Ze ?_
   refine Calls.mono (Qds E z _ hE.rd hz1 hE.ok hS) ?_
   rintro _ w9 ⟨zz,rfl,hzz1,hzz2,hzz3,hS'⟩
   refine Za ?_
   replace hS:=hS'
   clear hS'
   have tzz:tgd zz.tm:=by rw [hzz1];exact Qd3 hE.gd hz2
   have hzl:zz.ar.len≤24:=by
    have h1:=tzz.2
    have h2:=Ts.length_le zz.ar.ts
    rw [TA.len_ts] at h2
    have h3:zz.ar.ts.nodes+1≤24:=h1
    omega
   by_cases kz:zz.k=0
   ·have kz' : (Qc (QK E) z.tm).k = 0 := by rw [← hzz1]; exact kz
    by_cases nz:zz.n=u.n
    ·have hh:=QnI (v:=u.tm.n) (S.reverse.map LT.tm) (w:=wq) Ya kz' (by rw [←hzz1];exact nz)
     rw [hoc2] at hh
     rw [hh,if_pos (.inl rfl)] at hrd
     refine Zc ?_
     clear hS
     intro wx51 hS
     refine Zb ?_
     refine Zfl ?_
     refine ZcX ?_
     refine ZcO ?_
     refine Zex ?_
     refine Zcu ?_
     refine ⟨E,F',400-(wq:Nat)-1,hF,hS.drop.drop.drop.drop.drop.drop.drop.drop,fun h=> ?_,fun h=> ?_,fun h h'=> ?_⟩
     ·rw [hrd] at h;exact absurd h (by show¬400<wq+1;omega)
     ·rw [hrd];exact ⟨by show (400:Int)-(wq:Nat)-1=400-((wq+1:Nat):Int);omega,rfl⟩
     ·rw [hrd] at h';cases h'
    ·have hoc3:QbN (QK E) u.tm.n (zz.ar.lts.map LT.tm++S.reverse.map LT.tm) (wq+1)=ro:=by
      have hh:=Qld (v:=u.tm.n) (S.reverse.map LT.tm) (w:=wq) Ya kz' (by rw [←hzz1];exact nz)
      rw [hoc2] at hh
      have hnil:zz.ar.lts=[]:=List.eq_nil_of_length_eq_zero (by
       have:=(Qmb tzz kz).2
       have h2:zz.ar.ts.length=0:=by show zz.tm.ar.length=0;rw [this];rfl
       rw [TA.lts_len,←TA.len_ts];exact h2)
      rw [hnil];exact hh.symm
     refine Zc ?_
     clear hS
     intro wx51 hS
     refine Zb ?_
     refine Zfl ?_
     refine ZcX ?_
     refine ZcO ?_
     refine Zib ?_
     refine Zk ?_
     refine ZbZ ?_
     refine ZdH ?_
     have hd0:zz.ar.lts.drop zz.ar.len=[]:=by rw [←TA.lts_len];simp
     have htg:=Qf1 (T:=zz.ar) (Qax _ tzz)
     rw [show ((((S++[z]).length:Nat):Int)-1).toNat=(S++(zz.ar.lts.drop zz.ar.len).reverse).length by rw [hd0];simp]
     obtain ⟨zk,zn,zs,zA,zc,zar⟩:=zz
     dsimp only at hzl hd0 htg hoc3
     refine Qx 16 14 (126::127::130::131::132::133::134::135::136::137::128::129::[]) (fun (j:Nat) i s w'=>∃(As:Option Addr) (cs:Nat) (Os:List (Nat×Obj)),j≤zar.len∧i= .int .i64 ((j:Nat)-1)∧s= .slice As (S++(zar.lts.drop j).reverse).length cs∧Rw 63 4 (.slice As (S++(zar.lts.drop j).reverse).length cs) (S++(zar.lts.drop j).reverse).length (Qfa (S++(zar.lts.drop j).reverse)) Os∧St M w0 ((b24,.cells [.int .i64 zk,.int .i64 zn,.string zs,.slice zA zar.len zc].toArray 63)::(Os++((b5,.cells (tcs u).toArray 63)::(b6,.cells (tcs v).toArray 63)::(b4,.cells (tcs p.1++tcs p.2).toArray 218)::(b2,.cells (tcs b).toArray 63)::(b1,.cells (tcs a).toArray 63)::(g,.cells (pcs (L++[p])++sp).toArray 218)::H))) F' w') (fun j=>j) (zar.len) ?_ Yb Yb ?_
     ·exact ⟨_,_,_,Nat.le_refl _,rfl,rfl,by rw [hd0];simpa using hrowS,hS⟩
     clear hS
     rintro j i s w10 jv4 ⟨As,cs,Os,hj,hi,hs,hrw,hS⟩ ih3
     subst hi hs
     cases j with
     |zero=>
      have e0:S++(zar.lts.drop 0).reverse=S++zar.lts.reverse:=rfl
      rw [e0] at hrw
      refine ZdI ?_
      refine ZaM ?_
      refine ih2 (S++zar.lts.reverse,wq+1) _ _ _ _ ?_ ?_ Yb Yb Yc
      ·show 401-(wq+1)<401-wq;omega
      ·refine ⟨As,cs,Os,rfl,by congr 1;show (400:Int)-(wq:Nat)-1=400-((wq+1:Nat):Int);omega,?_,by show wk<wq+1;omega,by show wq+1≤400;omega,?_,?_,hrw,hS.drop⟩
       ·show QbN _ _ ((S++zar.lts.reverse).reverse.map LT.tm) _=ro
        rw [List.reverse_append,List.reverse_reverse,List.map_append];exact hoc3
       ·show (S++zar.lts.reverse).length≤24*(wq+1)+1
        rw [List.length_append,List.length_reverse,TA.lts_len];omega
       ·intro x hx
        rcases List.mem_append.1 hx with hx|hx
        ·exact hATS x hx
        ·have hx:=List.mem_reverse.1 hx
         exact ⟨fun w hw=>(hzz2 w hw).lts x hx,htg x hx⟩
     |succ j=>
      obtain ⟨D,R,x,hDx,hDl⟩:=TA.at_split zar j Ya
      have hzA:Und F' (ArA zA zc (D.app (.cons x.k x.n x.s x.A x.c x.ar R))):=by rw [←hDx];exact hzz2
      obtain ⟨bk,ok,rfl⟩:=(hS.und hzA).some_ (by rw [TA.len_app];simp only [TA.len];omega)
      have hcc:∀{H'} w',St M w0 H' F' w'→_:=fun w' hS=>(hS.und hzA).cells
      have eix:(((j+1:Nat):Int)-1).toNat=D.len:=by omega
      rw [←eix] at hcc
      have hdj:zar.lts.drop j=x::zar.lts.drop (j+1):=by
       rw [hDx,TA.lts_app,←hDl,←TA.lts_len D]
       simp [TA.lts]
      have hgj:(S++(zar.lts.drop j).reverse)=(S++(zar.lts.drop (j+1)).reverse)++[x]:=by rw [hdj];simp
      have hzlen:(zar.lts.drop (j+1)).length≤24:=by rw [List.length_drop,TA.lts_len];omega
      refine ZdJ ?_
      refine Zx ?_
      refine ZdK ?_
      refine Zf ?_
      refine Zhh ?_
      refine ZaO ?_
      clear hS
      intro b25 wx52 hS
      refine ZhG ?_
      clear hS
      intro v9 O9 w11 hrow9 hS
      obtain ⟨A9,c9,rfl,_⟩:=hrow9.form
      replace hS:=(hS.perm (List.perm_append_comm_assoc O9 [_,_] _)).drop
      refine ZeD ?_
      refine ih3 j _ _ _ _ ?_ ?_ Yb Yb Yc
      ·omega
      ·refine ⟨A9,c9,O9,by omega,by congr 1;show (((j+1:Nat):Int)-1)-1=(j:Nat)-1;omega,?_,?_,hS⟩
       ·rw [hgj,List.length_append (bs:=[x])];rfl
       ·rw [hgj,List.length_append (bs:=[x]),Qb7]
        have:Qfa [x]=tcs x:=by simp [Qfa]
        rw [this];exact hrow9
   ·have hoc3:QbN (QK E) u.tm.n (zz.ar.lts.map LT.tm++S.reverse.map LT.tm) (wq+1)=ro:=by
     have hh:=Qlc (v:=u.tm.n) (S.reverse.map LT.tm) (w:=wq) Ya (show (Qc (QK E) z.tm).k≠0 by rw [←hzz1];exact kz)
     rw [hoc2,←hzz1] at hh
     rw [TA.lts_tm];exact hh.symm
    refine Zc ?_
    clear hS
    intro wx51 hS
    refine ZdL ?_
    refine Zas ?_
    refine ZfB ?_
    refine ZC ?_
    refine Zk ?_
    refine ZdK ?_
    refine ZdH ?_
    have hd0:zz.ar.lts.drop zz.ar.len=[]:=by rw [←TA.lts_len];simp
    have htg:=Qf1 (T:=zz.ar) (Qax _ tzz)
    rw [show ((((S++[z]).length:Nat):Int)-1).toNat=(S++(zz.ar.lts.drop zz.ar.len).reverse).length by rw [hd0];simp]
    obtain ⟨zk,zn,zs,zA,zc,zar⟩:=zz
    dsimp only at hzl hd0 htg hoc3
    refine Qx 16 14 (126::127::130::131::132::133::134::135::136::137::128::129::[]) (fun (j:Nat) i s w'=>∃(As:Option Addr) (cs:Nat) (Os:List (Nat×Obj)),j≤zar.len∧i= .int .i64 ((j:Nat)-1)∧s= .slice As (S++(zar.lts.drop j).reverse).length cs∧Rw 63 4 (.slice As (S++(zar.lts.drop j).reverse).length cs) (S++(zar.lts.drop j).reverse).length (Qfa (S++(zar.lts.drop j).reverse)) Os∧St M w0 ((b24,.cells [.int .i64 zk,.int .i64 zn,.string zs,.slice zA zar.len zc].toArray 63)::(Os++((b5,.cells (tcs u).toArray 63)::(b6,.cells (tcs v).toArray 63)::(b4,.cells (tcs p.1++tcs p.2).toArray 218)::(b2,.cells (tcs b).toArray 63)::(b1,.cells (tcs a).toArray 63)::(g,.cells (pcs (L++[p])++sp).toArray 218)::H))) F' w') (fun j=>j) (zar.len) ?_ Yb Yb ?_
    ·exact ⟨_,_,_,Nat.le_refl _,rfl,rfl,by rw [hd0];simpa using hrowS,hS⟩
    clear hS
    rintro j i s w10 jv4 ⟨As,cs,Os,hj,hi,hs,hrw,hS⟩ ih3
    subst hi hs
    cases j with
    |zero=>
     have e0:S++(zar.lts.drop 0).reverse=S++zar.lts.reverse:=rfl
     rw [e0] at hrw
     refine ZdI ?_
     refine ZaM ?_
     refine ih2 (S++zar.lts.reverse,wq+1) _ _ _ _ ?_ ?_ Yb Yb Yc
     ·show 401-(wq+1)<401-wq;omega
     ·refine ⟨As,cs,Os,rfl,by congr 1;show (400:Int)-(wq:Nat)-1=400-((wq+1:Nat):Int);omega,?_,by show wk<wq+1;omega,by show wq+1≤400;omega,?_,?_,hrw,hS.drop⟩
      ·show QbN _ _ ((S++zar.lts.reverse).reverse.map LT.tm) _=ro
       rw [List.reverse_append,List.reverse_reverse,List.map_append];exact hoc3
      ·show (S++zar.lts.reverse).length≤24*(wq+1)+1
       rw [List.length_append,List.length_reverse,TA.lts_len];omega
      ·intro x hx
       rcases List.mem_append.1 hx with hx|hx
       ·exact hATS x hx
       ·have hx:=List.mem_reverse.1 hx
        exact ⟨fun w hw=>(hzz2 w hw).lts x hx,htg x hx⟩
    |succ j=>
     obtain ⟨D,R,x,hDx,hDl⟩:=TA.at_split zar j Ya
     have hzA:Und F' (ArA zA zc (D.app (.cons x.k x.n x.s x.A x.c x.ar R))):=by rw [←hDx];exact hzz2
     obtain ⟨bk,ok,rfl⟩:=(hS.und hzA).some_ (by rw [TA.len_app];simp only [TA.len];omega)
     have hcc:∀{H'} w',St M w0 H' F' w'→_:=fun w' hS=>(hS.und hzA).cells
     have eix:(((j+1:Nat):Int)-1).toNat=D.len:=by omega
     rw [←eix] at hcc
     have hdj:zar.lts.drop j=x::zar.lts.drop (j+1):=by
      rw [hDx,TA.lts_app,←hDl,←TA.lts_len D]
      simp [TA.lts]
     have hgj:(S++(zar.lts.drop j).reverse)=(S++(zar.lts.drop (j+1)).reverse)++[x]:=by rw [hdj];simp
     have hzlen:(zar.lts.drop (j+1)).length≤24:=by rw [List.length_drop,TA.lts_len];omega
     refine ZdJ ?_
     refine Zx ?_
     refine ZdK ?_
     refine Zf ?_
     refine Zhh ?_
     refine ZaO ?_
     clear hS
     intro b25 wx52 hS
     refine ZhG ?_
     clear hS
     intro v9 O9 w11 hrow9 hS
     obtain ⟨A9,c9,rfl,_⟩:=hrow9.form
     replace hS:=(hS.perm (List.perm_append_comm_assoc O9 [_,_] _)).drop
     refine ZeD ?_
     refine ih3 j _ _ _ _ ?_ ?_ Yb Yb Yc
     ·omega
     ·refine ⟨A9,c9,O9,by omega,by congr 1;show (((j+1:Nat):Int)-1)-1=(j:Nat)-1;omega,?_,?_,hS⟩
      ·rw [hgj,List.length_append (bs:=[x])];rfl
      ·rw [hgj,List.length_append (bs:=[x]),Qb7]
       have:Qfa [x]=tcs x:=by simp [Qfa]
       rw [this];exact hrow9
 ·have ku' : (Qc (QK E) p.1.tm).k ≠ 0 := by rw [← hu1]; exact ku
  by_cases kv:v.k=0
  ·have kv' : (Qc (QK E) p.2.tm).k = 0 := by rw [← hv1]; exact kv
   have hrd:=Qyo (L.reverse.map Qo7) (w:=wk) hE.ok Ya ku' kv'
   rw [←hu1,←hv1] at hrd
   replace hrd:=hrun2.symm.trans hrd
   refine ZfX ?_
   refine Zdi ?_
   refine ZfY ?_
   refine Zbe ?_
   refine ZbS ?_
   refine ZbS ?_
   refine Zc ?_
   clear hS
   intro wx48 hS
   refine Zc ?_
   clear hS
   intro wx49 hS
   refine ZdM ?_
   refine Zas ?_
   refine Zr ?_
   refine Zb0 ?_
   refine ZbS ?_
   refine ZaO ?_
   clear hS
   intro b23 wx50 hS
   refine Zd9 ?_
   have hfP:QcY v.n (QK E)=none:=by
    have:=QbJ hE.ok p.2.tm kv'
    rw [←hv1] at this;exact this
   have hkQ:u.tm.k≠0:=ku
   obtain ⟨ro,hro⟩:∃ro,QbN (QK E) v.tm.n [u.tm] (wk+1)=ro:=⟨_,rfl⟩
   rw [hro] at hrd
   have hrow0:Rw 63 4 (.slice (some ⟨b23,0,none⟩) 1 1) 1 (Qfa [u]) [(b23,.cells (Qfa [u]++[]).toArray 63)]:=Rw.own_ rfl rfl (Nat.le_refl _) Ya
   rw [show (400:Int)-(wk:Nat)-1=400-((wk+1:Nat):Int) by omega]
   refine Qx 14 9 (87::88::89::90::91::92::93::94::95::15::96::97::98::99::100::101::102::103::104::105::106::6::7::8::107::108::109::110::111::112::113::114::115::116::117::118::119::120::121::122::123::124::125::16::126::127::130::131::132::133::134::135::136::137::128::129::[]) (fun (x:List LT×Nat) s y w'=>∃(As:Option Addr) (cs:Nat) (Os:List (Nat×Obj)),s= .slice As x.1.length cs∧y= .int .i64 (400-(x.2:Nat))∧QbN (QK E) v.tm.n (x.1.reverse.map LT.tm) x.2=ro∧wk<x.2∧x.2≤400∧x.1.length≤24*x.2+1∧QzR F' x.1∧Rw 63 4 (.slice As x.1.length cs) x.1.length (Qfa x.1) Os∧St M w0 (Os++((b5,.cells (tcs v).toArray 63)::(b6,.cells (tcs u).toArray 63)::(b4,.cells (tcs p.1++tcs p.2).toArray 218)::(b2,.cells (tcs b).toArray 63)::(b1,.cells (tcs a).toArray 63)::(g,.cells (pcs (L++[p])++sp).toArray 218)::H)) F' w') (fun x=>401-x.2) (([u],wk+1)) ?_ Yb Yb ?_
   ·exact ⟨_,_,_,rfl,rfl,hro,by show wk<wk+1;omega,by show wk+1≤400;omega,by show 1≤24*(wk+1)+1;omega,fun x hx=>by rw [List.mem_singleton.1 hx];exact ⟨hu2,tu⟩,hrow0,hS⟩
   clear hS hrow0 hro
   rintro x s y w8 jv3 ⟨As,cs,Os,hs,hy,hoc,hk1,hk2,hSl,hAT,hrows,hS⟩ ih2
   obtain ⟨S,wq⟩:=x
   dsimp only at hs hy hoc hk1 hk2 hSl hAT hrows hS
   subst hs hy
   rcases Qeo S with rfl|⟨S,z,rfl⟩
   ·have hro2:ro=(false,wq):=by rw [←hoc];rfl
    rw [hro2,if_neg (by rintro (h|h);cases h;exact absurd h (by show¬400<wq;omega))] at hrd
    replace hS:=St.dropN hS
    refine ZcR ?_
    refine Zbp ?_
    refine ZdN ?_
    refine Zas ?_
    refine ZbS ?_
    refine Zf ?_
    refine ZgF ?_
    refine ZaX ?_
    clear hS
    intro b24 wx51 hS
    refine Zd ?_
    refine ZaW ?_
    replace hS:=hS.freeze
    have hbk:Bok ((v.n,u.tm)::QK E):=⟨hfP,fun e=>absurd e hkQ,hE.ok⟩
    have hE':=EOk.cons (bk:=b24) (t:=u) (v:=v.n) hE hu2 tu hbk
    refine ih (L,⟨v.n,u,b24⟩::E,wq) _ _ _ _ _ ?_ ?_ Yb Yb Yb Yc
    ·show 401-wq<401-wk;omega
    ·exact ⟨_,_,_,_,by rw [show ((((L++[p]).length:Nat):Int)-1).toNat=L.length by omega],rfl,rfl,hrd.symm,by show wq≤400;omega,by show L.length≤24*wq+1;omega,fun φ h=> .tail _ (hF φ h),hE',hAL.tail,hrowL,hS.drop.drop.drop⟩
   have hlz:(S++[z]).length=S.length+1:=by simp
   obtain ⟨hz1,hz2⟩:=hAT z Yd
   have hATS:QzR F' S:=fun q hq=>hAT q (by simp [hq])
   obtain ⟨sg,ssp,rfl,rfl,hscap,hsle,_⟩:=hrows.some_ Ya
   have hcutz:Cut (Qfa (S++[z])++ssp) (0+((((S++[z]).length:Nat):Int)-1).toNat*4) 4 (tcs z):=by
    have:=QzL (Qfa S) (tcs z) ssp (0+((((S++[z]).length:Nat):Int)-1).toNat*4) 4 (by rw [QgO];omega) rfl
    rw [Qb7]
    simpa [Qfa] using this
   have hrowS:Rw 63 4 (.slice (some ⟨sg,0,none⟩) S.length cs) S.length (Qfa S) [(sg,.cells (Qfa (S++[z])++ssp).toArray 63)]:=by
    rw [hlz,Qb7] at hrows
    rw [Qb7]
    exact hrows.cutS (QgO S) Ya
   have hoc2:QbN (QK E) v.tm.n (z.tm::S.reverse.map LT.tm) wq=ro:=by rw [←hoc,List.reverse_append];rfl
   by_cases hwq:wq=400
   ·have hlg:=Qlf (QK E) v.tm.n z.tm (S.reverse.map LT.tm) (w:=wq) Ya
    rw [hoc2] at hlg
    rw [if_pos (.inr hlg.2)] at hrd
    refine ZfT ?_
    refine ZfZ ?_
    clear hS
    intro b24 wx51 hS
    refine Zc ?_
    clear hS
    intro wx52 hS
    refine ZfU ?_
    refine ZgG ?_
    refine ZfV ?_
    refine Zs ?_
    refine Zt ?_
    refine Zcu ?_
    refine ⟨E,F',400-(wq:Nat)-1,hF,hS.drop.drop.drop.drop.drop.drop.drop.drop,fun _=>⟨by omega,rfl⟩,fun h=> ?_,fun h=> ?_⟩
    ·rw [hrd] at h;exact absurd h (by show¬ro.2≤400;omega)
    ·rw [hrd] at h;exact absurd h (by show¬ro.2≤400;omega)
   refine ZfT ?_
   refine ZfZ ?_
   clear hS
   intro b24 wx51 hS
   refine Zc ?_
   clear hS
   intro wx52 hS
   refine ZfU ?_
   refine ZgG ?_
   refine ZfV ?_
   refine ZbJ ?_
   refine ZF ?_
   refine ZbS ?_
   refine Ze ?_
   refine Calls.mono (Qds E z _ hE.rd hz1 hE.ok hS) ?_
   rintro _ w9 ⟨zz,rfl,hzz1,hzz2,hzz3,hS'⟩
   refine Za ?_
   replace hS:=hS'
   clear hS'
   have tzz:tgd zz.tm:=by rw [hzz1];exact Qd3 hE.gd hz2
   have hzl:zz.ar.len≤24:=by
    have h1:=tzz.2
    have h2:=Ts.length_le zz.ar.ts
    rw [TA.len_ts] at h2
    have h3:zz.ar.ts.nodes+1≤24:=h1
    omega
   by_cases kz:zz.k=0
   ·have kz' : (Qc (QK E) z.tm).k = 0 := by rw [← hzz1]; exact kz
    by_cases nz:zz.n=v.n
    ·have hh:=QnI (v:=v.tm.n) (S.reverse.map LT.tm) (w:=wq) Ya kz' (by rw [←hzz1];exact nz)
     rw [hoc2] at hh
     rw [hh,if_pos (.inl rfl)] at hrd
     refine Zc ?_
     clear hS
     intro wx53 hS
     refine ZdL ?_
     refine Zas ?_
     refine ZcZ ?_
     refine Zf0 ?_
     refine Zex ?_
     refine Zcu ?_
     refine ⟨E,F',400-(wq:Nat)-1,hF,hS.drop.drop.drop.drop.drop.drop.drop.drop,fun h=> ?_,fun h=> ?_,fun h h'=> ?_⟩
     ·rw [hrd] at h;exact absurd h (by show¬400<wq+1;omega)
     ·rw [hrd];exact ⟨by show (400:Int)-(wq:Nat)-1=400-((wq+1:Nat):Int);omega,rfl⟩
     ·rw [hrd] at h';cases h'
    ·have hoc3:QbN (QK E) v.tm.n (zz.ar.lts.map LT.tm++S.reverse.map LT.tm) (wq+1)=ro:=by
      have hh:=Qld (v:=v.tm.n) (S.reverse.map LT.tm) (w:=wq) Ya kz' (by rw [←hzz1];exact nz)
      rw [hoc2] at hh
      have hnil:zz.ar.lts=[]:=List.eq_nil_of_length_eq_zero (by
       have:=(Qmb tzz kz).2
       have h2:zz.ar.ts.length=0:=by show zz.tm.ar.length=0;rw [this];rfl
       rw [TA.lts_len,←TA.len_ts];exact h2)
      rw [hnil];exact hh.symm
     refine Zc ?_
     clear hS
     intro wx53 hS
     refine ZdL ?_
     refine Zas ?_
     refine ZcZ ?_
     refine Zf0 ?_
     refine Zib ?_
     refine Zk ?_
     refine ZdK ?_
     refine ZdH ?_
     have hd0:zz.ar.lts.drop zz.ar.len=[]:=by rw [←TA.lts_len];simp
     have htg:=Qf1 (T:=zz.ar) (Qax _ tzz)
     rw [show ((((S++[z]).length:Nat):Int)-1).toNat=(S++(zz.ar.lts.drop zz.ar.len).reverse).length by rw [hd0];simp]
     obtain ⟨zk,zn,zs,zA,zc,zar⟩:=zz
     dsimp only at hzl hd0 htg hoc3
     refine Qx 16 14 (126::127::130::131::132::133::134::135::136::137::128::129::[]) (fun (j:Nat) i s w'=>∃(As:Option Addr) (cs:Nat) (Os:List (Nat×Obj)),j≤zar.len∧i= .int .i64 ((j:Nat)-1)∧s= .slice As (S++(zar.lts.drop j).reverse).length cs∧Rw 63 4 (.slice As (S++(zar.lts.drop j).reverse).length cs) (S++(zar.lts.drop j).reverse).length (Qfa (S++(zar.lts.drop j).reverse)) Os∧St M w0 ((b24,.cells [.int .i64 zk,.int .i64 zn,.string zs,.slice zA zar.len zc].toArray 63)::(Os++((b5,.cells (tcs v).toArray 63)::(b6,.cells (tcs u).toArray 63)::(b4,.cells (tcs p.1++tcs p.2).toArray 218)::(b2,.cells (tcs b).toArray 63)::(b1,.cells (tcs a).toArray 63)::(g,.cells (pcs (L++[p])++sp).toArray 218)::H))) F' w') (fun j=>j) (zar.len) ?_ Yb Yb ?_
     ·exact ⟨_,_,_,Nat.le_refl _,rfl,rfl,by rw [hd0];simpa using hrowS,hS⟩
     clear hS
     rintro j i s w10 jv4 ⟨As,cs,Os,hj,hi,hs,hrw,hS⟩ ih3
     subst hi hs
     cases j with
     |zero=>
      have e0:S++(zar.lts.drop 0).reverse=S++zar.lts.reverse:=rfl
      rw [e0] at hrw
      refine ZdI ?_
      refine ZaM ?_
      refine ih2 (S++zar.lts.reverse,wq+1) _ _ _ _ ?_ ?_ Yb Yb Yc
      ·show 401-(wq+1)<401-wq;omega
      ·refine ⟨As,cs,Os,rfl,by congr 1;show (400:Int)-(wq:Nat)-1=400-((wq+1:Nat):Int);omega,?_,by show wk<wq+1;omega,by show wq+1≤400;omega,?_,?_,hrw,hS.drop⟩
       ·show QbN _ _ ((S++zar.lts.reverse).reverse.map LT.tm) _=ro
        rw [List.reverse_append,List.reverse_reverse,List.map_append];exact hoc3
       ·show (S++zar.lts.reverse).length≤24*(wq+1)+1
        rw [List.length_append,List.length_reverse,TA.lts_len];omega
       ·intro x hx
        rcases List.mem_append.1 hx with hx|hx
        ·exact hATS x hx
        ·have hx:=List.mem_reverse.1 hx
         exact ⟨fun w hw=>(hzz2 w hw).lts x hx,htg x hx⟩
     |succ j=>
      obtain ⟨D,R,x,hDx,hDl⟩:=TA.at_split zar j Ya
      have hzA:Und F' (ArA zA zc (D.app (.cons x.k x.n x.s x.A x.c x.ar R))):=by rw [←hDx];exact hzz2
      obtain ⟨bk,ok,rfl⟩:=(hS.und hzA).some_ (by rw [TA.len_app];simp only [TA.len];omega)
      have hcc:∀{H'} w',St M w0 H' F' w'→_:=fun w' hS=>(hS.und hzA).cells
      have eix:(((j+1:Nat):Int)-1).toNat=D.len:=by omega
      rw [←eix] at hcc
      have hdj:zar.lts.drop j=x::zar.lts.drop (j+1):=by
       rw [hDx,TA.lts_app,←hDl,←TA.lts_len D]
       simp [TA.lts]
      have hgj:(S++(zar.lts.drop j).reverse)=(S++(zar.lts.drop (j+1)).reverse)++[x]:=by rw [hdj];simp
      have hzlen:(zar.lts.drop (j+1)).length≤24:=by rw [List.length_drop,TA.lts_len];omega
      refine ZdJ ?_
      refine Zx ?_
      refine ZdK ?_
      refine Zf ?_
      refine Zhh ?_
      refine ZaO ?_
      clear hS
      intro b25 wx54 hS
      refine ZhG ?_
      clear hS
      intro v9 O9 w11 hrow9 hS
      obtain ⟨A9,c9,rfl,_⟩:=hrow9.form
      replace hS:=(hS.perm (List.perm_append_comm_assoc O9 [_,_] _)).drop
      refine ZeD ?_
      refine ih3 j _ _ _ _ ?_ ?_ Yb Yb Yc
      ·omega
      ·refine ⟨A9,c9,O9,by omega,by congr 1;show (((j+1:Nat):Int)-1)-1=(j:Nat)-1;omega,?_,?_,hS⟩
       ·rw [hgj,List.length_append (bs:=[x])];rfl
       ·rw [hgj,List.length_append (bs:=[x]),Qb7]
        have:Qfa [x]=tcs x:=by simp [Qfa]
        rw [this];exact hrow9
   ·have hoc3:QbN (QK E) v.tm.n (zz.ar.lts.map LT.tm++S.reverse.map LT.tm) (wq+1)=ro:=by
     have hh:=Qlc (v:=v.tm.n) (S.reverse.map LT.tm) (w:=wq) Ya (show (Qc (QK E) z.tm).k≠0 by rw [←hzz1];exact kz)
     rw [hoc2,←hzz1] at hh
     rw [TA.lts_tm];exact hh.symm
    refine Zc ?_
    clear hS
    intro wx53 hS
    refine ZdL ?_
    refine Zas ?_
    refine ZfB ?_
    refine ZC ?_
    refine Zk ?_
    refine ZdK ?_
    refine ZdH ?_
    have hd0:zz.ar.lts.drop zz.ar.len=[]:=by rw [←TA.lts_len];simp
    have htg:=Qf1 (T:=zz.ar) (Qax _ tzz)
    rw [show ((((S++[z]).length:Nat):Int)-1).toNat=(S++(zz.ar.lts.drop zz.ar.len).reverse).length by rw [hd0];simp]
    obtain ⟨zk,zn,zs,zA,zc,zar⟩:=zz
    dsimp only at hzl hd0 htg hoc3
    refine Qx 16 14 (126::127::130::131::132::133::134::135::136::137::128::129::[]) (fun (j:Nat) i s w'=>∃(As:Option Addr) (cs:Nat) (Os:List (Nat×Obj)),j≤zar.len∧i= .int .i64 ((j:Nat)-1)∧s= .slice As (S++(zar.lts.drop j).reverse).length cs∧Rw 63 4 (.slice As (S++(zar.lts.drop j).reverse).length cs) (S++(zar.lts.drop j).reverse).length (Qfa (S++(zar.lts.drop j).reverse)) Os∧St M w0 ((b24,.cells [.int .i64 zk,.int .i64 zn,.string zs,.slice zA zar.len zc].toArray 63)::(Os++((b5,.cells (tcs v).toArray 63)::(b6,.cells (tcs u).toArray 63)::(b4,.cells (tcs p.1++tcs p.2).toArray 218)::(b2,.cells (tcs b).toArray 63)::(b1,.cells (tcs a).toArray 63)::(g,.cells (pcs (L++[p])++sp).toArray 218)::H))) F' w') (fun j=>j) (zar.len) ?_ Yb Yb ?_
    ·exact ⟨_,_,_,Nat.le_refl _,rfl,rfl,by rw [hd0];simpa using hrowS,hS⟩
    clear hS
    rintro j i s w10 jv4 ⟨As,cs,Os,hj,hi,hs,hrw,hS⟩ ih3
    subst hi hs
    cases j with
    |zero=>
     have e0:S++(zar.lts.drop 0).reverse=S++zar.lts.reverse:=rfl
     rw [e0] at hrw
     refine ZdI ?_
     refine ZaM ?_
     refine ih2 (S++zar.lts.reverse,wq+1) _ _ _ _ ?_ ?_ Yb Yb Yc
     ·show 401-(wq+1)<401-wq;omega
     ·refine ⟨As,cs,Os,rfl,by congr 1;show (400:Int)-(wq:Nat)-1=400-((wq+1:Nat):Int);omega,?_,by show wk<wq+1;omega,by show wq+1≤400;omega,?_,?_,hrw,hS.drop⟩
      ·show QbN _ _ ((S++zar.lts.reverse).reverse.map LT.tm) _=ro
       rw [List.reverse_append,List.reverse_reverse,List.map_append];exact hoc3
      ·show (S++zar.lts.reverse).length≤24*(wq+1)+1
       rw [List.length_append,List.length_reverse,TA.lts_len];omega
      ·intro x hx
       rcases List.mem_append.1 hx with hx|hx
       ·exact hATS x hx
       ·have hx:=List.mem_reverse.1 hx
        exact ⟨fun w hw=>(hzz2 w hw).lts x hx,htg x hx⟩
    |succ j=>
     obtain ⟨D,R,x,hDx,hDl⟩:=TA.at_split zar j Ya
     have hzA:Und F' (ArA zA zc (D.app (.cons x.k x.n x.s x.A x.c x.ar R))):=by rw [←hDx];exact hzz2
     obtain ⟨bk,ok,rfl⟩:=(hS.und hzA).some_ (by rw [TA.len_app];simp only [TA.len];omega)
     have hcc:∀{H'} w',St M w0 H' F' w'→_:=fun w' hS=>(hS.und hzA).cells
     have eix:(((j+1:Nat):Int)-1).toNat=D.len:=by omega
     rw [←eix] at hcc
     have hdj:zar.lts.drop j=x::zar.lts.drop (j+1):=by
      rw [hDx,TA.lts_app,←hDl,←TA.lts_len D]
      simp [TA.lts]
     have hgj:(S++(zar.lts.drop j).reverse)=(S++(zar.lts.drop (j+1)).reverse)++[x]:=by rw [hdj];simp
     have hzlen:(zar.lts.drop (j+1)).length≤24:=by rw [List.length_drop,TA.lts_len];omega
     refine ZdJ ?_
     refine Zx ?_
     refine ZdK ?_
     refine Zf ?_
     refine Zhh ?_
     refine ZaO ?_
     clear hS
     intro b25 wx54 hS
     refine ZhG ?_
     clear hS
     intro v9 O9 w11 hrow9 hS
     obtain ⟨A9,c9,rfl,_⟩:=hrow9.form
     replace hS:=(hS.perm (List.perm_append_comm_assoc O9 [_,_] _)).drop
     refine ZeD ?_
     refine ih3 j _ _ _ _ ?_ ?_ Yb Yb Yc
     ·omega
     ·refine ⟨A9,c9,O9,by omega,by congr 1;show (((j+1:Nat):Int)-1)-1=(j:Nat)-1;omega,?_,?_,hS⟩
      ·rw [hgj,List.length_append (bs:=[x])];rfl
      ·rw [hgj,List.length_append (bs:=[x]),Qb7]
       have:Qfa [x]=tcs x:=by simp [Qfa]
       rw [this];exact hrow9
  have kv':(Qc (QK E) p.2.tm).k≠0:=by rw [←hv1];exact kv
  have hno:¬(u.k=v.k∧u.n=v.n∧u.s=v.s∧u.ar.len=v.ar.len)→r=⟨false,QK E,wk+1⟩:=fun hh=>by
   have:=Qyp (L.reverse.map Qo7) (w:=wk) Ya ku' kv' (by
    rw [←hu1,←hv1]
    rintro ⟨x1,x2,x3,x4⟩
    exact hh ⟨x1,x2,x3,by rw [←TA.len_ts,←TA.len_ts];exact x4⟩)
   exact hrun2.symm.trans this
  have hul:u.ar.len≤24:=by
   have h1:=tu.2
   have h2:=Ts.length_le u.ar.ts
   rw [TA.len_ts] at h2
   have h3:u.ar.ts.nodes+1≤24:=h1
   omega
  have hvl:v.ar.len≤24:=by
   have h1:=tv'.2
   have h2:=Ts.length_le v.ar.ts
   rw [TA.len_ts] at h2
   have h3:v.ar.ts.nodes+1≤24:=h1
   omega
  by_cases q1:¬(u.k=v.k)
  ·skip
   refine ZfX ?_
   refine Zcv ?_
   refine Zcv ?_
   refine Zdi ?_
   refine Zar ?_
   refine Zas ?_
   refine Zz ?_
   refine Zdk ?_
   refine ZfH ?_
   refine ZeE ?_
   refine Zav ?_
   refine Zcu ?_
   refine ⟨E,F',400-(wk:Nat)-1,hF,hS.drop.drop.drop.drop.drop.drop,fun h=> ?_,fun h=> ?_,fun h h'=> ?_⟩
   ·rw [hno (fun h=>q1 h.1)] at h;exact absurd h (by show¬400<wk+1;omega)
   ·rw [hno (fun h=>q1 h.1)];exact ⟨by show (400:Int)-(wk:Nat)-1=400-((wk+1:Nat):Int);omega,rfl⟩
   ·rw [hno (fun h=>q1 h.1)] at h';cases h'
  replace q1:=Decidable.not_not.1 q1
  by_cases q2:¬(u.n=v.n)
  ·skip
   refine ZfX ?_
   refine Zcv ?_
   refine Zcv ?_
   refine Zdi ?_
   refine Zar ?_
   refine Zas ?_
   refine ZcQ ?_
   refine Zf0 ?_
   refine Zz ?_
   refine ZfH ?_
   refine ZeE ?_
   refine Zav ?_
   refine Zcu ?_
   refine ⟨E,F',400-(wk:Nat)-1,hF,hS.drop.drop.drop.drop.drop.drop,fun h=> ?_,fun h=> ?_,fun h h'=> ?_⟩
   ·rw [hno (fun h=>q2 h.2.1)] at h;exact absurd h (by show¬400<wk+1;omega)
   ·rw [hno (fun h=>q2 h.2.1)];exact ⟨by show (400:Int)-(wk:Nat)-1=400-((wk+1:Nat):Int);omega,rfl⟩
   ·rw [hno (fun h=>q2 h.2.1)] at h';cases h'
  replace q2:=Decidable.not_not.1 q2
  by_cases q3:¬(u.s=v.s)
  ·skip
   refine ZfX ?_
   refine Zcv ?_
   refine Zcv ?_
   refine Zdi ?_
   refine Zar ?_
   refine Zas ?_
   refine ZcQ ?_
   refine Zf0 ?_
   refine Zz ?_
   refine Zbz ?_
   refine Zf1 ?_
   refine Zf1 ?_
   refine ZaZ ?_
   refine ZeE ?_
   refine Zav ?_
   refine Zcu ?_
   refine ⟨E,F',400-(wk:Nat)-1,hF,hS.drop.drop.drop.drop.drop.drop,fun h=> ?_,fun h=> ?_,fun h h'=> ?_⟩
   ·rw [hno (fun h=>q3 h.2.2.1)] at h;exact absurd h (by show¬400<wk+1;omega)
   ·rw [hno (fun h=>q3 h.2.2.1)];exact ⟨by show (400:Int)-(wk:Nat)-1=400-((wk+1:Nat):Int);omega,rfl⟩
   ·rw [hno (fun h=>q3 h.2.2.1)] at h';cases h'
  replace q3:=Decidable.not_not.1 q3
  by_cases q4:¬(u.ar.len=v.ar.len)
  ·skip
   refine ZfX ?_
   refine Zcv ?_
   refine Zcv ?_
   refine Zdi ?_
   refine Zar ?_
   refine Zas ?_
   refine ZcQ ?_
   refine Zf0 ?_
   refine Zz ?_
   refine Zbz ?_
   refine Zf1 ?_
   refine Zf1 ?_
   refine ZaZ ?_
   refine Zbz ?_
   refine Zf2 ?_
   refine Zfh ?_
   refine ZbK ?_
   refine Zf2 ?_
   refine Zfh ?_
   refine ZbK ?_
   refine Zz ?_
   refine Zav ?_
   refine Zcu ?_
   refine ⟨E,F',400-(wk:Nat)-1,hF,hS.drop.drop.drop.drop.drop.drop,fun h=> ?_,fun h=> ?_,fun h h'=> ?_⟩
   ·rw [hno (fun h=>q4 h.2.2.2)] at h;exact absurd h (by show¬400<wk+1;omega)
   ·rw [hno (fun h=>q4 h.2.2.2)];exact ⟨by show (400:Int)-(wk:Nat)-1=400-((wk+1:Nat):Int);omega,rfl⟩
   ·rw [hno (fun h=>q4 h.2.2.2)] at h';cases h'
  replace q4:=Decidable.not_not.1 q4
  clear hno
  have hrd:Qli ((u.ar.lts.zip v.ar.lts).map Qo7++L.reverse.map Qo7) (QK E) (wk+1)=r:=by
   have:=Qyq (L.reverse.map Qo7) (w:=wk) Ya ku' kv' (by
    rw [←hu1,←hv1]
    exact ⟨q1,q2,q3,by show u.ar.ts.length=v.ar.ts.length;rw [TA.len_ts,TA.len_ts];exact q4⟩)
   rw [←hu1,←hv1] at this
   rw [Qth,TA.lts_tm,TA.lts_tm]
   exact this.symm.trans hrun2
  have hzl:(u.ar.lts.zip v.ar.lts).length=u.ar.len:=by rw [List.length_zip,TA.lts_len,TA.lts_len];omega
  have hd0:(u.ar.lts.zip v.ar.lts).drop u.ar.len=[]:=by rw [←hzl];simp
  have htu:=Qf1 (T:=u.ar) (Qax _ tu)
  have htv:=Qf1 (T:=v.ar) (Qax _ tv')
  replace hS:=hS.perm (List.Perm.append_left [_,_] (List.perm_append_comm_assoc [_,_,_] [_] H))
  refine ZfX ?_
  refine Zcv ?_
  refine Zcv ?_
  refine Zdi ?_
  refine Zar ?_
  refine Zas ?_
  refine ZcQ ?_
  refine Zf0 ?_
  refine Zz ?_
  refine Zbz ?_
  refine Zf1 ?_
  refine Zf1 ?_
  refine ZaZ ?_
  refine Zbz ?_
  refine Zf2 ?_
  refine Zfh ?_
  refine ZbK ?_
  refine Zf2 ?_
  refine Zfh ?_
  refine ZbK ?_
  refine Zz ?_
  refine ZC ?_
  refine Zk ?_
  refine ZdK ?_
  refine ZdH ?_
  rw [show ((((L++[p]).length:Nat):Int)-1).toNat=(L++((u.ar.lts.zip v.ar.lts).drop u.ar.len).reverse).length by rw [hd0];simp]
  obtain ⟨uk,un,us,uA,uc,uar⟩:=u
  obtain ⟨vk,vn,vs,vA,vc,var⟩:=v
  dsimp only at hzl hd0 htu htv hrd hul hvl q4
  refine Qx 17 10 (178::179::182::183::184::185::186::187::188::189::190::191::192::193::194::195::180::181::[]) (fun (j:Nat) i s w'=>∃(As:Option Addr) (cs:Nat) (Os:List (Nat×Obj)),j≤uar.len∧i= .int .i64 ((j:Nat)-1)∧s= .slice As (L++((uar.lts.zip var.lts).drop j).reverse).length cs∧Rw 218 8 (.slice As (L++((uar.lts.zip var.lts).drop j).reverse).length cs) (L++((uar.lts.zip var.lts).drop j).reverse).length (pcs (L++((uar.lts.zip var.lts).drop j).reverse)) Os∧St M w0 ((b5,.cells [.int .i64 uk,.int .i64 un,.string us,.slice uA uar.len uc].toArray 63)::(b6,.cells [.int .i64 vk,.int .i64 vn,.string vs,.slice vA var.len vc].toArray 63)::(Os++((b4,.cells (tcs p.1++tcs p.2).toArray 218)::(b2,.cells (tcs b).toArray 63)::(b1,.cells (tcs a).toArray 63)::H))) F' w') (fun j=>j) (uar.len) ?_ Yb Yb ?_
  ·exact ⟨_,_,_,Nat.le_refl _,rfl,rfl,by rw [hd0];simpa using hrowL,hS⟩
  clear hS
  rintro j i s w10 jv4 ⟨As,cs,Os,hj,hi,hs,hrw,hS⟩ ih3
  subst hi hs
  cases j with
  |zero=>
   have e0:L++((uar.lts.zip var.lts).drop 0).reverse=L++(uar.lts.zip var.lts).reverse:=rfl
   rw [e0] at hrw
   refine ZdI ?_
   refine ZaM ?_
   refine ih (L++(uar.lts.zip var.lts).reverse,E,wk+1) _ _ _ _ _ ?_ ?_ Yb Yb Yb Yc
   ·show 401-(wk+1)<401-wk;omega
   ·refine ⟨As,cs,Os,F',rfl,by congr 1;show (400:Int)-(wk:Nat)-1=400-((wk+1:Nat):Int);omega,rfl,?_,by show wk+1≤400;omega,?_,hF,hE,?_,hrw,(hS.drop.drop.perm ((List.perm_append_comm_assoc Os [_] _).trans (List.Perm.cons _ (List.perm_append_comm_assoc Os [_,_] H)))).drop⟩
    ·show Qli ((L++(uar.lts.zip var.lts).reverse).reverse.map Qo7) _ _=r
     rw [List.reverse_append,List.reverse_reverse,List.map_append];exact hrd
    ·show (L++(uar.lts.zip var.lts).reverse).length≤24*(wk+1)+1
     rw [List.length_append,List.length_reverse,hzl];omega
    ·intro x hx
     rcases List.mem_append.1 hx with hx|hx
     ·exact hAL x hx
     ·have hx:=List.mem_reverse.1 hx
      have hx1:=List.of_mem_zip (a:=x.1) (b:=x.2) hx
      exact ⟨fun w hw=>(hu2 w hw).lts x.1 hx1.1,fun w hw=>(hv2 w hw).lts x.2 hx1.2,htu x.1 hx1.1,htv x.2 hx1.2⟩
  |succ j=>
   obtain ⟨D,R,x,hDx,hDl⟩:=TA.at_split uar j Ya
   obtain ⟨D2,R2,y,hDy,hDl2⟩:=TA.at_split var j Ya
   have hA1:Und F' (ArA uA uc (D.app (.cons x.k x.n x.s x.A x.c x.ar R))):=by rw [←hDx];exact hu2
   have hA2:Und F' (ArA vA vc (D2.app (.cons y.k y.n y.s y.A y.c y.ar R2))):=by rw [←hDy];exact hv2
   obtain ⟨bk,ok,rfl⟩:=(hS.und hA1).some_ (by rw [TA.len_app];simp only [TA.len];omega)
   obtain ⟨bk2,ok2,rfl⟩:=(hS.und hA2).some_ (by rw [TA.len_app];simp only [TA.len];omega)
   have hcc:∀{H'} w',St M w0 H' F' w'→_:=fun w' hS=>(hS.und hA1).cells
   have hcd:∀{H'} w',St M w0 H' F' w'→_:=fun w' hS=>(hS.und hA2).cells
   have eix:(((j+1:Nat):Int)-1).toNat=D.len:=by omega
   have eix2:(((j+1:Nat):Int)-1).toNat=D2.len:=by omega
   rw [←eix] at hcc
   rw [←eix2] at hcd
   have hxl:uar.lts.drop j=x::R.lts:=by rw [hDx,TA.lts_app,←hDl,←TA.lts_len D];simp [TA.lts]
   have hyl:var.lts.drop j=y::R2.lts:=by rw [hDy,TA.lts_app,←hDl2,←TA.lts_len D2];simp [TA.lts]
   have hdj:(uar.lts.zip var.lts).drop j=(x,y)::(uar.lts.zip var.lts).drop (j+1):=by
    have e1:(uar.lts.zip var.lts).drop j=(x,y)::R.lts.zip R2.lts:=by rw [QoL,hxl,hyl];rfl
    have e2:(uar.lts.zip var.lts).drop (j+1)=R.lts.zip R2.lts:=by rw [←List.drop_drop,e1];rfl
    rw [e1,e2]
   have hgj:L++((uar.lts.zip var.lts).drop j).reverse=(L++((uar.lts.zip var.lts).drop (j+1)).reverse)++[(x,y)]:=by rw [hdj];simp
   have hzlen:((uar.lts.zip var.lts).drop (j+1)).length≤24:=by rw [List.length_drop,hzl];omega
   refine ZdJ ?_
   refine QbW 10 (182::183::184::185::186::187::188::189::190::191::192::193::194::195::[]) (fun s w'=>∃(A9:Option Addr) (c9:Nat) (O9:List (Nat×Obj)),s= .slice A9 ((L++((uar.lts.zip var.lts).drop (j+1)).reverse).length+1) c9∧Rw 218 8 (.slice A9 ((L++((uar.lts.zip var.lts).drop (j+1)).reverse).length+1) c9) ((L++((uar.lts.zip var.lts).drop (j+1)).reverse).length+1) (pcs (L++((uar.lts.zip var.lts).drop (j+1)).reverse)++pcs [(x,y)]) O9∧St M w0 ((b5,.cells [.int .i64 uk,.int .i64 un,.string us,.slice (some ⟨bk,ok,none⟩) uar.len uc].toArray 63)::(b6,.cells [.int .i64 vk,.int .i64 vn,.string vs,.slice (some ⟨bk2,ok2,none⟩) var.len vc].toArray 63)::(O9++((b4,.cells (tcs p.1++tcs p.2).toArray 218)::(b2,.cells (tcs b).toArray 63)::(b1,.cells (tcs a).toArray 63)::H))) F' w') ?_ ?_
   ·intro hmeet
    refine QaS (fun w=>∃O:List (Nat×Obj),St M w0 ((b5,.cells [.int .i64 uk,.int .i64 un,.string us,.slice (some ⟨bk,ok,none⟩) uar.len uc].toArray 63)::(b6,.cells [.int .i64 vk,.int .i64 vn,.string vs,.slice (some ⟨bk2,ok2,none⟩) var.len vc].toArray 63)::(O++((b4,.cells (tcs p.1++tcs p.2).toArray 218)::(b2,.cells (tcs b).toArray 63)::(b1,.cells (tcs a).toArray 63)::H))) F' w) 15 (.read 0 (.read 1 (.read 2 (.read 3 (.read 4 (.read 5 (.read 6 (.read 7 (.read 8 (.read 9 (.read 10 (.read 11 (.pick 12 (.pick 13 (.read 14 .tail) .none) .none))))))))))))) Yc Yc ⟨_,hS.drew⟩ ?_
    replace hS:=hS.drew
    refine ZbC ?_
    refine ZgH ?_
    refine Zjy ?_
    refine ZbC ?_
    refine Zjz ?_
    refine ZjA ?_
    refine ZgH ?_
    refine Zjy ?_
    refine ZbC ?_
    refine Zjz ?_
    refine ZjA ?_
    refine Qj rfl (fun _ ⟨_,hS⟩=>QD (cells:=[_,_,_,_,_,_,_,_]) (.cons Yb (.cons Yb .nil)) rfl) rfl ?_
    refine Zay ?_
    refine Zjw ?_
    clear hS
    intro b23 wx48 hS
    refine QcT (by first|exact ⟨_,hS⟩|exact ⟨_,hS.drop⟩) ?_
    refine Zay ?_
    refine QuP (u:=(x,y)) hS Yb Yi rfl rfl rfl (QG.own (sp:=[]) (hS.own (_,_) (.head _)) rfl (Nat.le_refl _)) hrw (List.perm_append_comm_assoc [_,_,_] Os _) (by rw [List.length_append,List.length_reverse];omega) rfl ?_
    clear hS
    intro v9 O9 w11 hrow9 hS
    obtain ⟨A9,c9,rfl,_⟩:=hrow9.form
    replace hS:=hS.perm (List.perm_append_comm_assoc O9 [_,_,_] _)
    refine QcT (by first|exact ⟨_,hS⟩|exact ⟨_,hS.drop⟩) ?_
    refine Qj rfl (fun _ ⟨_,hS⟩=>Qfr Yb) rfl ?_
    refine Zky ?_
    exact hmeet _ _ _ ⟨A9,c9,O9,rfl,hrow9,hS.drop⟩ Yb Yc
   clear hS
   rintro jv5 _ w12 ⟨A9,c9,O9,rfl,hrow9,hS⟩
   refine ZaM ?_
   refine ZkC ?_
   refine ih3 j _ _ _ _ ?_ ?_ Yb Yb Yc
   ·omega
   ·refine ⟨A9,c9,O9,by omega,by congr 1;show (((j+1:Nat):Int)-1)-1=(j:Nat)-1;omega,?_,?_,hS⟩
    ·rw [hgj,List.length_append (bs:=[(x,y)])];rfl
    ·rw [hgj,List.length_append (bs:=[(x,y)]),QjR];exact hrow9
end
end Go.Proofs.YthliapbflkfdiacGreatDoor
