/- Steps of the proof. -/
import Derived.Test.YthliapbflkfdiacGreatDoorG11
namespace Go.Proofs.YthliapbflkfdiacGreatDoor
open Go.RowKit
set_option linter.unusedVariables false
set_option linter.unusedSimpArgs false
set_option maxRecDepth 100000
set_option maxHeartbeats 1000000
def pcs:List (LT×LT)→List Value
 |[]=>[]
 |p::r=>tcs p.1++(tcs p.2++pcs r)
theorem QlN:∀L,(pcs L).length=L.length*8
 |[]=>rfl
 |p::r=>by simp only [pcs,List.length_append,QlN r,List.length_cons];show 4+(4+_)=_;omega
theorem Qg3:∀L K,pcs (L++K)=pcs L++pcs K
 |[],K=>rfl
 |p::r,K=>by simp only [pcs,List.cons_append,Qg3 r K,List.append_assoc]
theorem QpD:∀L,(pcs L).all (·.oneCell')=true
 |[]=>rfl
 |p::r=>by simp only [pcs,List.all_append,QpD r,Bool.and_true];rfl
theorem Rw.cutS {el sz len cap k:Nat} {A:Option Addr} {xs ys:List Value} {O:List (Nat×Obj)} (h:Rw el sz (.slice A (len+k) cap) (len+k) (xs++ys) O) (hx:xs.length=len*sz) (hk:0<k):Rw el sz (.slice A len cap) len xs O:=by
 generalize hz:xs++ys=zs at h;generalize hn:len+k=m at h
 cases h with
 |zero_=>omega
 |own_ hx2 hc hle hcp=>
  rename_i b sp;subst hz;rw [List.append_assoc] at hc⊢;exact Rw.own_ hx hc Ya hcp
theorem QcX {α:Type}:∀L:List α,L=[]∨∃K p,L=K++[p]
 |[]=> .inl rfl
 |x::r=>by
  rcases QcX r with rfl|⟨K,p,rfl⟩
  ·exact .inr ⟨[],x,rfl⟩
  ·exact .inr ⟨x::K,p,rfl⟩
theorem Qt0:∀(X vs Z:List Value) (o k:Nat),X.length=o→vs.length=k→Cut (X++(vs++Z)) o k vs
 |[],vs,Z,o,k,h,hk=>by
  obtain rfl:o=0:=by simpa using h.symm
  subst hk
  induction vs with
  |nil=>exact .z
  |cons v vs ih=>exact .t ih
 |x::X,vs,Z,o,k,h,hk=>by
  obtain ⟨o,rfl⟩:∃o',o=o'+1:=⟨o-1,by simp at h;omega⟩
  exact .s (Qt0 X vs Z o k YY hk)
def Qlj (p:LT×LT):Tm×Tm:=(p.1.tm,p.2.tm)
def QtZ (F:List (World→Prop)) (L:List (LT×LT)):Prop:=∀p∈L,Und F (LRd p.1)∧Und F (LRd p.2)∧tgd p.1.tm∧tgd p.2.tm
structure EOk (F:List (World→Prop)) (E:List EN):Prop where
 rd:Und F (ERd tyE E)
 ok:Bok (Qx E)
 gd:∀x∈Qx E,tgd x.2
theorem QmB {t:Tm} (h:tgd t) (hk:t.k=0):0≤t.n∧t.n<549755813888:=by
 have:=h.1;simp only [Ts.good,Bool.and_eq_true] at this;have hn:=this.1.1;unfold Qai at hn;rw [if_pos hk] at hn;simp only [Bool.and_eq_true,decide_eq_true_eq] at hn;exact ⟨hn.1.1.1,hn.1.1.2⟩
theorem QsL {n:Int} (h0:0≤n) (h1:n<549755813888):tgd ⟨0,n,⟨#[]⟩,.nil⟩:=by
 refine ⟨?_,by simp [Ts.nodes]⟩;simp only [Ts.good,Bool.and_eq_true,and_true];unfold Qai;rw [if_pos rfl];simp only [Bool.and_eq_true,decide_eq_true_eq];exact ⟨⟨⟨h0,h1⟩,Q7 []⟩,rfl⟩
theorem QrG {B:Bnd} (hB:Bok B) {a b:Tm} (ka:(Qc B a).k=0) (kb:(Qc B b).k=0) (hn:(Qc B a).n≠(Qc B b).n):Bok ((max (Qc B a).n (Qc B b).n,⟨0,min (Qc B a).n (Qc B b).n,⟨#[]⟩,.nil⟩)::B):=by
 have fa:=Qa0 hB a ka;have fb:=Qa0 hB b kb;refine ⟨?_,fun _=>⟨?_,?_⟩,hB⟩
 ·show QbQ (max _ _) B=none;rcases Int.le_total (Qc B a).n (Qc B b).n with h|h
  ·rw [Int.max_eq_right h];exact fb
  ·rw [Int.max_eq_left h];exact fa
 ·show min (Qc B a).n (Qc B b).n≠max (Qc B a).n (Qc B b).n;omega
 ·show QbQ (min _ _) B=none;rcases Int.le_total (Qc B a).n (Qc B b).n with h|h
  ·rw [Int.min_eq_left h];exact fa
  ·rw [Int.min_eq_right h];exact fb
theorem EOk.cons {F:List (World→Prop)} {E:List EN} {v:Int} {t:LT} {bk:Nat} (hE:EOk F E) (ht:Und F (LRd t)) (hg:tgd t.tm) (hB:Bok ((v,t.tm)::Qx E)):EOk ((fun w=>w.heap[bk]?=some (.cells (ecs v t (Qen E)).toArray tyE))::F) (⟨v,t,bk⟩::E):=
 ⟨fun w hw=>⟨hw _ (.head _),ht w fun φ h=>hw φ (.tail _ h),hE.rd w fun φ h=>hw φ (.tail _ h)⟩,hB,fun x hx=>by
  rcases List.mem_cons.1 hx with rfl|hx
  ·exact hg
  ·exact hE.gd x hx⟩
theorem QtZ.tail {F:List (World→Prop)} {L:List (LT×LT)} {φ:World→Prop} (h:QtZ F L):QtZ (φ::F) L:=fun p hp=>⟨(h p hp).1.tail,(h p hp).2.1.tail,(h p hp).2.2⟩
def TA.lts:TA→List LT
 | .nil=>[]
 | .cons k n s A c ar r=>⟨k,n,s,A,c,ar⟩::r.lts
theorem TA.lts_tm (T:TA):T.lts.map LT.tm=T.ts.tms:=by
 induction T with
 |nil=>rfl
 |cons k n s A c ar r _ ih=>simp only [TA.lts,List.map_cons,ih];rfl
theorem TA.lts_len (T:TA):T.lts.length=T.len:=by
 induction T with
 |nil=>rfl
 |cons k n s A c ar r _ ih=>simp only [TA.lts,List.length_cons,ih,TA.len]
theorem TA.lts_app (D R:TA):(D.app R).lts=D.lts++R.lts:=by
 induction D with
 |nil=>rfl
 |cons k n s A c ar r _ ih=>simp only [TA.app,TA.lts,ih,List.cons_append]
theorem TA.at_split:∀(T:TA) (j:Nat),j<T.len→∃(D R:TA) (x:LT),T=D.app (.cons x.k x.n x.s x.A x.c x.ar R)∧D.len=j
 | .nil,j,h=>by simp [TA.len] at h
 | .cons k n s A c ar r,0,_=>⟨.nil,r,⟨k,n,s,A,c,ar⟩,rfl,rfl⟩
 | .cons k n s A c ar r,j+1,h=>by
  obtain ⟨D,R,x,e,hl⟩:=TA.at_split r j (by simpa [TA.len] using h);exact ⟨.cons k n s A c ar D,R,x,by rw [e];rfl,by simp only [TA.len,hl]⟩
def Qdt:List LT→List Value
 |[]=>[]
 |t::r=>tcs t++Qdt r
theorem QeP:∀L,(Qdt L).length=L.length*4
 |[]=>rfl
 |t::r=>by simp only [Qdt,List.length_append,QeP r,List.length_cons];show 4+_=_;omega
theorem Qbi:∀L K,Qdt (L++K)=Qdt L++Qdt K
 |[],K=>rfl
 |t::r,K=>by simp only [Qdt,List.cons_append,Qbi r K,List.append_assoc]
def Qt5 (F:List (World→Prop)) (L:List LT):Prop:=∀t∈L,Und F (LRd t)∧tgd t.tm
theorem Qeb {T:TA} (h:∀x,T.ts.Mem x→tgd x):∀x∈T.lts,tgd x.tm:=by
 induction T with
 |nil=>intro x hx;cases hx
 |cons k n s A c ar r _ ih=>
  intro x hx;rcases List.mem_cons.1 hx with rfl|hx
  ·exact h _ (.inl rfl)
  ·exact ih (fun y hy=>h y (.inr hy)) x hx
theorem ArA.lts {A:Option Addr} {c:Nat} {T:TA} {w:World} (h:ArA A c T w):∀x∈T.lts,LRd x w:=by
 have:=h.all;clear h
 induction T with
 |nil=>intro x hx;cases hx
 |cons k n s A c ar r _ ih=>
  intro x hx;rcases List.mem_cons.1 hx with rfl|hx
  ·exact this.1
  ·exact ih this.2 x hx
theorem Qi8 {P:Program} {n:Nat} {e:Env} {w:World} {Q:Exit→Act→World→Prop} {ops:Array Oper} {rest:List Oper} {ty:TypeId} {pos:String} {after:Array Edge} {d:Nat} {M:List Nat} {w0:World} {F:List (World→Prop)} {H H':List (Nat×Obj)} {x y:Operand} {v:Value} {t tx:TypeId} {el len c:Nat} {A:Option Addr} {u:LT} {xs:List Value} {O:List (Nat×Obj)} (hS:St M w0 H F w) (hx:ev n e x=v) (hy:ev n e y= .slice A 1 c)
  (hT:Qw P t=some el) (hTx:Qw P tx=some el) (hi:Qpu P el=some (4,56)) (hL:Qz 4 (tcs u) A 1 c w) (hrow:Rw el 4 v len xs O)
  (hP:H.Perm (O++H')) (hbig:len+1≤1099511627776) (hd:Nat.blt d n=true)
  (h:∀v' O' w',Rw el 4 v' (len+1) (xs++tcs u) O'→St M w0 (O'++H') F w'→Lst P Q ops rest n ((d,v')::e) w'):
  Lst P Q ops (⟨some d,.call ⟨.builtin .append, #[x,y], #[t,tx]⟩,ty,pos,after,none⟩::rest) n e w:=by
 obtain ⟨i,z,h2,h3,h4,h5,h6⟩:=QaG hi;refine QaR (k:=1) (ys:=tcs u) hS hx hy hT hTx h2 h3 h4 (by rw [h5];rfl) (by rw [h5];exact hL.src hTx rfl) Yau hP Yar Ya hd ?_;rw [h5];exact h
theorem QkY {α β:Type}:∀(l:List α) (m:List β) (n:Nat),(l.zip m).drop n=(l.drop n).zip (m.drop n)
 |l,m,0=>rfl
 |[],m,n+1=>by simp
 |_::_,[],n+1=>by simp
 |x::l,y::m,n+1=>by simp only [List.zip_cons_cons,List.drop_succ_cons];exact QkY l m n
theorem QoL:∀(l m:List LT),(l.zip m).map Qlj=(l.map LT.tm).zip (m.map LT.tm)
 |[],m=>by simp
 |_::_,[]=>by simp
 |x::l,y::m=>by simp only [List.zip_cons_cons,List.map_cons,QoL l m];rfl
theorem Qp0 {P:Program} {n:Nat} {e:Env} {w:World} {Q:Exit→Act→World→Prop} {ops:Array Oper} {rest:List Oper} {ty:TypeId} {pos:String} {after:Array Edge} {d:Nat} {M:List Nat} {w0:World} {F:List (World→Prop)} {H H':List (Nat×Obj)} {x y:Operand} {v:Value} {t tx:TypeId} {el len c:Nat} {A:Option Addr} {u:LT×LT} {xs:List Value} {O:List (Nat×Obj)} (hS:St M w0 H F w) (hx:ev n e x=v) (hy:ev n e y= .slice A 1 c)
  (hT:Qw P t=some el) (hTx:Qw P tx=some el) (hi:Qpu P el=some (8,112)) (hL:Qz 8 (pcs [u]) A 1 c w) (hrow:Rw el 8 v len xs O)
  (hP:H.Perm (O++H')) (hbig:len+1≤1099511627776) (hd:Nat.blt d n=true)
  (h:∀v' O' w',Rw el 8 v' (len+1) (xs++pcs [u]) O'→St M w0 (O'++H') F w'→Lst P Q ops rest n ((d,v')::e) w'):
  Lst P Q ops (⟨some d,.call ⟨.builtin .append, #[x,y], #[t,tx]⟩,ty,pos,after,none⟩::rest) n e w:=by
 obtain ⟨i,z,h2,h3,h4,h5,h6⟩:=QaG hi;refine QaR (k:=1) (ys:=pcs [u]) hS hx hy hT hTx h2 h3 h4 (by rw [h5];rfl) (by rw [h5];exact hL.src hTx (QpD _)) Yau hP Yar Ya hd ?_;rw [h5];exact h
def Qsz (M:List Nat) (w0:World) (H:List (Nat×Obj)) (F:List (World→Prop)) (r:Ug Bnd) (e:Ending) (w:World):Prop:=
 ∃(E':List EN) (F':List (World→Prop)) (k:Int),(∀φ∈F,φ∈F')∧St M w0 H F' w∧(400<r.w→k<0∧e= .returned (.tuple #[Qen E',.bool false,.int .i64 k]))∧(r.w≤400→k=400-(r.w:Nat)∧e= .returned (.tuple #[Qen E',.bool r.ok,.int .i64 k]))∧(r.w≤400→r.ok=true→Qx E'=r.s∧EOk F' E')
section
variable {M:List Nat} {w0:World} {H:List (Nat×Obj)} {F:List (World→Prop)}
theorem Qs0 (E : List EN) (a b : LT) (w : World) (hE : EOk F E) (ha : Und F (LRd a)) (hb : Und F (LRd b)) (ga : tgd a.tm) (gb : tgd b.tm) (hS : St M w0 H F w) :
  Calls Tryz.prog 105 #[Qen E,tv a,tv b] w (Qsz M w0 H F (Qa3 Qb4 401 a.tm b.tm (Qx E) 0)):=by
 generalize hr:Qa3 Qb4 401 a.tm b.tm (Qx E) 0=r
 have hr0:Qid ([(a,b)].reverse.map Qlj) (Qx E) 0=r:=by rw [←hr];exact Qrk a.tm b.tm (Qx E) 0
 refine QE Tryz.func105 rfl Tryz.ntmps105 rfl ?_;refine Zg ?_;clear hS;intro b1 wx1 hS;refine ZaX ?_;clear hS;intro b2 wx2 hS;refine Za2 ?_;refine Zl ?_;refine Zf ?_;refine ZaB ?_;refine ZaB ?_;refine Qa (QB (cells:=[_,_,_,_,_,_,_,_]) (.cons Yb (.cons Yb .nil)) rfl) rfl ?_;refine Zgu ?_;clear hS;intro b3 wx3 hS;refine Zd ?_;refine ZaE ?_;have hrl0:Rw 218 8 (.slice (some ⟨b3,0,none⟩) 1 1) 1 (pcs [(a,b)]) [(b3,.cells (pcs [(a,b)]++[]).toArray 218)]:=Rw.own_ rfl rfl (Nat.le_refl _) Ya;refine Qfw 10 9 0 (22::23::24::25::26::27::28::29::30::11::31::32::33::34::35::36::37::38::39::40::41::6::7::8::42::43::44::45::46::47::48::49::12::13::50::51::52::53::54::55::56::57::58::59::60::61::62::63::64::65::66::67::68::69::70::71::72::73::74::75::76::77::78::79::80::81::82::83::84::85::86::14::87::88::89::90::91::92::93::94::95::15::96::97::98::99::100::101::102::103::104::105::106::107::108::109::110::111::112::113::114::115::116::117::118::119::120::121::122::123::124::125::16::126::127::130::131::132::133::134::135::136::137::128::129::138::139::140::141::142::143::144::145::146::147::148::149::150::151::152::153::154::155::156::157::158::159::160::161::162::163::164::165::166::167::168::169::170::171::172::173::174::175::176::177::17::178::179::182::183::184::185::186::187::188::189::190::191::192::193::194::195::180::181::[]) (fun (x:List (LT×LT)×List EN×Nat) v y z w'=>∃(Al:Option Addr) (cl:Nat) (O:List (Nat×Obj)) (F':List (World→Prop)),v= .slice Al x.1.length cl∧y= .int .i64 (400-(x.2.2:Nat))∧z=Qen x.2.1∧Qid (x.1.reverse.map Qlj) (Qx x.2.1) x.2.2=r∧x.2.2≤400∧x.1.length≤24*x.2.2+1∧(∀φ∈F,φ∈F')∧EOk F' x.2.1∧QtZ F' x.1∧Rw 218 8 (.slice Al x.1.length cl) x.1.length (pcs x.1) O∧St M w0 ((b2,.cells (tcs b).toArray 63)::(b1,.cells (tcs a).toArray 63)::(O++H)) F' w') (fun x=>401-x.2.2) (([(a,b)],E,0)) ?_ Yb Yb Yb ?_
 ·exact ⟨_,_,_,F,rfl,rfl,rfl,hr0,by show 0≤400;omega,by simp,fun _ h=>h,hE,fun p hp=>by rw [List.mem_singleton.1 hp];exact ⟨ha,hb,ga,gb⟩,hrl0,hS.perm (List.perm_append_comm_assoc [_] [_,_] _)⟩
 clear hS hrl0 hr0 hE;rintro x v y z w2 jv ⟨Al,cl,O,F',hv,hy,hz,hrun,hwk,hLl,hF,hE,hAP,hrow,hS⟩ ih;obtain ⟨L,E,wk⟩:=x;dsimp only at hv hy hz hrun hwk hLl hE hAP hrow hS;subst hv hy hz;rcases QcX L with rfl|⟨L,p,rfl⟩
 ·have hr2:r=⟨true,Qx E,wk⟩:=by rw [←hrun];rfl
  refine Zfy ?_;refine ZaR ?_;refine ZeN ?_;refine ⟨E,F',400-(wk:Nat),hF,hS.drop.drop.dropN,fun h=> ?_,fun _=> ?_,fun _ _=> ?_⟩
  ·rw [hr2] at h;exact absurd h (by show¬400<wk;omega)
  ·rw [hr2];exact ⟨rfl,rfl⟩
  ·rw [hr2];exact ⟨rfl,hE⟩
 have hlp:(L++[p]).length=L.length+1:=by simp
 obtain ⟨h1,h2,t1,t2⟩:=hAP p Yd;have hAL:QtZ F' L:=fun q hq=>hAP q (by simp [hq]);obtain ⟨g,sp,rfl,rfl,hcap,hle,_⟩:=hrow.some_ Ya
 have hcut:Cut (pcs (L++[p])++sp) (0+((((L++[p]).length:Nat):Int)-1).toNat*8) 8 (tcs p.1++tcs p.2):=by
  have:=Qt0 (pcs L) (tcs p.1++tcs p.2) sp (0+((((L++[p]).length:Nat):Int)-1).toNat*8) 8 (by rw [QlN];omega) rfl;rw [Qg3];simpa [pcs] using this
 have hrowL:Rw 218 8 (.slice (some ⟨g,0,none⟩) L.length cl) L.length (pcs L) [(g,.cells (pcs (L++[p])++sp).toArray 218)]:=by
  rw [hlp,Qg3] at hrow;rw [Qg3];exact hrow.cutS (QlN L) Ya
 have hrun2:Qid (Qlj p::L.reverse.map Qlj) (Qx E) wk=r:=by rw [←hrun,List.reverse_append];rfl
 by_cases hw4:wk=400
 ·have hr2:r=⟨false,Qx E,wk+1⟩:=by rw [←hrun2];exact Qps (Qlj p) _ _ Ya
  refine ZdB ?_;refine Qa (QA (sz:=8) rfl rfl rfl rfl Ya Ya) rfl ?_;refine Zgv ?_;refine Qca (cs:=[_,_,_,_,_,_,_,_]) hS rfl rfl rfl ?_;clear hS;intro b4 wx4 hS;refine Zb ?_;clear hS;intro wx5 hS;refine ZdC ?_;refine Qa (QP (sz:=8) rfl rfl rfl rfl Ya Ya) rfl ?_;refine ZdD ?_;refine Zca ?_;refine ZeN ?_;refine ⟨E,F',400-(wk:Nat)-1,hF,hS.drop.drop.drop.drop,fun _=>⟨by omega,rfl⟩,fun h=> ?_,fun h=> ?_⟩
  ·rw [hr2] at h;exact absurd h (by show¬wk+1≤400;omega)
  ·rw [hr2] at h;exact absurd h (by show¬wk+1≤400;omega)
 refine ZdB ?_;refine Qa (QA (sz:=8) rfl rfl rfl rfl Ya Ya) rfl ?_;refine Zgv ?_;refine Qca (cs:=[_,_,_,_,_,_,_,_]) hS rfl rfl rfl ?_;clear hS;intro b4 wx4 hS;refine Zb ?_;clear hS;intro wx5 hS;refine ZdC ?_;refine Qa (QP (sz:=8) rfl rfl rfl rfl Ya Ya) rfl ?_;refine ZdD ?_;refine ZH ?_;refine Zz ?_;refine Zp ?_;refine QcN 12 13 (42::43::44::45::46::47::48::49::[]) (fun y z w'=>∃(b5 b6:Nat) (u v:LT),y= .pointer (some ⟨b5,0,none⟩)∧z= .pointer (some ⟨b6,0,none⟩)∧u.tm=Qc (Qx E) p.1.tm∧v.tm=Qc (Qx E) p.2.tm∧Und F' (LRd u)∧Und F' (LRd v)∧St M w0 ((b5,.cells (tcs u).toArray 63)::(b6,.cells (tcs v).toArray 63)::(b4,.cells (tcs p.1++tcs p.2).toArray 218)::(b2,.cells (tcs b).toArray 63)::(b1,.cells (tcs a).toArray 63)::([(g,.cells (pcs (L++[p])++sp).toArray 218)]++H)) F' w') ?_ ?_
 ·intro hmeet;refine QaA (St _ _ _ _) 10 (.read 0 (.read 1 (.read 2 (.read 4 (.read 5 (.read 6 (.pick 3 (.pick 7 (.pick 8 (.pick 9 .tail .none) (.pick 9 (.pick 8 .tail .none) .none)) (.pick 8 (.pick 7 (.pick 9 .tail .none) (.pick 9 (.pick 7 .tail .none) .none)) (.pick 9 (.pick 7 (.pick 8 .tail .none) (.pick 8 (.pick 7 .tail .none) .none)) .none))) (.pick 8 (.pick 3 (.pick 7 (.pick 9 .tail .none) (.pick 9 (.pick 7 .tail .none) .none)) (.pick 9 (.pick 3 (.pick 7 .tail .none) .none) .none)) (.pick 9 (.pick 3 (.pick 7 (.pick 8 .tail .none) (.pick 8 (.pick 7 .tail .none) .none)) (.pick 8 (.pick 3 (.pick 7 .tail .none) .none) .none)) .none))))))))) Yc Yc hS.drew ?_;replace hS:=hS.drew;refine ZaY ?_;refine Zbv ?_;refine Zgw ?_;refine ZaY ?_;refine Qh rfl (fun _ hS=>Qf (off:=4) rfl rfl) rfl ?_;refine Zgw ?_;refine Qs rfl ?_ ?_
  ·refine Zj ?_;refine Zej ?_;rintro _ w5 ⟨u,rfl,hu1,hu2,hu3,hS'⟩;refine Za ?_;replace hS:=hS';clear hS';refine ZC ?_;refine Qs rfl ?_ ?_
   ·refine Zj ?_;refine Zc9 ?_;rintro _ w6 ⟨v,rfl,hv1,hv2,hv3,hS'⟩;refine Za ?_;replace hS:=hS';clear hS';refine ZC ?_;refine Qs rfl ?_ ?_
    ·refine ZG ?_;clear hS;intro b5 wx6 hS;refine Zaa ?_;clear hS;intro b6 wx7 hS;refine Zu ?_;clear hS;intro wx8 hS;refine Zb ?_;clear hS;intro wx9 hS;refine Zc ?_
     first|exact hmeet _ _ _ _ ⟨_,_,u,v,rfl,rfl,hu1,hv1,hu2,hv2,hS⟩ Yb Yb Yc|exact hmeet _ _ _ _ ⟨_,_,u,v,rfl,rfl,hu1,hv1,hu2,hv2,hS.perm (List.Perm.swap _ _ _)⟩ Yb Yb Yc
    refine ZJ ?_;clear hS;intro b7 wx10 hS;refine Zaa ?_;clear hS;intro b8 wx11 hS;refine Zu ?_;clear hS;intro wx12 hS;refine Zb ?_;clear hS;intro wx13 hS;refine Zc ?_
    first|exact hmeet _ _ _ _ ⟨_,_,u,v,rfl,rfl,hu1,hv1,hu2,hv2,hS⟩ Yb Yb Yc|exact hmeet _ _ _ _ ⟨_,_,u,v,rfl,rfl,hu1,hv1,hu2,hv2,hS.perm (List.Perm.swap _ _ _)⟩ Yb Yb Yc
   refine Qs rfl ?_ ?_
   ·refine ZG ?_;clear hS;intro b9 wx14 hS;refine ZC ?_;refine Qs rfl ?_ ?_
    ·refine Zj ?_;refine Zc9 ?_;rintro _ w6 ⟨v,rfl,hv1,hv2,hv3,hS'⟩;refine Za ?_;replace hS:=hS';clear hS';refine Zaa ?_;clear hS;intro b10 wx15 hS;refine Zu ?_;clear hS;intro wx16 hS;refine Zb ?_;clear hS;intro wx17 hS;refine Zc ?_
     first|exact hmeet _ _ _ _ ⟨_,_,u,v,rfl,rfl,hu1,hv1,hu2,hv2,hS⟩ Yb Yb Yc|exact hmeet _ _ _ _ ⟨_,_,u,v,rfl,rfl,hu1,hv1,hu2,hv2,hS.perm (List.Perm.swap _ _ _)⟩ Yb Yb Yc
    refine ZJ ?_;clear hS;intro b11 wx18 hS;refine ZdE ?_;rintro _ w6 ⟨v,rfl,hv1,hv2,hv3,hS'⟩;refine Za ?_;replace hS:=hS';clear hS';refine Zu ?_;clear hS;intro wx19 hS;refine Zb ?_;clear hS;intro wx20 hS;refine Zc ?_
    first|exact hmeet _ _ _ _ ⟨_,_,u,v,rfl,rfl,hu1,hv1,hu2,hv2,hS⟩ Yb Yb Yc|exact hmeet _ _ _ _ ⟨_,_,u,v,rfl,rfl,hu1,hv1,hu2,hv2,hS.perm (List.Perm.swap _ _ _)⟩ Yb Yb Yc
   refine ZJ ?_;clear hS;intro b12 wx21 hS;refine ZC ?_;refine Qs rfl ?_ ?_
   ·refine Zj ?_;refine Zc9 ?_;rintro _ w6 ⟨v,rfl,hv1,hv2,hv3,hS'⟩;refine Za ?_;replace hS:=hS';clear hS';refine Zaa ?_;clear hS;intro b13 wx22 hS;refine Zu ?_;clear hS;intro wx23 hS;refine Zb ?_;clear hS;intro wx24 hS;refine Zc ?_
    first|exact hmeet _ _ _ _ ⟨_,_,u,v,rfl,rfl,hu1,hv1,hu2,hv2,hS⟩ Yb Yb Yc|exact hmeet _ _ _ _ ⟨_,_,u,v,rfl,rfl,hu1,hv1,hu2,hv2,hS.perm (List.Perm.swap _ _ _)⟩ Yb Yb Yc
   refine ZJ ?_;clear hS;intro b14 wx25 hS;refine ZdE ?_;rintro _ w6 ⟨v,rfl,hv1,hv2,hv3,hS'⟩;refine Za ?_;replace hS:=hS';clear hS';refine Zu ?_;clear hS;intro wx26 hS;refine Zb ?_;clear hS;intro wx27 hS;refine Zc ?_
   first|exact hmeet _ _ _ _ ⟨_,_,u,v,rfl,rfl,hu1,hv1,hu2,hv2,hS⟩ Yb Yb Yc|exact hmeet _ _ _ _ ⟨_,_,u,v,rfl,rfl,hu1,hv1,hu2,hv2,hS.perm (List.Perm.swap _ _ _)⟩ Yb Yb Yc
  refine Qs rfl ?_ ?_
  ·refine ZG ?_;clear hS;intro b15 wx28 hS;refine ZC ?_;refine Qs rfl ?_ ?_
   ·refine Zj ?_;refine Zej ?_;rintro _ w5 ⟨u,rfl,hu1,hu2,hu3,hS'⟩;refine Za ?_;replace hS:=hS';clear hS';refine ZC ?_;refine Qs rfl ?_ ?_
    ·refine Zj ?_;refine Zc9 ?_;rintro _ w6 ⟨v,rfl,hv1,hv2,hv3,hS'⟩;refine Za ?_;replace hS:=hS';clear hS';refine Zaa ?_;clear hS;intro b16 wx29 hS;refine Zu ?_;clear hS;intro wx30 hS;refine Zb ?_;clear hS;intro wx31 hS;refine Zc ?_
     first|exact hmeet _ _ _ _ ⟨_,_,u,v,rfl,rfl,hu1,hv1,hu2,hv2,hS⟩ Yb Yb Yc|exact hmeet _ _ _ _ ⟨_,_,u,v,rfl,rfl,hu1,hv1,hu2,hv2,hS.perm (List.Perm.swap _ _ _)⟩ Yb Yb Yc
    refine ZJ ?_;clear hS;intro b17 wx32 hS;refine ZdE ?_;rintro _ w6 ⟨v,rfl,hv1,hv2,hv3,hS'⟩;refine Za ?_;replace hS:=hS';clear hS';refine Zu ?_;clear hS;intro wx33 hS;refine Zb ?_;clear hS;intro wx34 hS;refine Zc ?_
    first|exact hmeet _ _ _ _ ⟨_,_,u,v,rfl,rfl,hu1,hv1,hu2,hv2,hS⟩ Yb Yb Yc|exact hmeet _ _ _ _ ⟨_,_,u,v,rfl,rfl,hu1,hv1,hu2,hv2,hS.perm (List.Perm.swap _ _ _)⟩ Yb Yb Yc
   refine ZJ ?_;clear hS;intro b18 wx35 hS;refine Zb0 ?_;refine Zej ?_;rintro _ w5 ⟨u,rfl,hu1,hu2,hu3,hS'⟩;refine Za ?_;replace hS:=hS';clear hS';refine ZdE ?_;rintro _ w6 ⟨v,rfl,hv1,hv2,hv3,hS'⟩;refine Za ?_;replace hS:=hS';clear hS';refine Zu ?_;clear hS;intro wx36 hS;refine Zb ?_;clear hS;intro wx37 hS;refine Zc ?_
   first|exact hmeet _ _ _ _ ⟨_,_,u,v,rfl,rfl,hu1,hv1,hu2,hv2,hS⟩ Yb Yb Yc|exact hmeet _ _ _ _ ⟨_,_,u,v,rfl,rfl,hu1,hv1,hu2,hv2,hS.perm (List.Perm.swap _ _ _)⟩ Yb Yb Yc
  refine ZJ ?_;clear hS;intro b19 wx38 hS;refine ZC ?_;refine Qs rfl ?_ ?_
  ·refine Zj ?_;refine Zej ?_;rintro _ w5 ⟨u,rfl,hu1,hu2,hu3,hS'⟩;refine Za ?_;replace hS:=hS';clear hS';refine ZC ?_;refine Qs rfl ?_ ?_
   ·refine Zj ?_;refine Zc9 ?_;rintro _ w6 ⟨v,rfl,hv1,hv2,hv3,hS'⟩;refine Za ?_;replace hS:=hS';clear hS';refine Zaa ?_;clear hS;intro b20 wx39 hS;refine Zu ?_;clear hS;intro wx40 hS;refine Zb ?_;clear hS;intro wx41 hS;refine Zc ?_
    first|exact hmeet _ _ _ _ ⟨_,_,u,v,rfl,rfl,hu1,hv1,hu2,hv2,hS⟩ Yb Yb Yc|exact hmeet _ _ _ _ ⟨_,_,u,v,rfl,rfl,hu1,hv1,hu2,hv2,hS.perm (List.Perm.swap _ _ _)⟩ Yb Yb Yc
   refine ZJ ?_;clear hS;intro b21 wx42 hS;refine ZdE ?_;rintro _ w6 ⟨v,rfl,hv1,hv2,hv3,hS'⟩;refine Za ?_;replace hS:=hS';clear hS';refine Zu ?_;clear hS;intro wx43 hS;refine Zb ?_;clear hS;intro wx44 hS;refine Zc ?_
   first|exact hmeet _ _ _ _ ⟨_,_,u,v,rfl,rfl,hu1,hv1,hu2,hv2,hS⟩ Yb Yb Yc|exact hmeet _ _ _ _ ⟨_,_,u,v,rfl,rfl,hu1,hv1,hu2,hv2,hS.perm (List.Perm.swap _ _ _)⟩ Yb Yb Yc
  refine ZJ ?_;clear hS;intro b22 wx45 hS;refine Zb0 ?_;refine Zej ?_;rintro _ w5 ⟨u,rfl,hu1,hu2,hu3,hS'⟩;refine Za ?_;replace hS:=hS';clear hS';refine ZdE ?_;rintro _ w6 ⟨v,rfl,hv1,hv2,hv3,hS'⟩;refine Za ?_;replace hS:=hS';clear hS';refine Zu ?_;clear hS;intro wx46 hS;refine Zb ?_;clear hS;intro wx47 hS;refine Zc ?_
  first|exact hmeet _ _ _ _ ⟨_,_,u,v,rfl,rfl,hu1,hv1,hu2,hv2,hS⟩ Yb Yb Yc|exact hmeet _ _ _ _ ⟨_,_,u,v,rfl,rfl,hu1,hv1,hu2,hv2,hS.perm (List.Perm.swap _ _ _)⟩ Yb Yb Yc
 clear hS;rintro jv2 _ _ w7 ⟨b5,b6,u,v,rfl,rfl,hu1,hv1,hu2,hv2,hS⟩
 have tu:tgd u.tm:=by rw [hu1];exact Qc7 hE.gd t1
 have tv':tgd v.tm:=by rw [hv1];exact Qc7 hE.gd t2
 by_cases ku:u.k=0
 ·have ku' : (Qc (Qx E) p.1.tm).k = 0 := by rw [← hu1]; exact ku
  by_cases kv:v.k=0
  ·have kv':(Qc (Qx E) p.2.tm).k=0:=by rw [←hv1];exact kv
   by_cases hn:u.n=v.n
   ·have hrun3:Qid (L.reverse.map Qlj) (Qx E) (wk+1)=r:=by
     rw [←hrun2];exact (Qpr _ Ya ku' kv' (by rw [←hu1,←hv1];exact hn)).symm
    refine Zdu ?_;refine Zk ?_;refine ZbC ?_;refine Zcb ?_;refine Zbd ?_;refine Zp ?_;refine ZeI ?_;refine Zcc ?_;refine Zo ?_;refine Zz ?_;refine ZaW ?_;refine ih (L,E,wk+1) _ _ _ _ _ ?_ ?_ Yb Yb Yb Yc
    ·show 401-(wk+1)<401-wk;omega
    ·exact ⟨_,_,_,F',by rw [show ((((L++[p]).length:Nat):Int)-1).toNat=L.length by omega],by congr 1;show (400:Int)-(wk:Nat)-1=400-((wk+1:Nat):Int);omega,rfl,hrun3,by show wk+1≤400;omega,by show L.length≤24*(wk+1)+1;omega,hF,hE,hAL,hrowL,hS.drop.drop.drop⟩
   ·have hrun3:Qid (L.reverse.map Qlj) ((max u.n v.n,⟨0,min u.n v.n,⟨#[]⟩,.nil⟩)::Qx E) (wk+1)=r:=by
     have:=Qpt (L.reverse.map Qlj) (w:=wk) Ya ku' kv' (by rw [←hu1,←hv1];exact hn);rw [←hu1,←hv1] at this;rw [←hrun2];exact this.symm
    have hmx:max u.n v.n=if u.n<v.n then v.n else u.n:=by split<;>omega
    have hmn:min u.n v.n=if v.n<u.n then v.n else u.n:=by split<;>omega
    refine Zdu ?_;refine Zk ?_;refine ZbC ?_;refine Zcb ?_;refine Zbd ?_;refine Zp ?_;refine ZeI ?_;refine Zcc ?_;refine Zo ?_;refine ZF ?_;refine Zaz ?_;refine Zcc ?_;refine Zcc ?_;refine Qa (QiU rfl rfl Ye) rfl ?_;refine Zcc ?_;refine Zcc ?_;refine Qa (Qf7 rfl rfl Ye) rfl ?_;refine Qa (QB (cells:=[_,_,_,_]) (.cons Yb .nil) rfl) rfl ?_;refine Ze ?_;refine Zek ?_;refine ZaX ?_;clear hS;intro b23 wx48 hS;refine Zd ?_;refine ZaW ?_;replace hS:=hS.freeze;have nu:0≤u.n∧u.n<549755813888:=QmB tu ku;have nv:0≤v.n∧v.n<549755813888:=QmB tv' kv;have hbk:=QrG hE.ok ku' kv' (by rw [←hu1,←hv1];exact hn);rw [←hu1,←hv1] at hbk;have hE':=EOk.cons (bk:=b23) (t:=⟨0,min u.n v.n,⟨#[]⟩,none,0,.nil⟩) (v:=max u.n v.n) hE (fun w _=>⟨Nat.le_refl _,fun h=>absurd h Yag⟩) (show tgd ⟨0,min u.n v.n,⟨#[]⟩,.nil⟩ from QsL Ya Ya) hbk;refine ih (L,⟨max u.n v.n,⟨0,min u.n v.n,⟨#[]⟩,none,0,.nil⟩,b23⟩::E,wk+1) _ _ _ _ _ ?_ ?_ Yb Yb Yb Yc
    ·show 401-(wk+1)<401-wk;omega
    ·exact ⟨_,_,_,_,by rw [show ((((L++[p]).length:Nat):Int)-1).toNat=L.length by omega],by congr 1;show (400:Int)-(wk:Nat)-1=400-((wk+1:Nat):Int);omega,rfl,hrun3,by show wk+1≤400;omega,by show L.length≤24*(wk+1)+1;omega,fun φ h=> .tail _ (hF φ h),hE',hAL.tail,hrowL,hS.drop.drop.drop⟩
  ·have kv' : (Qc (Qx E) p.2.tm).k ≠ 0 := by rw [← hv1]; exact kv
   have hrd:=QsP (L.reverse.map Qlj) (w:=wk) hE.ok Ya ku' kv';rw [←hu1,←hv1] at hrd;replace hrd:=hrun2.symm.trans hrd;refine Zdu ?_;refine Zk ?_;refine ZbC ?_;refine Zcb ?_;refine ZU ?_;refine Zdu ?_;refine Zak ?_;refine Zdu ?_;refine Zk ?_;refine ZcF ?_;refine ZaB ?_;refine Zas ?_;clear hS;intro b23 wx48 hS;refine Zd ?_;refine ZaE ?_
   have hfP:QbQ u.n (Qx E)=none:=by
    have:=Qa0 hE.ok p.1.tm ku';rw [←hu1] at this;exact this
   have hkQ:v.tm.k≠0:=kv
   obtain ⟨ro,hro⟩:∃ro,Qa4 (Qx E) u.tm.n [v.tm] (wk+1)=ro:=⟨_,rfl⟩
   rw [hro] at hrd;have hrow0:Rw 63 4 (.slice (some ⟨b23,0,none⟩) 1 1) 1 (Qdt [v]) [(b23,.cells (Qdt [v]++[]).toArray 63)]:=Rw.own_ rfl rfl (Nat.le_refl _) Ya;rw [show (400:Int)-(wk:Nat)-1=400-((wk+1:Nat):Int) by omega];refine Qy 14 9 (87::88::89::90::91::92::93::94::95::15::96::97::98::99::100::101::102::103::104::105::106::6::7::8::107::108::109::110::111::112::113::114::115::116::117::118::119::120::121::122::123::124::125::16::126::127::130::131::132::133::134::135::136::137::128::129::[]) (fun (x:List LT×Nat) s y w'=>∃(As:Option Addr) (cs:Nat) (Os:List (Nat×Obj)),s= .slice As x.1.length cs∧y= .int .i64 (400-(x.2:Nat))∧Qa4 (Qx E) u.tm.n (x.1.reverse.map LT.tm) x.2=ro∧wk<x.2∧x.2≤400∧x.1.length≤24*x.2+1∧Qt5 F' x.1∧Rw 63 4 (.slice As x.1.length cs) x.1.length (Qdt x.1) Os∧St M w0 (Os++((b5,.cells (tcs u).toArray 63)::(b6,.cells (tcs v).toArray 63)::(b4,.cells (tcs p.1++tcs p.2).toArray 218)::(b2,.cells (tcs b).toArray 63)::(b1,.cells (tcs a).toArray 63)::(g,.cells (pcs (L++[p])++sp).toArray 218)::H)) F' w') (fun x=>401-x.2) (([v],wk+1)) ?_ Yb Yb ?_
   ·exact ⟨_,_,_,rfl,rfl,hro,by show wk<wk+1;omega,by show wk+1≤400;omega,by show 1≤24*(wk+1)+1;omega,fun x hx=>by rw [List.mem_singleton.1 hx];exact ⟨hv2,tv'⟩,hrow0,hS⟩
   clear hS hrow0 hro;rintro x s y w8 jv3 ⟨As,cs,Os,hs,hy,hoc,hk1,hk2,hSl,hAT,hrows,hS⟩ ih2;obtain ⟨S,wq⟩:=x;dsimp only at hs hy hoc hk1 hk2 hSl hAT hrows hS;subst hs hy;rcases QcX S with rfl|⟨S,z,rfl⟩
   ·have hro2:ro=(false,wq):=by rw [←hoc];rfl
    rw [hro2,if_neg (by rintro (h|h);cases h;exact absurd h (by show¬400<wq;omega))] at hrd;replace hS:=St.dropN hS;refine Zfy ?_;refine ZaR ?_;refine ZeI ?_;refine ZaB ?_;refine Ze ?_;refine Zek ?_;refine ZaX ?_;clear hS;intro b24 wx49 hS;refine Zd ?_;refine ZaW ?_;replace hS:=hS.freeze
    have hbk:Bok ((u.n,v.tm)::Qx E):=⟨hfP,fun e=>absurd e hkQ,hE.ok⟩
    have hE':=EOk.cons (bk:=b24) (t:=v) (v:=u.n) hE hv2 tv' hbk;refine ih (L,⟨u.n,v,b24⟩::E,wq) _ _ _ _ _ ?_ ?_ Yb Yb Yb Yc
    ·show 401-wq<401-wk;omega
    ·exact ⟨_,_,_,_,by rw [show ((((L++[p]).length:Nat):Int)-1).toNat=L.length by omega],rfl,rfl,hrd.symm,by show wq≤400;omega,by show L.length≤24*wq+1;omega,fun φ h=> .tail _ (hF φ h),hE',hAL.tail,hrowL,hS.drop.drop.drop⟩
   have hlz:(S++[z]).length=S.length+1:=by simp
   obtain ⟨hz1,hz2⟩:=hAT z Yd;have hATS:Qt5 F' S:=fun q hq=>hAT q (by simp [hq]);obtain ⟨sg,ssp,rfl,rfl,hscap,hsle,_⟩:=hrows.some_ Ya
   have hcutz:Cut (Qdt (S++[z])++ssp) (0+((((S++[z]).length:Nat):Int)-1).toNat*4) 4 (tcs z):=by
    have:=Qt0 (Qdt S) (tcs z) ssp (0+((((S++[z]).length:Nat):Int)-1).toNat*4) 4 (by rw [QeP];omega) rfl;rw [Qbi];simpa [Qdt] using this
   have hrowS:Rw 63 4 (.slice (some ⟨sg,0,none⟩) S.length cs) S.length (Qdt S) [(sg,.cells (Qdt (S++[z])++ssp).toArray 63)]:=by
    rw [hlz,Qbi] at hrows;rw [Qbi];exact hrows.cutS (QeP S) Ya
   have hoc2:Qa4 (Qx E) u.tm.n (z.tm::S.reverse.map LT.tm) wq=ro:=by rw [←hoc,List.reverse_append];rfl
   by_cases hwq:wq=400
   ·have hlg:=Qib (Qx E) u.tm.n z.tm (S.reverse.map LT.tm) (w:=wq) Ya;rw [hoc2] at hlg;rw [if_pos (.inr hlg.2)] at hrd;refine ZdB ?_;refine Zar ?_;refine ZaB ?_;refine ZG ?_;clear hS;intro b24 wx49 hS;refine Zb ?_;clear hS;intro wx50 hS;refine ZdC ?_;refine Zel ?_;refine ZdD ?_;refine Zca ?_;refine ZeN ?_;refine ⟨E,F',400-(wq:Nat)-1,hF,hS.drop.drop.drop.drop.drop.drop.drop.drop,fun _=>⟨by omega,rfl⟩,fun h=> ?_,fun h=> ?_⟩
    ·rw [hrd] at h;exact absurd h Yay
    ·rw [hrd] at h;exact absurd h Yay
   refine ZdB ?_;refine Zar ?_;refine ZaB ?_;refine ZG ?_;clear hS;intro b24 wx49 hS;refine Zb ?_;clear hS;intro wx50 hS;refine ZdC ?_;refine Zel ?_;refine ZdD ?_;refine ZeO ?_;refine ZaB ?_;refine Zj ?_;refine Calls.mono (Qcf E z _ hE.rd hz1 hE.ok hS) ?_;rintro _ w9 ⟨zz,rfl,hzz1,hzz2,hzz3,hS'⟩;refine Za ?_;replace hS:=hS';clear hS'
   have tzz:tgd zz.tm:=by rw [hzz1];exact Qc7 hE.gd hz2
   have hzl:zz.ar.len≤24:=by
    have h1:=tzz.2;have h2:=Ts.length_le zz.ar.ts;rw [TA.len_ts] at h2;have h3:zz.ar.ts.nodes+1≤24:=h1;omega
   by_cases kz:zz.k=0
   ·have kz' : (Qc (Qx E) z.tm).k = 0 := by rw [← hzz1]; exact kz
    by_cases nz:zz.n=u.n
    ·have hh:=Qkc (v:=u.tm.n) (S.reverse.map LT.tm) (w:=wq) Ya kz' YaA;rw [hoc2] at hh;rw [hh,if_pos (.inl rfl)] at hrd;refine Zb ?_;clear hS;intro wx51 hS;refine Zbj ?_;refine Zm ?_;refine Zk ?_;refine Zdy ?_;refine Zah ?_;refine Zcb ?_;refine ZdF ?_;refine ⟨E,F',400-(wq:Nat)-1,hF,hS.drop.drop.drop.drop.drop.drop.drop.drop,fun h=> ?_,fun h=> ?_,fun h h'=> ?_⟩
     ·rw [hrd] at h;exact absurd h (by show¬400<wq+1;omega)
     ·rw [hrd];exact ⟨by show (400:Int)-(wq:Nat)-1=400-((wq+1:Nat):Int);omega,rfl⟩
     ·rw [hrd] at h';cases h'
    ·have hoc3:Qa4 (Qx E) u.tm.n (zz.ar.lts.map LT.tm++S.reverse.map LT.tm) (wq+1)=ro:=by
      have hh:=Qh9 (v:=u.tm.n) (S.reverse.map LT.tm) (w:=wq) Ya kz' YaA;rw [hoc2] at hh
      have hnil:zz.ar.lts=[]:=List.eq_nil_of_length_eq_zero (by
       have:=(QiS tzz kz).2
       have h2:zz.ar.ts.length=0:=by show zz.tm.ar.length=0;rw [this];rfl
       rw [TA.lts_len,←TA.len_ts];exact h2)
      rw [hnil];exact hh.symm
     refine Zb ?_;clear hS;intro wx51 hS;refine Zbj ?_;refine Zm ?_;refine Zk ?_;refine Zdy ?_;refine Zah ?_;refine Zcb ?_;refine ZU ?_;refine Zf ?_;refine ZbE ?_;refine Zcd ?_
     have hd0:zz.ar.lts.drop zz.ar.len=[]:=by rw [←TA.lts_len];simp
     have htg:=Qeb (T:=zz.ar) (Qac _ tzz);rw [show ((((S++[z]).length:Nat):Int)-1).toNat=(S++(zz.ar.lts.drop zz.ar.len).reverse).length by rw [hd0];simp];obtain ⟨zk,zn,zs,zA,zc,zar⟩:=zz;dsimp only at hzl hd0 htg hoc3;refine Qy 16 14 (126::127::130::131::132::133::134::135::136::137::128::129::[]) (fun (j:Nat) i s w'=>∃(As:Option Addr) (cs:Nat) (Os:List (Nat×Obj)),j≤zar.len∧i= .int .i64 ((j:Nat)-1)∧s= .slice As (S++(zar.lts.drop j).reverse).length cs∧Rw 63 4 (.slice As (S++(zar.lts.drop j).reverse).length cs) (S++(zar.lts.drop j).reverse).length (Qdt (S++(zar.lts.drop j).reverse)) Os∧St M w0 ((b24,.cells [.int .i64 zk,.int .i64 zn,.string zs,.slice zA zar.len zc].toArray 63)::(Os++((b5,.cells (tcs u).toArray 63)::(b6,.cells (tcs v).toArray 63)::(b4,.cells (tcs p.1++tcs p.2).toArray 218)::(b2,.cells (tcs b).toArray 63)::(b1,.cells (tcs a).toArray 63)::(g,.cells (pcs (L++[p])++sp).toArray 218)::H))) F' w') (fun j=>j) (zar.len) ?_ Yb Yb ?_
     ·exact ⟨_,_,_,Nat.le_refl _,rfl,rfl,by rw [hd0];simpa using hrowS,hS⟩
     clear hS;rintro j i s w10 jv4 ⟨As,cs,Os,hj,hi,hs,hrw,hS⟩ ih3;subst hi hs
     cases j with
     |zero=>
      have e0:S++(zar.lts.drop 0).reverse=S++zar.lts.reverse:=rfl;rw [e0] at hrw;refine Zce ?_;refine ZaL ?_;refine ih2 (S++zar.lts.reverse,wq+1) _ _ _ _ ?_ ?_ Yb Yb Yc
      ·show 401-(wq+1)<401-wq;omega
      ·refine ⟨As,cs,Os,rfl,by congr 1;show (400:Int)-(wq:Nat)-1=400-((wq+1:Nat):Int);omega,?_,by show wk<wq+1;omega,by show wq+1≤400;omega,?_,?_,hrw,hS.drop⟩
       ·show Qa4 _ _ ((S++zar.lts.reverse).reverse.map LT.tm) _=ro;rw [List.reverse_append,List.reverse_reverse,List.map_append];exact hoc3
       ·show (S++zar.lts.reverse).length≤24*(wq+1)+1;rw [List.length_append,List.length_reverse,TA.lts_len];omega
       ·intro x hx;rcases List.mem_append.1 hx with hx|hx
        ·exact hATS x hx
        ·have hx:=List.mem_reverse.1 hx;exact ⟨fun w hw=>(hzz2 w hw).lts x hx,htg x hx⟩
     |succ j=>
      obtain ⟨D,R,x,hDx,hDl⟩:=TA.at_split zar j Ya
      have hzA:Und F' (ArA zA zc (D.app (.cons x.k x.n x.s x.A x.c x.ar R))):=by rw [←hDx];exact hzz2
      obtain ⟨bk,ok,rfl⟩:=(hS.und hzA).some_ YH;have hcc:∀{H'} w',St M w0 H' F' w'→_:=fun w' hS=>(hS.und hzA).cells;have eix:(((j+1:Nat):Int)-1).toNat=D.len:=by omega
      rw [←eix] at hcc
      have hdj:zar.lts.drop j=x::zar.lts.drop (j+1):=by
       rw [hDx,TA.lts_app,←hDl,←TA.lts_len D];simp [TA.lts]
      have hgj:(S++(zar.lts.drop j).reverse)=(S++(zar.lts.drop (j+1)).reverse)++[x]:=by rw [hdj];simp
      have hzlen:(zar.lts.drop (j+1)).length≤24:=by rw [List.length_drop,TA.lts_len];omega
      refine Zcf ?_;refine ZT ?_;refine Zcg ?_;refine Ze ?_;refine ZeP ?_;refine Zas ?_;clear hS;intro b25 wx52 hS;refine Ze2 ?_;clear hS;intro v9 O9 w11 hrow9 hS;obtain ⟨A9,c9,rfl,_⟩:=hrow9.form;replace hS:=(hS.perm (List.perm_append_comm_assoc O9 [_,_] _)).drop;refine ZdG ?_;refine ih3 j _ _ _ _ ?_ ?_ Yb Yb Yc
      ·omega
      ·refine ⟨A9,c9,O9,by omega,by congr 1;show (((j+1:Nat):Int)-1)-1=(j:Nat)-1;omega,?_,?_,hS⟩
       ·rw [hgj,List.length_append (bs:=[x])];rfl
       ·rw [hgj,List.length_append (bs:=[x]),Qbi];have:Qdt [x]=tcs x:=by simp [Qdt]
        rw [this];exact hrow9
   ·have hoc3:Qa4 (Qx E) u.tm.n (zz.ar.lts.map LT.tm++S.reverse.map LT.tm) (wq+1)=ro:=by
     have hh:=Qh8 (v:=u.tm.n) (S.reverse.map LT.tm) (w:=wq) Ya (show (Qc (Qx E) z.tm).k≠0 by rw [←hzz1];exact kz);rw [hoc2,←hzz1] at hh;rw [TA.lts_tm];exact hh.symm
    refine Zb ?_;clear hS;intro wx51 hS;refine Zbj ?_;refine ZaA ?_;refine Zk ?_;refine ZbK ?_;refine ZU ?_;refine Zf ?_;refine Zcg ?_;refine Zcd ?_
    have hd0:zz.ar.lts.drop zz.ar.len=[]:=by rw [←TA.lts_len];simp
    have htg:=Qeb (T:=zz.ar) (Qac _ tzz);rw [show ((((S++[z]).length:Nat):Int)-1).toNat=(S++(zz.ar.lts.drop zz.ar.len).reverse).length by rw [hd0];simp];obtain ⟨zk,zn,zs,zA,zc,zar⟩:=zz;dsimp only at hzl hd0 htg hoc3;refine Qy 16 14 (126::127::130::131::132::133::134::135::136::137::128::129::[]) (fun (j:Nat) i s w'=>∃(As:Option Addr) (cs:Nat) (Os:List (Nat×Obj)),j≤zar.len∧i= .int .i64 ((j:Nat)-1)∧s= .slice As (S++(zar.lts.drop j).reverse).length cs∧Rw 63 4 (.slice As (S++(zar.lts.drop j).reverse).length cs) (S++(zar.lts.drop j).reverse).length (Qdt (S++(zar.lts.drop j).reverse)) Os∧St M w0 ((b24,.cells [.int .i64 zk,.int .i64 zn,.string zs,.slice zA zar.len zc].toArray 63)::(Os++((b5,.cells (tcs u).toArray 63)::(b6,.cells (tcs v).toArray 63)::(b4,.cells (tcs p.1++tcs p.2).toArray 218)::(b2,.cells (tcs b).toArray 63)::(b1,.cells (tcs a).toArray 63)::(g,.cells (pcs (L++[p])++sp).toArray 218)::H))) F' w') (fun j=>j) (zar.len) ?_ Yb Yb ?_
    ·exact ⟨_,_,_,Nat.le_refl _,rfl,rfl,by rw [hd0];simpa using hrowS,hS⟩
    clear hS;rintro j i s w10 jv4 ⟨As,cs,Os,hj,hi,hs,hrw,hS⟩ ih3;subst hi hs
    cases j with
    |zero=>
     have e0:S++(zar.lts.drop 0).reverse=S++zar.lts.reverse:=rfl;rw [e0] at hrw;refine Zce ?_;refine ZaL ?_;refine ih2 (S++zar.lts.reverse,wq+1) _ _ _ _ ?_ ?_ Yb Yb Yc
     ·show 401-(wq+1)<401-wq;omega
     ·refine ⟨As,cs,Os,rfl,by congr 1;show (400:Int)-(wq:Nat)-1=400-((wq+1:Nat):Int);omega,?_,by show wk<wq+1;omega,by show wq+1≤400;omega,?_,?_,hrw,hS.drop⟩
      ·show Qa4 _ _ ((S++zar.lts.reverse).reverse.map LT.tm) _=ro;rw [List.reverse_append,List.reverse_reverse,List.map_append];exact hoc3
      ·show (S++zar.lts.reverse).length≤24*(wq+1)+1;rw [List.length_append,List.length_reverse,TA.lts_len];omega
      ·intro x hx;rcases List.mem_append.1 hx with hx|hx
       ·exact hATS x hx
       ·have hx:=List.mem_reverse.1 hx;exact ⟨fun w hw=>(hzz2 w hw).lts x hx,htg x hx⟩
    |succ j=>
     obtain ⟨D,R,x,hDx,hDl⟩:=TA.at_split zar j Ya
     have hzA:Und F' (ArA zA zc (D.app (.cons x.k x.n x.s x.A x.c x.ar R))):=by rw [←hDx];exact hzz2
     obtain ⟨bk,ok,rfl⟩:=(hS.und hzA).some_ YH;have hcc:∀{H'} w',St M w0 H' F' w'→_:=fun w' hS=>(hS.und hzA).cells;have eix:(((j+1:Nat):Int)-1).toNat=D.len:=by omega
     rw [←eix] at hcc
     have hdj:zar.lts.drop j=x::zar.lts.drop (j+1):=by
      rw [hDx,TA.lts_app,←hDl,←TA.lts_len D];simp [TA.lts]
     have hgj:(S++(zar.lts.drop j).reverse)=(S++(zar.lts.drop (j+1)).reverse)++[x]:=by rw [hdj];simp
     have hzlen:(zar.lts.drop (j+1)).length≤24:=by rw [List.length_drop,TA.lts_len];omega
     refine Zcf ?_;refine ZT ?_;refine Zcg ?_;refine Ze ?_;refine ZeP ?_;refine Zas ?_;clear hS;intro b25 wx52 hS;refine Ze2 ?_;clear hS;intro v9 O9 w11 hrow9 hS;obtain ⟨A9,c9,rfl,_⟩:=hrow9.form;replace hS:=(hS.perm (List.perm_append_comm_assoc O9 [_,_] _)).drop;refine ZdG ?_;refine ih3 j _ _ _ _ ?_ ?_ Yb Yb Yc
     ·omega
     ·refine ⟨A9,c9,O9,by omega,by congr 1;show (((j+1:Nat):Int)-1)-1=(j:Nat)-1;omega,?_,?_,hS⟩
      ·rw [hgj,List.length_append (bs:=[x])];rfl
      ·rw [hgj,List.length_append (bs:=[x]),Qbi];have:Qdt [x]=tcs x:=by simp [Qdt]
       rw [this];exact hrow9
 ·have ku' : (Qc (Qx E) p.1.tm).k ≠ 0 := by rw [← hu1]; exact ku
  by_cases kv:v.k=0
  ·have kv' : (Qc (Qx E) p.2.tm).k = 0 := by rw [← hv1]; exact kv
   have hrd:=QsQ (L.reverse.map Qlj) (w:=wk) hE.ok Ya ku' kv';rw [←hu1,←hv1] at hrd;replace hrd:=hrun2.symm.trans hrd;refine ZdH ?_;refine Zhv ?_;refine ZF ?_;refine Zaz ?_;refine ZaZ ?_;refine ZaZ ?_;refine Zb ?_;clear hS;intro wx48 hS;refine Zb ?_;clear hS;intro wx49 hS;refine ZbI ?_;refine ZaA ?_;refine Zk ?_;refine ZcF ?_;refine ZaZ ?_;refine Zas ?_;clear hS;intro b23 wx50 hS;refine Zd ?_;refine ZaE ?_
   have hfP:QbQ v.n (Qx E)=none:=by
    have:=Qa0 hE.ok p.2.tm kv';rw [←hv1] at this;exact this
   have hkQ:u.tm.k≠0:=ku
   obtain ⟨ro,hro⟩:∃ro,Qa4 (Qx E) v.tm.n [u.tm] (wk+1)=ro:=⟨_,rfl⟩
   rw [hro] at hrd;have hrow0:Rw 63 4 (.slice (some ⟨b23,0,none⟩) 1 1) 1 (Qdt [u]) [(b23,.cells (Qdt [u]++[]).toArray 63)]:=Rw.own_ rfl rfl (Nat.le_refl _) Ya;rw [show (400:Int)-(wk:Nat)-1=400-((wk+1:Nat):Int) by omega];refine Qy 14 9 (87::88::89::90::91::92::93::94::95::15::96::97::98::99::100::101::102::103::104::105::106::6::7::8::107::108::109::110::111::112::113::114::115::116::117::118::119::120::121::122::123::124::125::16::126::127::130::131::132::133::134::135::136::137::128::129::[]) (fun (x:List LT×Nat) s y w'=>∃(As:Option Addr) (cs:Nat) (Os:List (Nat×Obj)),s= .slice As x.1.length cs∧y= .int .i64 (400-(x.2:Nat))∧Qa4 (Qx E) v.tm.n (x.1.reverse.map LT.tm) x.2=ro∧wk<x.2∧x.2≤400∧x.1.length≤24*x.2+1∧Qt5 F' x.1∧Rw 63 4 (.slice As x.1.length cs) x.1.length (Qdt x.1) Os∧St M w0 (Os++((b5,.cells (tcs v).toArray 63)::(b6,.cells (tcs u).toArray 63)::(b4,.cells (tcs p.1++tcs p.2).toArray 218)::(b2,.cells (tcs b).toArray 63)::(b1,.cells (tcs a).toArray 63)::(g,.cells (pcs (L++[p])++sp).toArray 218)::H)) F' w') (fun x=>401-x.2) (([u],wk+1)) ?_ Yb Yb ?_
   ·exact ⟨_,_,_,rfl,rfl,hro,by show wk<wk+1;omega,by show wk+1≤400;omega,by show 1≤24*(wk+1)+1;omega,fun x hx=>by rw [List.mem_singleton.1 hx];exact ⟨hu2,tu⟩,hrow0,hS⟩
   clear hS hrow0 hro;rintro x s y w8 jv3 ⟨As,cs,Os,hs,hy,hoc,hk1,hk2,hSl,hAT,hrows,hS⟩ ih2;obtain ⟨S,wq⟩:=x;dsimp only at hs hy hoc hk1 hk2 hSl hAT hrows hS;subst hs hy;rcases QcX S with rfl|⟨S,z,rfl⟩
   ·have hro2:ro=(false,wq):=by rw [←hoc];rfl
    rw [hro2,if_neg (by rintro (h|h);cases h;exact absurd h (by show¬400<wq;omega))] at hrd;replace hS:=St.dropN hS;refine Zfy ?_;refine ZaR ?_;refine Zad ?_;refine ZaA ?_;refine ZaZ ?_;refine Ze ?_;refine Zek ?_;refine ZaX ?_;clear hS;intro b24 wx51 hS;refine Zd ?_;refine ZaW ?_;replace hS:=hS.freeze
    have hbk:Bok ((v.n,u.tm)::Qx E):=⟨hfP,fun e=>absurd e hkQ,hE.ok⟩
    have hE':=EOk.cons (bk:=b24) (t:=u) (v:=v.n) hE hu2 tu hbk;refine ih (L,⟨v.n,u,b24⟩::E,wq) _ _ _ _ _ ?_ ?_ Yb Yb Yb Yc
    ·show 401-wq<401-wk;omega
    ·exact ⟨_,_,_,_,by rw [show ((((L++[p]).length:Nat):Int)-1).toNat=L.length by omega],rfl,rfl,hrd.symm,by show wq≤400;omega,by show L.length≤24*wq+1;omega,fun φ h=> .tail _ (hF φ h),hE',hAL.tail,hrowL,hS.drop.drop.drop⟩
   have hlz:(S++[z]).length=S.length+1:=by simp
   obtain ⟨hz1,hz2⟩:=hAT z Yd;have hATS:Qt5 F' S:=fun q hq=>hAT q (by simp [hq]);obtain ⟨sg,ssp,rfl,rfl,hscap,hsle,_⟩:=hrows.some_ Ya
   have hcutz:Cut (Qdt (S++[z])++ssp) (0+((((S++[z]).length:Nat):Int)-1).toNat*4) 4 (tcs z):=by
    have:=Qt0 (Qdt S) (tcs z) ssp (0+((((S++[z]).length:Nat):Int)-1).toNat*4) 4 (by rw [QeP];omega) rfl;rw [Qbi];simpa [Qdt] using this
   have hrowS:Rw 63 4 (.slice (some ⟨sg,0,none⟩) S.length cs) S.length (Qdt S) [(sg,.cells (Qdt (S++[z])++ssp).toArray 63)]:=by
    rw [hlz,Qbi] at hrows;rw [Qbi];exact hrows.cutS (QeP S) Ya
   have hoc2:Qa4 (Qx E) v.tm.n (z.tm::S.reverse.map LT.tm) wq=ro:=by rw [←hoc,List.reverse_append];rfl
   by_cases hwq:wq=400
   ·have hlg:=Qib (Qx E) v.tm.n z.tm (S.reverse.map LT.tm) (w:=wq) Ya;rw [hoc2] at hlg;rw [if_pos (.inr hlg.2)] at hrd;refine ZdB ?_;refine ZdI ?_;clear hS;intro b24 wx51 hS;refine Zb ?_;clear hS;intro wx52 hS;refine ZdC ?_;refine Zel ?_;refine ZdD ?_;refine Zca ?_;refine ZeN ?_;refine ⟨E,F',400-(wq:Nat)-1,hF,hS.drop.drop.drop.drop.drop.drop.drop.drop,fun _=>⟨by omega,rfl⟩,fun h=> ?_,fun h=> ?_⟩
    ·rw [hrd] at h;exact absurd h Yay
    ·rw [hrd] at h;exact absurd h Yay
   refine ZdB ?_;refine ZdI ?_;clear hS;intro b24 wx51 hS;refine Zb ?_;clear hS;intro wx52 hS;refine ZdC ?_;refine Zel ?_;refine ZdD ?_;refine ZeO ?_;refine ZaZ ?_;refine Zj ?_;refine Calls.mono (Qcf E z _ hE.rd hz1 hE.ok hS) ?_;rintro _ w9 ⟨zz,rfl,hzz1,hzz2,hzz3,hS'⟩;refine Za ?_;replace hS:=hS';clear hS'
   have tzz:tgd zz.tm:=by rw [hzz1];exact Qc7 hE.gd hz2
   have hzl:zz.ar.len≤24:=by
    have h1:=tzz.2;have h2:=Ts.length_le zz.ar.ts;rw [TA.len_ts] at h2;have h3:zz.ar.ts.nodes+1≤24:=h1;omega
   by_cases kz:zz.k=0
   ·have kz' : (Qc (Qx E) z.tm).k = 0 := by rw [← hzz1]; exact kz
    by_cases nz:zz.n=v.n
    ·have hh:=Qkc (v:=v.tm.n) (S.reverse.map LT.tm) (w:=wq) Ya kz' YaA;rw [hoc2] at hh;rw [hh,if_pos (.inl rfl)] at hrd;refine Zb ?_;clear hS;intro wx53 hS;refine Zbj ?_;refine ZaA ?_;refine Zk ?_;refine ZdJ ?_;refine Zk ?_;refine ZdF ?_;refine ⟨E,F',400-(wq:Nat)-1,hF,hS.drop.drop.drop.drop.drop.drop.drop.drop,fun h=> ?_,fun h=> ?_,fun h h'=> ?_⟩
     ·rw [hrd] at h;exact absurd h (by show¬400<wq+1;omega)
     ·rw [hrd];exact ⟨by show (400:Int)-(wq:Nat)-1=400-((wq+1:Nat):Int);omega,rfl⟩
     ·rw [hrd] at h';cases h'
    ·have hoc3:Qa4 (Qx E) v.tm.n (zz.ar.lts.map LT.tm++S.reverse.map LT.tm) (wq+1)=ro:=by
      have hh:=Qh9 (v:=v.tm.n) (S.reverse.map LT.tm) (w:=wq) Ya kz' YaA;rw [hoc2] at hh
      have hnil:zz.ar.lts=[]:=List.eq_nil_of_length_eq_zero (by
       have:=(QiS tzz kz).2
       have h2:zz.ar.ts.length=0:=by show zz.tm.ar.length=0;rw [this];rfl
       rw [TA.lts_len,←TA.len_ts];exact h2)
      rw [hnil];exact hh.symm
     refine Zb ?_;clear hS;intro wx53 hS;refine Zbj ?_;refine ZaA ?_;refine Zk ?_;refine ZdJ ?_;refine Zk ?_;refine ZU ?_;refine Zf ?_;refine Zcg ?_;refine Zcd ?_
     have hd0:zz.ar.lts.drop zz.ar.len=[]:=by rw [←TA.lts_len];simp
     have htg:=Qeb (T:=zz.ar) (Qac _ tzz);rw [show ((((S++[z]).length:Nat):Int)-1).toNat=(S++(zz.ar.lts.drop zz.ar.len).reverse).length by rw [hd0];simp];obtain ⟨zk,zn,zs,zA,zc,zar⟩:=zz;dsimp only at hzl hd0 htg hoc3;refine Qy 16 14 (126::127::130::131::132::133::134::135::136::137::128::129::[]) (fun (j:Nat) i s w'=>∃(As:Option Addr) (cs:Nat) (Os:List (Nat×Obj)),j≤zar.len∧i= .int .i64 ((j:Nat)-1)∧s= .slice As (S++(zar.lts.drop j).reverse).length cs∧Rw 63 4 (.slice As (S++(zar.lts.drop j).reverse).length cs) (S++(zar.lts.drop j).reverse).length (Qdt (S++(zar.lts.drop j).reverse)) Os∧St M w0 ((b24,.cells [.int .i64 zk,.int .i64 zn,.string zs,.slice zA zar.len zc].toArray 63)::(Os++((b5,.cells (tcs v).toArray 63)::(b6,.cells (tcs u).toArray 63)::(b4,.cells (tcs p.1++tcs p.2).toArray 218)::(b2,.cells (tcs b).toArray 63)::(b1,.cells (tcs a).toArray 63)::(g,.cells (pcs (L++[p])++sp).toArray 218)::H))) F' w') (fun j=>j) (zar.len) ?_ Yb Yb ?_
     ·exact ⟨_,_,_,Nat.le_refl _,rfl,rfl,by rw [hd0];simpa using hrowS,hS⟩
     clear hS;rintro j i s w10 jv4 ⟨As,cs,Os,hj,hi,hs,hrw,hS⟩ ih3;subst hi hs
     cases j with
     |zero=>
      have e0:S++(zar.lts.drop 0).reverse=S++zar.lts.reverse:=rfl;rw [e0] at hrw;refine Zce ?_;refine ZaL ?_;refine ih2 (S++zar.lts.reverse,wq+1) _ _ _ _ ?_ ?_ Yb Yb Yc
      ·show 401-(wq+1)<401-wq;omega
      ·refine ⟨As,cs,Os,rfl,by congr 1;show (400:Int)-(wq:Nat)-1=400-((wq+1:Nat):Int);omega,?_,by show wk<wq+1;omega,by show wq+1≤400;omega,?_,?_,hrw,hS.drop⟩
       ·show Qa4 _ _ ((S++zar.lts.reverse).reverse.map LT.tm) _=ro;rw [List.reverse_append,List.reverse_reverse,List.map_append];exact hoc3
       ·show (S++zar.lts.reverse).length≤24*(wq+1)+1;rw [List.length_append,List.length_reverse,TA.lts_len];omega
       ·intro x hx;rcases List.mem_append.1 hx with hx|hx
        ·exact hATS x hx
        ·have hx:=List.mem_reverse.1 hx;exact ⟨fun w hw=>(hzz2 w hw).lts x hx,htg x hx⟩
     |succ j=>
      obtain ⟨D,R,x,hDx,hDl⟩:=TA.at_split zar j Ya
      have hzA:Und F' (ArA zA zc (D.app (.cons x.k x.n x.s x.A x.c x.ar R))):=by rw [←hDx];exact hzz2
      obtain ⟨bk,ok,rfl⟩:=(hS.und hzA).some_ YH;have hcc:∀{H'} w',St M w0 H' F' w'→_:=fun w' hS=>(hS.und hzA).cells;have eix:(((j+1:Nat):Int)-1).toNat=D.len:=by omega
      rw [←eix] at hcc
      have hdj:zar.lts.drop j=x::zar.lts.drop (j+1):=by
       rw [hDx,TA.lts_app,←hDl,←TA.lts_len D];simp [TA.lts]
      have hgj:(S++(zar.lts.drop j).reverse)=(S++(zar.lts.drop (j+1)).reverse)++[x]:=by rw [hdj];simp
      have hzlen:(zar.lts.drop (j+1)).length≤24:=by rw [List.length_drop,TA.lts_len];omega
      refine Zcf ?_;refine ZT ?_;refine Zcg ?_;refine Ze ?_;refine ZeP ?_;refine Zas ?_;clear hS;intro b25 wx54 hS;refine Ze2 ?_;clear hS;intro v9 O9 w11 hrow9 hS;obtain ⟨A9,c9,rfl,_⟩:=hrow9.form;replace hS:=(hS.perm (List.perm_append_comm_assoc O9 [_,_] _)).drop;refine ZdG ?_;refine ih3 j _ _ _ _ ?_ ?_ Yb Yb Yc
      ·omega
      ·refine ⟨A9,c9,O9,by omega,by congr 1;show (((j+1:Nat):Int)-1)-1=(j:Nat)-1;omega,?_,?_,hS⟩
       ·rw [hgj,List.length_append (bs:=[x])];rfl
       ·rw [hgj,List.length_append (bs:=[x]),Qbi];have:Qdt [x]=tcs x:=by simp [Qdt]
        rw [this];exact hrow9
   ·have hoc3:Qa4 (Qx E) v.tm.n (zz.ar.lts.map LT.tm++S.reverse.map LT.tm) (wq+1)=ro:=by
     have hh:=Qh8 (v:=v.tm.n) (S.reverse.map LT.tm) (w:=wq) Ya (show (Qc (Qx E) z.tm).k≠0 by rw [←hzz1];exact kz);rw [hoc2,←hzz1] at hh;rw [TA.lts_tm];exact hh.symm
    refine Zb ?_;clear hS;intro wx53 hS;refine Zbj ?_;refine ZaA ?_;refine Zk ?_;refine ZbK ?_;refine ZU ?_;refine Zf ?_;refine Zcg ?_;refine Zcd ?_
    have hd0:zz.ar.lts.drop zz.ar.len=[]:=by rw [←TA.lts_len];simp
    have htg:=Qeb (T:=zz.ar) (Qac _ tzz);rw [show ((((S++[z]).length:Nat):Int)-1).toNat=(S++(zz.ar.lts.drop zz.ar.len).reverse).length by rw [hd0];simp];obtain ⟨zk,zn,zs,zA,zc,zar⟩:=zz;dsimp only at hzl hd0 htg hoc3;refine Qy 16 14 (126::127::130::131::132::133::134::135::136::137::128::129::[]) (fun (j:Nat) i s w'=>∃(As:Option Addr) (cs:Nat) (Os:List (Nat×Obj)),j≤zar.len∧i= .int .i64 ((j:Nat)-1)∧s= .slice As (S++(zar.lts.drop j).reverse).length cs∧Rw 63 4 (.slice As (S++(zar.lts.drop j).reverse).length cs) (S++(zar.lts.drop j).reverse).length (Qdt (S++(zar.lts.drop j).reverse)) Os∧St M w0 ((b24,.cells [.int .i64 zk,.int .i64 zn,.string zs,.slice zA zar.len zc].toArray 63)::(Os++((b5,.cells (tcs v).toArray 63)::(b6,.cells (tcs u).toArray 63)::(b4,.cells (tcs p.1++tcs p.2).toArray 218)::(b2,.cells (tcs b).toArray 63)::(b1,.cells (tcs a).toArray 63)::(g,.cells (pcs (L++[p])++sp).toArray 218)::H))) F' w') (fun j=>j) (zar.len) ?_ Yb Yb ?_
    ·exact ⟨_,_,_,Nat.le_refl _,rfl,rfl,by rw [hd0];simpa using hrowS,hS⟩
    clear hS;rintro j i s w10 jv4 ⟨As,cs,Os,hj,hi,hs,hrw,hS⟩ ih3;subst hi hs
    cases j with
    |zero=>
     have e0:S++(zar.lts.drop 0).reverse=S++zar.lts.reverse:=rfl;rw [e0] at hrw;refine Zce ?_;refine ZaL ?_;refine ih2 (S++zar.lts.reverse,wq+1) _ _ _ _ ?_ ?_ Yb Yb Yc
     ·show 401-(wq+1)<401-wq;omega
     ·refine ⟨As,cs,Os,rfl,by congr 1;show (400:Int)-(wq:Nat)-1=400-((wq+1:Nat):Int);omega,?_,by show wk<wq+1;omega,by show wq+1≤400;omega,?_,?_,hrw,hS.drop⟩
      ·show Qa4 _ _ ((S++zar.lts.reverse).reverse.map LT.tm) _=ro;rw [List.reverse_append,List.reverse_reverse,List.map_append];exact hoc3
      ·show (S++zar.lts.reverse).length≤24*(wq+1)+1;rw [List.length_append,List.length_reverse,TA.lts_len];omega
      ·intro x hx;rcases List.mem_append.1 hx with hx|hx
       ·exact hATS x hx
       ·have hx:=List.mem_reverse.1 hx;exact ⟨fun w hw=>(hzz2 w hw).lts x hx,htg x hx⟩
    |succ j=>
     obtain ⟨D,R,x,hDx,hDl⟩:=TA.at_split zar j Ya
     have hzA:Und F' (ArA zA zc (D.app (.cons x.k x.n x.s x.A x.c x.ar R))):=by rw [←hDx];exact hzz2
     obtain ⟨bk,ok,rfl⟩:=(hS.und hzA).some_ YH;have hcc:∀{H'} w',St M w0 H' F' w'→_:=fun w' hS=>(hS.und hzA).cells;have eix:(((j+1:Nat):Int)-1).toNat=D.len:=by omega
     rw [←eix] at hcc
     have hdj:zar.lts.drop j=x::zar.lts.drop (j+1):=by
      rw [hDx,TA.lts_app,←hDl,←TA.lts_len D];simp [TA.lts]
     have hgj:(S++(zar.lts.drop j).reverse)=(S++(zar.lts.drop (j+1)).reverse)++[x]:=by rw [hdj];simp
     have hzlen:(zar.lts.drop (j+1)).length≤24:=by rw [List.length_drop,TA.lts_len];omega
     refine Zcf ?_;refine ZT ?_;refine Zcg ?_;refine Ze ?_;refine ZeP ?_;refine Zas ?_;clear hS;intro b25 wx54 hS;refine Ze2 ?_;clear hS;intro v9 O9 w11 hrow9 hS;obtain ⟨A9,c9,rfl,_⟩:=hrow9.form;replace hS:=(hS.perm (List.perm_append_comm_assoc O9 [_,_] _)).drop;refine ZdG ?_;refine ih3 j _ _ _ _ ?_ ?_ Yb Yb Yc
     ·omega
     ·refine ⟨A9,c9,O9,by omega,by congr 1;show (((j+1:Nat):Int)-1)-1=(j:Nat)-1;omega,?_,?_,hS⟩
      ·rw [hgj,List.length_append (bs:=[x])];rfl
      ·rw [hgj,List.length_append (bs:=[x]),Qbi];have:Qdt [x]=tcs x:=by simp [Qdt]
       rw [this];exact hrow9
  have kv':(Qc (Qx E) p.2.tm).k≠0:=by rw [←hv1];exact kv
  have hno:¬(u.k=v.k∧u.n=v.n∧u.s=v.s∧u.ar.len=v.ar.len)→r=⟨false,Qx E,wk+1⟩:=fun hh=>by
   have:=QsR (L.reverse.map Qlj) (w:=wk) Ya ku' kv' (by
    rw [←hu1,←hv1];rintro ⟨x1,x2,x3,x4⟩
    exact hh ⟨x1,x2,x3,by rw [←TA.len_ts,←TA.len_ts];exact x4⟩)
   exact hrun2.symm.trans this
  have hul:u.ar.len≤24:=by
   have h1:=tu.2;have h2:=Ts.length_le u.ar.ts;rw [TA.len_ts] at h2;have h3:u.ar.ts.nodes+1≤24:=h1;omega
  have hvl:v.ar.len≤24:=by
   have h1:=tv'.2;have h2:=Ts.length_le v.ar.ts;rw [TA.len_ts] at h2;have h3:v.ar.ts.nodes+1≤24:=h1;omega
  by_cases q1:¬(u.k=v.k)
  ·skip
   refine ZdH ?_;refine Zbk ?_;refine Zbk ?_;refine Zb1 ?_;refine Z3 ?_;refine ZcI ?_;refine ZbK ?_;refine Zr ?_;refine ZbK ?_;refine ZcJ ?_;refine ZdF ?_;refine ⟨E,F',400-(wk:Nat)-1,hF,hS.drop.drop.drop.drop.drop.drop,fun h=> ?_,fun h=> ?_,fun h h'=> ?_⟩
   ·rw [hno (fun h=>q1 h.1)] at h;exact absurd h YaB
   ·rw [hno (fun h=>q1 h.1)];exact ⟨by show (400:Int)-(wk:Nat)-1=400-((wk+1:Nat):Int);omega,rfl⟩
   ·rw [hno (fun h=>q1 h.1)] at h';cases h'
  replace q1:=Decidable.not_not.1 q1;by_cases q2:¬(u.n=v.n)
  ·skip
   refine ZdH ?_;refine Zbk ?_;refine Zbk ?_;refine Zb1 ?_;refine Z3 ?_;refine ZcI ?_;refine ZdJ ?_;refine Zo ?_;refine Zr ?_;refine ZbK ?_;refine ZcJ ?_;refine ZdF ?_;refine ⟨E,F',400-(wk:Nat)-1,hF,hS.drop.drop.drop.drop.drop.drop,fun h=> ?_,fun h=> ?_,fun h h'=> ?_⟩
   ·rw [hno (fun h=>q2 h.2.1)] at h;exact absurd h YaB
   ·rw [hno (fun h=>q2 h.2.1)];exact ⟨by show (400:Int)-(wk:Nat)-1=400-((wk+1:Nat):Int);omega,rfl⟩
   ·rw [hno (fun h=>q2 h.2.1)] at h';cases h'
  replace q2:=Decidable.not_not.1 q2;by_cases q3:¬(u.s=v.s)
  ·skip
   refine ZdH ?_;refine Zbk ?_;refine Zbk ?_;refine Zb1 ?_;refine Z3 ?_;refine ZcI ?_;refine ZdJ ?_;refine Zo ?_;refine ZcK ?_;refine ZaQ ?_;refine Za4 ?_;refine ZaQ ?_;refine Zbb ?_;refine ZcJ ?_;refine ZdF ?_;refine ⟨E,F',400-(wk:Nat)-1,hF,hS.drop.drop.drop.drop.drop.drop,fun h=> ?_,fun h=> ?_,fun h h'=> ?_⟩
   ·rw [hno (fun h=>q3 h.2.2.1)] at h;exact absurd h YaB
   ·rw [hno (fun h=>q3 h.2.2.1)];exact ⟨by show (400:Int)-(wk:Nat)-1=400-((wk+1:Nat):Int);omega,rfl⟩
   ·rw [hno (fun h=>q3 h.2.2.1)] at h';cases h'
  replace q3:=Decidable.not_not.1 q3;by_cases q4:¬(u.ar.len=v.ar.len)
  ·skip
   refine ZdH ?_;refine Zbk ?_;refine Zbk ?_;refine Zb1 ?_;refine Z3 ?_;refine ZcI ?_;refine ZdJ ?_;refine Zo ?_;refine ZcK ?_;refine ZaQ ?_;refine Za4 ?_;refine ZaQ ?_;refine Zbb ?_;refine Zfw ?_;refine ZdK ?_;refine ZaQ ?_;refine ZbJ ?_;refine ZdK ?_;refine ZaQ ?_;refine ZbJ ?_;refine Zo ?_;refine ZdF ?_;refine ⟨E,F',400-(wk:Nat)-1,hF,hS.drop.drop.drop.drop.drop.drop,fun h=> ?_,fun h=> ?_,fun h h'=> ?_⟩
   ·rw [hno (fun h=>q4 h.2.2.2)] at h;exact absurd h YaB
   ·rw [hno (fun h=>q4 h.2.2.2)];exact ⟨by show (400:Int)-(wk:Nat)-1=400-((wk+1:Nat):Int);omega,rfl⟩
   ·rw [hno (fun h=>q4 h.2.2.2)] at h';cases h'
  replace q4:=Decidable.not_not.1 q4;clear hno
  have hrd:Qid ((u.ar.lts.zip v.ar.lts).map Qlj++L.reverse.map Qlj) (Qx E) (wk+1)=r:=by
   have:=QsS (L.reverse.map Qlj) (w:=wk) Ya ku' kv' (by
    rw [←hu1,←hv1]
    exact ⟨q1,q2,q3,by show u.ar.ts.length=v.ar.ts.length;rw [TA.len_ts,TA.len_ts];exact q4⟩)
   rw [←hu1,←hv1] at this;rw [QoL,TA.lts_tm,TA.lts_tm];exact this.symm.trans hrun2
  have hzl:(u.ar.lts.zip v.ar.lts).length=u.ar.len:=by rw [List.length_zip,TA.lts_len,TA.lts_len];omega
  have hd0:(u.ar.lts.zip v.ar.lts).drop u.ar.len=[]:=by rw [←hzl];simp
  have htu:=Qeb (T:=u.ar) (Qac _ tu);have htv:=Qeb (T:=v.ar) (Qac _ tv');replace hS:=hS.perm (List.Perm.append_left [_,_] (List.perm_append_comm_assoc [_,_,_] [_] H));refine ZdH ?_;refine Zbk ?_;refine Zbk ?_;refine Zb1 ?_;refine Z3 ?_;refine ZcI ?_;refine ZdJ ?_;refine Zo ?_;refine ZcK ?_;refine ZaQ ?_;refine Za4 ?_;refine ZaQ ?_;refine Zbb ?_;refine Zfw ?_;refine ZdK ?_;refine ZaQ ?_;refine ZbJ ?_;refine ZdK ?_;refine ZaQ ?_;refine ZbJ ?_;refine Zo ?_;refine ZU ?_;refine Zf ?_;refine Zcg ?_;refine Zcd ?_;rw [show ((((L++[p]).length:Nat):Int)-1).toNat=(L++((u.ar.lts.zip v.ar.lts).drop u.ar.len).reverse).length by rw [hd0];simp];obtain ⟨uk,un,us,uA,uc,uar⟩:=u;obtain ⟨vk,vn,vs,vA,vc,var⟩:=v;dsimp only at hzl hd0 htu htv hrd hul hvl q4;refine Qy 17 10 (178::179::182::183::184::185::186::187::188::189::190::191::192::193::194::195::180::181::[]) (fun (j:Nat) i s w'=>∃(As:Option Addr) (cs:Nat) (Os:List (Nat×Obj)),j≤uar.len∧i= .int .i64 ((j:Nat)-1)∧s= .slice As (L++((uar.lts.zip var.lts).drop j).reverse).length cs∧Rw 218 8 (.slice As (L++((uar.lts.zip var.lts).drop j).reverse).length cs) (L++((uar.lts.zip var.lts).drop j).reverse).length (pcs (L++((uar.lts.zip var.lts).drop j).reverse)) Os∧St M w0 ((b5,.cells [.int .i64 uk,.int .i64 un,.string us,.slice uA uar.len uc].toArray 63)::(b6,.cells [.int .i64 vk,.int .i64 vn,.string vs,.slice vA var.len vc].toArray 63)::(Os++((b4,.cells (tcs p.1++tcs p.2).toArray 218)::(b2,.cells (tcs b).toArray 63)::(b1,.cells (tcs a).toArray 63)::H))) F' w') (fun j=>j) (uar.len) ?_ Yb Yb ?_
  ·exact ⟨_,_,_,Nat.le_refl _,rfl,rfl,by rw [hd0];simpa using hrowL,hS⟩
  clear hS;rintro j i s w10 jv4 ⟨As,cs,Os,hj,hi,hs,hrw,hS⟩ ih3;subst hi hs
  cases j with
  |zero=>
   have e0:L++((uar.lts.zip var.lts).drop 0).reverse=L++(uar.lts.zip var.lts).reverse:=rfl;rw [e0] at hrw;refine Zce ?_;refine ZaL ?_;refine ih (L++(uar.lts.zip var.lts).reverse,E,wk+1) _ _ _ _ _ ?_ ?_ Yb Yb Yb Yc
   ·show 401-(wk+1)<401-wk;omega
   ·refine ⟨As,cs,Os,F',rfl,by congr 1;show (400:Int)-(wk:Nat)-1=400-((wk+1:Nat):Int);omega,rfl,?_,by show wk+1≤400;omega,?_,hF,hE,?_,hrw,(hS.drop.drop.perm ((List.perm_append_comm_assoc Os [_] _).trans (List.Perm.cons _ (List.perm_append_comm_assoc Os [_,_] H)))).drop⟩
    ·show Qid ((L++(uar.lts.zip var.lts).reverse).reverse.map Qlj) _ _=r;rw [List.reverse_append,List.reverse_reverse,List.map_append];exact hrd
    ·show (L++(uar.lts.zip var.lts).reverse).length≤24*(wk+1)+1;rw [List.length_append,List.length_reverse,hzl];omega
    ·intro x hx;rcases List.mem_append.1 hx with hx|hx
     ·exact hAL x hx
     ·have hx:=List.mem_reverse.1 hx;have hx1:=List.of_mem_zip (a:=x.1) (b:=x.2) hx;exact ⟨fun w hw=>(hu2 w hw).lts x.1 hx1.1,fun w hw=>(hv2 w hw).lts x.2 hx1.2,htu x.1 hx1.1,htv x.2 hx1.2⟩
  |succ j=>
   obtain ⟨D,R,x,hDx,hDl⟩:=TA.at_split uar j Ya;obtain ⟨D2,R2,y,hDy,hDl2⟩:=TA.at_split var j Ya
   have hA1:Und F' (ArA uA uc (D.app (.cons x.k x.n x.s x.A x.c x.ar R))):=by rw [←hDx];exact hu2
   have hA2:Und F' (ArA vA vc (D2.app (.cons y.k y.n y.s y.A y.c y.ar R2))):=by rw [←hDy];exact hv2
   obtain ⟨bk,ok,rfl⟩:=(hS.und hA1).some_ YH;obtain ⟨bk2,ok2,rfl⟩:=(hS.und hA2).some_ YH;have hcc:∀{H'} w',St M w0 H' F' w'→_:=fun w' hS=>(hS.und hA1).cells;have hcd:∀{H'} w',St M w0 H' F' w'→_:=fun w' hS=>(hS.und hA2).cells;have eix:(((j+1:Nat):Int)-1).toNat=D.len:=by omega
   have eix2:(((j+1:Nat):Int)-1).toNat=D2.len:=by omega
   rw [←eix] at hcc;rw [←eix2] at hcd
   have hxl:uar.lts.drop j=x::R.lts:=by rw [hDx,TA.lts_app,←hDl,←TA.lts_len D];simp [TA.lts]
   have hyl:var.lts.drop j=y::R2.lts:=by rw [hDy,TA.lts_app,←hDl2,←TA.lts_len D2];simp [TA.lts]
   have hdj:(uar.lts.zip var.lts).drop j=(x,y)::(uar.lts.zip var.lts).drop (j+1):=by
    have e1:(uar.lts.zip var.lts).drop j=(x,y)::R.lts.zip R2.lts:=by rw [QkY,hxl,hyl];rfl
    have e2:(uar.lts.zip var.lts).drop (j+1)=R.lts.zip R2.lts:=by rw [←List.drop_drop,e1];rfl
    rw [e1,e2]
   have hgj:L++((uar.lts.zip var.lts).drop j).reverse=(L++((uar.lts.zip var.lts).drop (j+1)).reverse)++[(x,y)]:=by rw [hdj];simp
   have hzlen:((uar.lts.zip var.lts).drop (j+1)).length≤24:=by rw [List.length_drop,hzl];omega
   refine Zcf ?_;refine Qbx 10 (182::183::184::185::186::187::188::189::190::191::192::193::194::195::[]) (fun s w'=>∃(A9:Option Addr) (c9:Nat) (O9:List (Nat×Obj)),s= .slice A9 ((L++((uar.lts.zip var.lts).drop (j+1)).reverse).length+1) c9∧Rw 218 8 (.slice A9 ((L++((uar.lts.zip var.lts).drop (j+1)).reverse).length+1) c9) ((L++((uar.lts.zip var.lts).drop (j+1)).reverse).length+1) (pcs (L++((uar.lts.zip var.lts).drop (j+1)).reverse)++pcs [(x,y)]) O9∧St M w0 ((b5,.cells [.int .i64 uk,.int .i64 un,.string us,.slice (some ⟨bk,ok,none⟩) uar.len uc].toArray 63)::(b6,.cells [.int .i64 vk,.int .i64 vn,.string vs,.slice (some ⟨bk2,ok2,none⟩) var.len vc].toArray 63)::(O9++((b4,.cells (tcs p.1++tcs p.2).toArray 218)::(b2,.cells (tcs b).toArray 63)::(b1,.cells (tcs a).toArray 63)::H))) F' w') ?_ ?_
   ·intro hmeet;refine QaA (fun w=>∃O:List (Nat×Obj),St M w0 ((b5,.cells [.int .i64 uk,.int .i64 un,.string us,.slice (some ⟨bk,ok,none⟩) uar.len uc].toArray 63)::(b6,.cells [.int .i64 vk,.int .i64 vn,.string vs,.slice (some ⟨bk2,ok2,none⟩) var.len vc].toArray 63)::(O++((b4,.cells (tcs p.1++tcs p.2).toArray 218)::(b2,.cells (tcs b).toArray 63)::(b1,.cells (tcs a).toArray 63)::H))) F' w) 15 (.read 0 (.read 1 (.read 2 (.read 3 (.read 4 (.read 5 (.read 6 (.read 7 (.read 8 (.read 9 (.read 10 (.read 11 (.pick 12 (.pick 13 (.read 14 .tail) .none) .none))))))))))))) Yc Yc ⟨_,hS.drew⟩ ?_;replace hS:=hS.drew;refine ZaN ?_;refine Zem ?_;refine Zgx ?_;refine ZaN ?_;refine Zgy ?_;refine Zgz ?_;refine Zem ?_;refine Zgx ?_;refine ZaN ?_;refine Zgy ?_;refine Zgz ?_;refine Qh rfl (fun _ ⟨_,hS⟩=>QB (cells:=[_,_,_,_,_,_,_,_]) (.cons Yb (.cons Yb .nil)) rfl) rfl ?_;refine ZX ?_;refine Zgu ?_;clear hS;intro b23 wx48 hS;refine Qb7 (by first|exact ⟨_,hS⟩|exact ⟨_,hS.drop⟩) ?_;refine ZX ?_;refine Qp0 (u:=(x,y)) hS Yb Yi rfl rfl rfl (Qz.own (sp:=[]) (hS.own (_,_) (.head _)) rfl (Nat.le_refl _)) hrw (List.perm_append_comm_assoc [_,_,_] Os _) (by rw [List.length_append,List.length_reverse];omega) rfl ?_;clear hS;intro v9 O9 w11 hrow9 hS;obtain ⟨A9,c9,rfl,_⟩:=hrow9.form;replace hS:=hS.perm (List.perm_append_comm_assoc O9 [_,_,_] _);refine Qb7 (by first|exact ⟨_,hS⟩|exact ⟨_,hS.drop⟩) ?_;refine Qh rfl (fun _ ⟨_,hS⟩=>QdK Yb) rfl ?_;refine Zhu ?_;exact hmeet _ _ _ ⟨A9,c9,O9,rfl,hrow9,hS.drop⟩ Yb Yc
   clear hS;rintro jv5 _ w12 ⟨A9,c9,O9,rfl,hrow9,hS⟩;refine Zgl ?_;refine ih3 j _ _ _ _ ?_ ?_ Yb Yb Yc
   ·omega
   ·refine ⟨A9,c9,O9,by omega,by congr 1;show (((j+1:Nat):Int)-1)-1=(j:Nat)-1;omega,?_,?_,hS⟩
    ·rw [hgj,List.length_append (bs:=[(x,y)])];rfl
    ·rw [hgj,List.length_append (bs:=[(x,y)]),Qg3];exact hrow9
end
end Go.Proofs.YthliapbflkfdiacGreatDoor
