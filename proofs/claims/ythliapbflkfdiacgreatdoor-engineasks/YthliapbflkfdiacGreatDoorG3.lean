/- Steps of the proof. -/
import Derived.Test.YthliapbflkfdiacGreatDoorG2
set_option linter.unusedVariables false
set_option linter.unusedSimpArgs false
set_option maxRecDepth 100000
set_option maxHeartbeats 1000000
namespace Go.Proofs.YthliapbflkfdiacGreatDoor
open Go.Proofs.Tryz
open Go.RowKit
theorem QsL:(prog.info? 23).map (fun i=>(i.zero,i.size,i.bytes))=some (some (.slice none 0 0),1,24):=by kernel_rfl
theorem Qe3{P:Program}(w:TG)(d:Nat)(t e:TypeId)(a:T4)(l c:Nat)(h:P.underlying t=some (.slice e)):(Op.equalIn (d+1) t (.slice a l c) (.slice none 0 0)).run P w= .ok a.isNone w:=by
 cases a<;>simp[Op.equalIn,VC h]
theorem Qf8{P:Program}(w:TG)(t e:TypeId)(a:T4)(l c:Nat)(h:P.underlying t=some (.slice e)):(Op.equal t (.slice a l c) (.slice none 0 0)).run P w= .ok a.isNone w:=Qe3 w 9999 t e a l c h
theorem run_eql_slice_nil{P:Program}(w:TG)(t e:TypeId)(a:T4)(l c:Nat)(h:P.underlying t=some (.slice e)):(binOp .eql t (.slice a l c) (.slice none 0 0)).run P w= .ok (.bool a.isNone) w:=by
 simp_all[binOp,Qf8]
structure DP(w:TG)(B pb:Nat)(pv:TH)(xs:T5):Prop where
 var:QR w pb 182 #[pv]
 own:w.ownsRow B 23 1 pv xs.length xs
 apart:pv.ownBlock≠some pb
theorem QR.ne_{w:TG}{g g':Nat}{t t':TypeId}{cs Ig:T9}(h:QR w g t cs)(h':QR w g' t' Ig)(oN:t≠t'):g≠g':=by
 grind[QR]
theorem DP.chg{S:Nat->Prop}{w w':TG}{B pb:Nat}{pv:TH}{xs:T5}(h:DP w B pb pv xs)(hc:AM S w w')(h1:¬S pb)(h2:∀g,pv.ownBlock=some g->¬S g):DP w' B pb pv xs:=
 ⟨h.var.chg hc h1,QpG h.own hc h2,h.apart⟩
theorem DP.other{w:TG}{B pb b:Nat}{pv:TH}{xs:T5}{cur:T9}(h:DP w B pb pv xs)(hb:QR w b 63 cur):b≠pb/\pv.ownBlock≠some b:=by
 refine⟨hb.ne_ h.var Yf,fun e=> ?_⟩;rcases h.own.2 with⟨e1,_⟩|⟨g,cap,rF,e1,_,hh,_⟩
 .grind[Value.ownBlock]
 .rw[e1]at e;simp only[Value.ownBlock,XU]at e;subst e;exact hb.ne_ (t':=23) hh Yf rfl
theorem DP.set{w:TG}{B pb b i:Nat}{pv u:TH}{xs:T5}{cur:T9}(h:DP w B pb pv xs)(hb:QR w b 63 cur):DP (w.setCell ⟨b,i,none⟩ u) B pb pv xs:=by
 obtain⟨h1,h2⟩:=h.other hb;exact h.chg ((AM.refl (fun k=>k=b) w).setCell (fun _=>rfl) u) (fun e=>h1 e.symm) fun g hg e=>h2 (by rw[hg,e])
theorem DP.keep{w w':TG}{B pb k:Nat}{pv:TH}{xs:T5}{cur:T9}(h:DP w B pb pv xs)(hc:AM (fun k=>k=pb\/pv.ownBlock=some k) w w')(hk:QR w k 63 cur):QR w' k 63 cur:=by
 grind[other,QR.chg]
theorem QpK(k n:Int)(s:TJ)(A:T4)(l c:Nat)(w:TG):
  Calls prog 133 #[.agg #[.int .i64 k,.int .i64 n,.string s,.slice A l c]] w fun e w'=>e= .returned (.slice (some ⟨w.heap.size+2,0,none⟩) 1 1)/\
   w'=((w.alloc (.cells #[.int .i64 k,.int .i64 n,.string s,.slice A l c] 63)).alloc (.cells #[.int .i64 k,.int .i64 n,.string s,.slice A l c] 63)).alloc (.cells #[.slice (some ⟨w.heap.size+1,0,none⟩) 1 1] 23):=by
 go_enter func133,ntmps133;go_wp2_with fail;go_ret;exact FI
theorem QuA{w:TG}{B pb:Nat}{pv:TH}{ys:T5}{b o cap:Nat}(hp:DP w B pb pv (ys++[.slice (some ⟨b,o,none⟩) 1 cap]))(hn:ys.length<=1073741824):
  Calls prog 134 #[.pointer (some ⟨pb,0,none⟩)] w fun e w'=>e= .returned (.pointer (some ⟨b,o,none⟩))/\
   ∃sF,DP w' B pb sF ys/\sF.ownBlock=pv.ownBlock/\AM (fun k=>k=pb\/pv.ownBlock=some k) w w':=by
 obtain⟨hv,ho,ha⟩:=hp;rcases ho.2 with⟨_,h0⟩|⟨g,cp,cur,rfl,hg,hh,Gk,rH,AP,pY⟩
 .simp at h0
 have c0:w.cell? ⟨pb,0,none⟩=some (.slice (some ⟨g,0,none⟩) (ys++[Value.slice (some ⟨b,o,none⟩) 1 cap]).length cp):=hv.cell 0;have f0:w.frozen? ⟨pb,0,none⟩=false:=hv.frozen 0
 have c1:w.cell? ⟨g,ys.length,none⟩=some (.slice (some ⟨b,o,none⟩) 1 cap):=by
  rw[ho.cellAt _ Yd];simp
 simp only[XG,XJ,XP,XQ]at c0 Gk;have Aq:g≠pb:=fun e=>ha (by rw[e];rfl)
 have rP:DP (w.setCell ⟨pb,0,none⟩ (.slice (some ⟨g,0,none⟩) ys.length cp)) B pb (.slice (some ⟨g,0,none⟩) ys.length cp) ys:=by
  refine⟨hv.set_ 0 _,⟨by simp,.inr ⟨g,cp,cur,rfl,hg,(JT _ _ _ _ Aq).trans hh,by omega,rH,AP,?_⟩⟩,by grind[Value.ownBlock]⟩;have:=XM (List.take (ys.length*1)) pY;grind
 have uN:AM (fun k=>k=pb\/(Value.slice (some ⟨g,0,none⟩) (ys++[Value.slice (some ⟨b,o,none⟩) 1 cap]).length cp).ownBlock=some k) w (w.setCell ⟨pb,0,none⟩ (.slice (some ⟨g,0,none⟩) ys.length cp)):=
  (AM.refl _ _).setCell (fun _=> .inl rfl) _
 clear hv ho ha pY;go_enter func134,ntmps134;exact Yd0
theorem Quz{w:TG}{B pb:Nat}{pv:TH}{ys:T5}{b o l cap:Nat}(hp:DP w B pb pv (ys++[.slice (some ⟨b,o,none⟩) (l+2) cap]))(hn:ys.length<=1073741824)(hl:l<=1073741824)(hc:l+2<=cap):
  Calls prog 134 #[.pointer (some ⟨pb,0,none⟩)] w fun e w'=>e= .returned (.pointer (some ⟨b,o,none⟩))/\
   ∃sF,DP w' B pb sF (ys++[.slice (some ⟨b,o+4,none⟩) (l+1) (cap-1)])/\sF.ownBlock=pv.ownBlock/\AM (fun k=>k=pb\/pv.ownBlock=some k) w w':=by
 obtain⟨hv,ho,ha⟩:=hp;rcases ho.2 with⟨_,h0⟩|⟨g,cp,cur,rfl,hg,hh,Gk,rH,AP,pY⟩
 .simp at h0
 have c0:w.cell? ⟨pb,0,none⟩=some (.slice (some ⟨g,0,none⟩) (ys++[Value.slice (some ⟨b,o,none⟩) (l+2) cap]).length cp):=hv.cell 0
 have c1:w.cell? ⟨g,ys.length,none⟩=some (.slice (some ⟨b,o,none⟩) (l+2) cap):=by
  rw[ho.cellAt _ Yd];simp
 have f1:w.frozen? ⟨g,ys.length,none⟩=false:=ho.frozenAt _;simp only[XG,XJ,XP,XQ]at c0 Gk;have Aq:g≠pb:=fun e=>ha (by rw[e];rfl);have oM:=(ho.stored ys.length (.slice (some ⟨b,o+4,none⟩) (l+1) (cap-1))).1
 have rP:DP (w.setCell ⟨g,ys.length,none⟩ (.slice (some ⟨b,o+4,none⟩) (l+1) (cap-1))).drew B pb (.slice (some ⟨g,0,none⟩) (ys.length+1) cp) (ys++[.slice (some ⟨b,o+4,none⟩) (l+1) (cap-1)]):=by
  refine⟨?_,?_,by grind⟩
  .have:=hv.far (p:=⟨g,ys.length,none⟩) (JS Aq) (.slice (some ⟨b,o+4,none⟩) (l+1) (cap-1));simp only[XG,XJ,XP,XQ]at this;exact BS
  .simp at oM;have e:(ys++[Value.slice (some ⟨b,o+4,none⟩) (l+1) (cap-1)]).length=ys.length+1:=by simp
   rw[e];exact oM
 have uN:AM (fun k=>k=pb\/(Value.slice (some ⟨g,0,none⟩) (ys++[Value.slice (some ⟨b,o,none⟩) (l+2) cap]).length cp).ownBlock=some k) w (w.setCell ⟨g,ys.length,none⟩ (.slice (some ⟨b,o+4,none⟩) (l+1) (cap-1))).drew:=
  ((AM.refl _ _).setCell (fun _=> .inr rfl) _).drew
 have tH:(((l+2:Nat):Int)==1)=false:=by grind
 clear hv ho ha pY oM;go_enter func134,ntmps134;go_wp2_with fail;go_region;exact Yd0
theorem Qxn{w:TG}(v:TH)(A:T4)(c:Nat):Calls prog 136 #[v,.slice A 0 c] w fun e w'=>e= .returned (.tuple #[])/\w=w':=by
 go_enter func136,ntmps136;go_wp2_with fail;go_end0;exact FI
theorem Qxm{w:TG}{B pb:Nat}{pv:TH}{xs:T5}{A:T4}{l c:Nat}(hp:DP w B pb pv xs)(hB:B<=w.heap.size)(hn:xs.length<=1073741824):
  Calls prog 136 #[.pointer (some ⟨pb,0,none⟩),.slice A (l+1) c] w fun e w'=>e= .returned (.tuple #[])/\
   ∃sF,DP w' B pb sF (xs++[.slice A (l+1) c])/\(sF.ownBlock=pv.ownBlock\/∃g,sF.ownBlock=some g/\w.heap.size<=g)/\AM (fun k=>k=pb\/pv.ownBlock=some k) w w':=by
 obtain⟨hv,ho,ha⟩:=hp;obtain⟨i0,uZ,vB,sY,vX⟩:=TS QsL;have c0:w.cell? ⟨pb,0,none⟩=some pv:=hv.cell 0;have hW:Below w.heap.size w (w.alloc (.cells #[.slice A (l+1) c] 23)):=(XR _ _).alloc (XF _) _;have Gp:=Qun ho hW;have pU:=hv.lt;have HB:=XH ha;clear ha;go_enter func136,ntmps136;go_wp2_with (at_builtin;refine QbI _ rfl (.tmp 10) (.tmp 12) _ rfl B 23 i0 _ 1 24 underlying182 uZ vB sY vX rfl Ya pv xs.length xs rfl Gp ⟨w.heap.size,0,none⟩ 1 1 [.slice A (l+1) c] rfl rfl (QmQ w [.slice A (l+1) c] 23) (by simp[Value.oneCell']) Yk Ya Yg ?next)
 case next=>
  intro _ w' Cb hg AD;have cp:QR w' pb 182 #[pv]:=(hv.alloc _).grown hg (fun e=>HB.out e.symm);have c1:w'.cell? ⟨pb,0,none⟩=some pv:=cp.cell 0;have f1:w'.frozen? ⟨pb,0,none⟩=false:=cp.frozen 0;rcases Cb.2 with⟨_,h0⟩|⟨g,cap,cur,rfl,hgB,hh,Gk,rH,AP,pY⟩
  .omega
  have oN:g≠pb:=by
   grind[Value.ownBlock,Hid.out]
  have rP:DP (w'.setCell ⟨pb,0,none⟩ (.slice (some ⟨g,0,none⟩) (xs.length+1) cap)) B pb (.slice (some ⟨g,0,none⟩) (xs.length+1) cap) (xs++[.slice A (l+1) c]):=by
   refine⟨cp.set_ 0 _,?_,by grind[Value.ownBlock]⟩;grind[ownsRow_setCell_other,Value.ownBlock]
  have xI:(Value.slice (some ⟨g,0,none⟩) (xs.length+1) cap).ownBlock=pv.ownBlock\/∃g',(Value.slice (some ⟨g,0,none⟩) (xs.length+1) cap).ownBlock=some g'/\w.heap.size<=g':=by
   grind
  have uN:AM (fun k=>k=pb\/pv.ownBlock=some k) w (w'.setCell ⟨pb,0,none⟩ (.slice (some ⟨g,0,none⟩) (xs.length+1) cap)):=by
   refine AM.setCell ?_ (fun _=> .inl rfl) _;exact((AM.refl _ w).alloc _).trans (AM.of_grown hg) fun k _ e=> .inr e
  have HX:=XH xI;clear AD xI pY Cb;go_wp2_with fail;go_end0;grind[Hid.out]
def Raw(w:TG)(v:TH)(l:Nat)(xs:T5):Prop:=
 ∃A c,v= .slice A l c/\l<=c/\xs.length=l*4/\(∀u∈xs,u.oneCell'=true)/\(0<l->∃b o,A=some ⟨b,o,none⟩/\∀j u,xs[j]?=some u->w.cell? ⟨b,o+j,none⟩=some u)
theorem Sl.raw{w:TG}{p:Nat->Prop}{v:TH}{T:Ts}(h:Sl w p v T):∃xs,Raw w v T.length xs/\Cs w p T xs:=by
 obtain⟨A,c,rfl,hc,hs⟩:=h;rcases JW T.length with h|h
 .rw[Ts.nil_of_length h];exact⟨[],⟨A,c,rfl,J8 _,rfl,fun u hu=>(by cases hu),fun h=>absurd h (S2 _)⟩,rfl⟩
 .obtain⟨b,o,e,vV⟩:=hs h;obtain⟨xs,h1,h2⟩:=vV.cells;exact⟨xs,⟨A,c,rfl,hc,h1.length,h1.one,fun _=>⟨b,o,e,h2⟩⟩,h1⟩
theorem QoN{w:TG}{v:TH}{l:Nat}{xs:T5}(hv:Raw w v l xs)(hn:l<=1073741824):
  Calls prog 179 #[v] w fun e w'=>∃v',e= .returned v'/\w'.ownsRow w.heap.size 63 4 v' l xs/\Below w.heap.size w w':=by
 obtain⟨A,c,rfl,hc,oG,tZ,hs⟩:=hv;have oV:∀W,(binOp .eql 23 (.slice A l c) (.slice none 0 0)).run prog W= .ok (.bool A.isNone) W:=fun W=>run_eql_slice_nil W _ _ A _ c underlying23
 cases A with
 |none=>
  have hl:l=0:=by
   grind
  subst hl;have hx:xs=[]:=VL (by omega);subst hx;clear oG hs tZ;go_enter func179,ntmps179;go_wp2_with fail;go_ret;exact⟨_,rfl,XaI _ _ _ _,XR _ _⟩
 |some a=>
  obtain⟨i0,uZ,vB,sY,vX⟩:=TS QgS
  have oL:∀j u,xs[j]?=some u->w.cell? (a.add j)=some u:=by
   grind[Addr.add]
  have hW:Below w.heap.size w (w.alloc (.cells #[] 63)):=(XR _ _).alloc (XF _) _
  have ho:(w.alloc (.cells #[] 63)).ownsRow w.heap.size 63 4 (.slice (some ⟨w.heap.size,0,none⟩) 0 0) 0 []:=by
   simpa using World.ownsRow_lit (base:=w.heap.size) (e:=63) (size:=4) w #[] 0 (XF _) (by omega) Yd
  have yO:∀j u,xs[j]?=some u->(w.alloc (.cells #[] 63)).cell? (a.add j)=some u:=fun j u hu=>(hW.cell (P5 (oL j u hu))).trans (oL j u hu);have H1:=XH yO;have H2:=XH tZ;have H3:=XH oG;clear oL yO hs tZ oG;go_enter func179,ntmps179;go_wp2_with (at_builtin;refine QbI _ rfl (.tmp 5) (.tmp 6) _ rfl w.heap.size 63 i0 _ 4 56 underlying23 uZ vB sY vX rfl Ya _ 0 [] rfl ho a l c xs rfl H3.out H1.out H2.out Yk Ya Yd ?next)
  case next=>
   intro v' w' Cb hg _
   have hb:Below w.heap.size w w':=by
    refine hW.grown hg Yd fun k hk=> ?_;grind[Value.ownBlock]
   go_wp2_with fail;go_ret;simp_all
structure E8 where
 b:Nat
 o:Nat
 T:Ts
def push(T:Ts)(b o:Nat)(L:List E8):List E8:=if T.length=0 then L else⟨b,o,T⟩::L
def QV(L:List E8):Nat:=(L.map fun l=>l.T.nodes).sum
theorem OZ(T:Ts)(b o:Nat)(L:List E8):QV (push T b o L)=T.nodes+QV L:=by
 grind[QV,push,Ts.nodes,Ts.nil_of_length]
def PV:List E8->T5->Prop
 |[],xs=>xs=[]
 |l::r,xs=>∃ys cap,xs=ys++[.slice (some ⟨l.b,l.o,none⟩) l.T.length cap]/\l.T.length<=cap/\0<l.T.length/\PV r ys
theorem PV.length:∀{L:List E8} {xs:T5},PV L xs->xs.length=L.length
 |[],xs,h=>by rw[show xs=[]from h];rfl
 |l::r,xs,⟨ys,cap,e,_,_,h⟩=>by rw[e];simp[h.length]
theorem PV.le:∀{L:List E8} {xs:T5},PV L xs->L.length<=QV L
 |[],xs,h=>by simp[QV]
 |l::r,xs,⟨ys,cap,e,_,h0,h⟩=>by
  have:=h.le;grind[Ts.length_le,QV]
theorem Qq8{w:TG}{B pb:Nat}{pv:TH}{xs:T5}{b o:Nat}{k n:Int}{s:TJ}{ar r:Ts}{L:List E8}(hp:DP w B pb pv xs)(hv:PV (⟨b,o,.cons k n s ar r⟩::L) xs)(hn:QV (⟨b,o,.cons k n s ar r⟩::L)<=1073741824):
  Calls prog 134 #[.pointer (some ⟨pb,0,none⟩)] w fun e w'=>e= .returned (.pointer (some ⟨b,o,none⟩))/\
   ∃sF xJ,DP w' B pb sF xJ/\PV (push r b (o+4) L) xJ/\sF.ownBlock=pv.ownBlock/\AM (fun k=>k=pb\/pv.ownBlock=some k) w w':=by
 have oW:=hv.le;obtain⟨ys,cap,rfl,pQ,_,sP⟩:=hv;have Na:=sP.length;have Jy:=r.length_le;simp only[XJ,QV,VE,J9,Ts.nodes]at oW hn;simp only[Ts.length]at hp pQ
 cases hr:r.length with
 |zero=>
  rw[hr]at hp;refine(QuA hp Ya).mono ?_;grind[push]
 |succ l=>
  rw[hr]at hp pQ;refine(Quz hp Ya Ya pQ).mono ?_;rintro e w' ⟨he,sF,h1,h2,h3⟩;refine⟨he,sF,_,h1,?_,h2,h3⟩;have e:push r b (o+4) L=⟨b,o+4,r⟩::L:=by simp[push,hr]
  rw[e];exact⟨ys,cap-1,by rw[hr],by grind,by grind,sP⟩
theorem Qqi{w:TG}{B pb:Nat}{pv:TH}{xs:T5}{A:T4}{c:Nat}{T:Ts}{b o:Nat}{L:List E8}(hp:DP w B pb pv xs)(hv:PV L xs)(hB:B<=w.heap.size)(hn:QV L<=1073741824)(hc:T.length<=c)(hA:0<T.length->A=some ⟨b,o,none⟩):
  Calls prog 136 #[.pointer (some ⟨pb,0,none⟩),.slice A T.length c] w fun e w'=>e= .returned (.tuple #[])/\
   ∃sF xJ,DP w' B pb sF xJ/\PV (push T b o L) xJ/\(sF.ownBlock=pv.ownBlock\/∃g,sF.ownBlock=some g/\w.heap.size<=g)/\AM (fun k=>k=pb\/pv.ownBlock=some k) w w':=by
 have oW:=hv.le;have Na:=hv.length
 cases hl:T.length with
 |zero=>
  refine(Qxn _ _ _).mono ?_;grind[push,AM.refl]
 |succ l=>
  refine(Qxm hp hB Ya).mono ?_;rintro e w' ⟨he,sF,h1,h2,h3⟩;refine⟨he,sF,_,h1,?_,h2,h3⟩;have e:push T b o L=⟨b,o,T⟩::L:=by simp[push,hl]
  rw[e];refine⟨xs,c,?_,hc,by grind,hv⟩;grind
def CL(vars k n:Int)(s:TJ)(l:Nat):Bool:=
 if k=0 then decide (0<=n)&&decide (n<vars)&&decide (s.toList=[])&&decide (l=0)
 else if k=1 then decide (n=0)&&DR s&&decide (l=0)
 else if k=2 then decide (-1099511627776<=n)&&decide (n<=1099511627776)&&decide (s.toList=[])&&decide (l=0)
 else if k=3 then decide (n=0)&&DR s&&decide (¬s.toList=[33])&&decide (1<=l)&&decide (l<=4)
 else false
theorem N3{a b:Bool}(h:a=b):Ending.returned (.bool a)= .returned (.bool b):=by rw[h]
theorem Qow(vars k n:Int)(s:TJ)(A:T4)(l c:Nat)(w:TG):
  Calls prog 135 #[.agg #[.int .i64 k,.int .i64 n,.string s,.slice A l c],.int .i64 vars] w fun e w'=>e= .returned (.bool (CL vars k n s l))/\Below w.heap.size w w':=by
 by_cases h0:k=0
 .subst h0;have R:=XH (show CL vars 0 n s l=(decide (0<=n)&&decide (n<vars)&&decide (s.toList=[])&&decide (l=0)) by simp[CL]);go_enter func135,ntmps135;go_wp2_with fail
  all_goals go_ret
  all_goals refine⟨?_,(XR _ _).alloc (XF _) _⟩
  all_goals rw[R.out]
  all_goals refine N3 ?_
  all_goals rw[JX]
  all_goals simp[*]
  all_goals try omega
 have g0:(k==0)=false:=by grind
 by_cases h1:k=1
 .subst h1;have R:=XH (show CL vars 1 n s l=(decide (n=0)&&DR s&&decide (l=0)) by simp[CL]);clear h0 g0;cases hb:DR s
  all_goals
   have HB:=XH hb;clear hb;go_enter func135,ntmps135;go_wp2_with (go_at_call 184;refine(Qn7 _ _).mono ?_;rintro e w' ⟨rfl,rfl⟩;rw[HB.out])
   all_goals go_ret
   all_goals refine⟨?_,(XR _ _).alloc (XF _) _⟩
   all_goals rw[R.out,HB.out]
   all_goals refine N3 ?_
   all_goals rw[JX]
   all_goals simp[*]
   all_goals try omega
 have g1:(k==1)=false:=by grind
 by_cases h2:k=2
 .subst h2;have R:=XH (show CL vars 2 n s l=(decide (-1099511627776<=n)&&decide (n<=1099511627776)&&decide (s.toList=[])&&decide (l=0)) by simp[CL]);clear h0 g0 h1 g1;go_enter func135,ntmps135;go_wp2_with fail
  all_goals go_ret
  all_goals refine⟨?_,(XR _ _).alloc (XF _) _⟩
  all_goals rw[R.out]
  all_goals refine N3 ?_
  all_goals rw[JX]
  all_goals simp[*]
  all_goals try omega
 have g2:(k==2)=false:=by grind
 by_cases h3:k=3
 .subst h3;clear h0 g0 h1 g1 h2 g2;by_cases hn:n=0
  .subst hn;have R:=XH (show CL vars 3 0 s l=(DR s&&decide (¬s.toList=[33])&&decide (1<=l)&&decide (l<=4)) by simp[CL]);cases hb:DR s
   all_goals
    have HB:=XH hb;clear hb;go_enter func135,ntmps135;go_wp2_with (go_at_call 184;refine(Qn7 _ _).mono ?_;rintro e w' ⟨rfl,rfl⟩;rw[HB.out])
    all_goals go_ret
    all_goals refine⟨?_,(XR _ _).alloc (XF _) _⟩
    all_goals rw[R.out,HB.out]
    all_goals refine N3 ?_
    all_goals rw[JX]
    all_goals simp[*]
    all_goals try omega
  .have hn':(n==0)=false:=by grind
   have R:=XH (show CL vars 3 n s l=false by simp[CL,hn]);clear hn;exact Yeb
 have g3:(k==3)=false:=by grind
 have R:=XH (show CL vars k n s l=false by grind[CL]);clear h0 h1 h2 h3;exact Yeb
def RJ(w:TG)(G:T6)(k:Nat):Prop:=k<w.heap.size\/k∈G
structure V1(w:TG)(G:T6)(pb:Nat)(L:List E8)(pv:TH)(xs:T5)(wr:TG):Prop where
 path:DP wr w.heap.size pb pv xs
 pbl:w.heap.size<=pb
 pvs:PV L xs
 lev:∀l∈L,CY wr (RJ w G) l.T l.b l.o
 rows:∀g∈G,∃c,QR wr g 63 c
 chg:Below w.heap.size w wr
section
variable{w wr w':TG}{G:T6}{pb:Nat}{L:List E8}{pv:TH}{xs:T5}
theorem V1.keep(h:V1 w G pb L pv xs wr)(hc:AM (fun k=>k=pb\/pv.ownBlock=some k) wr w'):∀k,RJ w G k->k<wr.heap.size->w'.heap[k]?=wr.heap[k]?:=by
 intro k hk hl;refine hc.block k hl fun hS=> ?_;rcases hk with hk|hk
 .rcases hS with e|e
  .have:=h.pbl;omega
  .have:=(h.path.own.lt _ e).1;omega
 .obtain⟨c,hb⟩:=h.rows k hk;obtain⟨h1,h2⟩:=h.path.other hb;grind
theorem V1.chg'(h:V1 w G pb L pv xs wr)(hc:AM (fun k=>k=pb\/pv.ownBlock=some k) wr w'):Below w.heap.size w w'/\(∀g∈G,∃c,QR w' g 63 c):=by
 refine⟨h.chg.trans (hc.below h.chg.size fun k hk _=> ?_),fun g hg=> ?_⟩
 .rcases hk with e|e
  .have:=h.pbl;omega
  .exact(h.path.own.lt _ e).1
 .obtain⟨c,hb⟩:=h.rows g hg;exact⟨c,h.path.keep hc hb⟩
theorem V1.aside(h:V1 w G pb L pv xs wr)(hb:Below wr.heap.size wr w'):V1 w G pb L pv xs w' where
 path:=h.path.chg (AM.of_fresh (S:=fun _=>False) hb) (fun h=>h) fun _ _ h=>h
 pbl:=h.pbl
 pvs:=h.pvs
 lev:=fun l hl=>(h.lev l hl).below hb
 rows:=fun g hg=>by
  obtain⟨c,h1⟩:=h.rows g hg;exact⟨c,h1.below hb⟩
 chg:=h.chg.trans (hb.mono h.chg.size)
theorem Qrg{T:Ts}{b o:Nat}{p:Nat->Prop}(hT:0<T.length->CY wr p T b o)(hL:∀l∈L,CY wr p l.T l.b l.o):∀l∈push T b o L,CY wr p l.T l.b l.o:=by
 grind[push]
theorem V1.next{b o:Nat}{k n:Int}{s:TJ}{ar r:Ts}(h:V1 w G pb (⟨b,o,.cons k n s ar r⟩::L) pv xs wr)(hn:QV (⟨b,o,.cons k n s ar r⟩::L)<=1048576):
  Calls prog 134 #[.pointer (some ⟨pb,0,none⟩)] wr fun e w'=>e= .returned (.pointer (some ⟨b,o,none⟩))/\
   ∃sF xJ,V1 w G pb (push r b (o+4) L) sF xJ w'/\CY w' (RJ w G) (.cons k n s ar r) b o/\sF.ownBlock=pv.ownBlock/\AM (fun k=>k=pb\/pv.ownBlock=some k) wr w':=by
 refine(Qq8 h.path h.pvs (X9 hn Ya)).mono ?_;rintro e w' ⟨he,sF,xJ,h1,h2,h3,h4⟩;have hk:=h.keep h4;have hs:CY w' (RJ w G) (.cons k n s ar r) b o:=(h.lev _ (X8 ..)).keep hk;obtain⟨h5,h6⟩:=h.chg' h4;refine⟨he,sF,xJ,⟨h1,h.pbl,h2,?_,h6,h5⟩,hs,h3,h4⟩;exact Qrg (fun _=>(Q6.1 hs).2.2.2.2.2) fun l hl=>(h.lev l (XZ _ hl)).keep hk
theorem V1.add{T:Ts}{A:T4}{c:Nat}(h:V1 w G pb L pv xs wr)(hv:Sl wr (RJ w G) (.slice A T.length c) T)(hn:QV L<=1048576):
  Calls prog 136 #[.pointer (some ⟨pb,0,none⟩),.slice A T.length c] wr fun e w'=>e= .returned (.tuple #[])/\
   ∃sF xJ b o,V1 w G pb (push T b o L) sF xJ w'/\(sF.ownBlock=pv.ownBlock\/∃g,sF.ownBlock=some g/\wr.heap.size<=g)/\AM (fun k=>k=pb\/pv.ownBlock=some k) wr w':=by
 obtain⟨_,_,e,hc,hs⟩:=hv;simp only[JV,WG]at e;obtain⟨rfl,rfl⟩:=e
 obtain⟨b,o,hA⟩:∃b o,0<T.length->A=some ⟨b,o,none⟩/\CY wr (RJ w G) T b o:=by
  rcases JW T.length with h|h
  .simp_all
  grind
 refine(Qqi (b:=b) (o:=o) h.path h.pvs h.chg.size (X9 hn Ya) hc fun h=>(hA h).1).mono ?_;rintro e w' ⟨he,sF,xJ,h1,h2,h3,h4⟩;have hk:=h.keep h4;obtain⟨h5,h6⟩:=h.chg' h4;refine⟨he,sF,xJ,b,o,⟨h1,h.pbl,h2,?_,h6,h5⟩,h3,h4⟩;exact Qrg (fun hp=>(hA hp).2.keep hk) fun l hl=>(h.lev l hl).keep hk
end
theorem V1.start{w W:TG}{G:T6}{ga gp pb:Nat}{k n:Int}{s:TJ}{A:T4}{c:Nat}{ar:Ts}(hv:Sl w (fun _=>True) (.slice A ar.length c) ar)(hW:Below w.heap.size w W)
  (h1:QR W ga 63 #[.int .i64 k,.int .i64 n,.string s,.slice A ar.length c]) (h2:QR W gp 23 #[.slice (some ⟨ga,0,none⟩) 1 1]) (h3:QR W pb 182 #[.slice (some ⟨gp,0,none⟩) 1 1])
  (hG:ga∈G) (hr:∀g∈G,∃c,QR W g 63 c) (Aq:w.heap.size<=gp) (Xc:w.heap.size<=pb):
  V1 w G pb [⟨ga,0,.cons k n s ar .nil⟩] (.slice (some ⟨gp,0,none⟩) 1 1) [.slice (some ⟨ga,0,none⟩) 1 1] W:=by
 refine⟨⟨h3,⟨rfl,.inr ⟨gp,1,_,rfl,Aq,h2,XF _,by simp[maxLen],rfl,rfl⟩⟩,?_⟩,Xc,⟨[],1,rfl,XF _,Nat.zero_lt_one,rfl⟩,?_,hr,hW⟩
 .grind[Value.ownBlock,QR.ne_]
 .intro l hl;have e:l=⟨ga,0,.cons k n s ar .nil⟩:=by grind
  subst e;refine Q6.2 ⟨.inr hG,h1.cell 0,h1.cell 1,h1.cell 2,⟨_,h1.cell 3,?_⟩,trivial⟩;exact(hv.imp (q:=RJ w G) fun k _ h=> .inl h).below hW
def Ts.good(vars:Int):Ts->Bool
 | .nil=>true
 | .cons k n s ar r=>CL vars k n s ar.length&&ar.good vars&&r.good vars
def PR(vars:Int)(L:List E8):Bool:=L.all fun l=>l.T.good vars
theorem QlL(vars:Int)(T:Ts)(b o:Nat)(L:List E8):PR vars (push T b o L)=(T.good vars&&PR vars L):=by
 grind[PR,push,Ts.good,Ts.nil_of_length]
def Qr0(w:TG)(G:T6)(pb:Nat)(T:Ts)(vars:Int)(g:Nat)(wr:TG):Prop:=
 ∃L pv xs,V1 w G pb L pv xs wr/\g=QV L/\QV L<=T.nodes/\T.good vars=PR vars L
theorem Qif(k n vars:Int)(s:TJ)(ar:Ts)(v:TH)(w:TG)(hv:Sl w (fun _=>True) v ar)(hn:ar.nodes<1048576):
  Calls prog 86 #[.agg #[.int .i64 k,.int .i64 n,.string s,v],.int .i64 vars] w fun e w'=>e= .returned (.bool ((Ts.cons k n s ar .nil).good vars))/\Below w.heap.size w w':=by
 obtain⟨A,c,rfl,hs⟩:=hv.form;go_enter func86,ntmps86;go_wp2_with (go_at_call 133;refine(QpK _ _ _ _ _ _ _).mono ?_;rintro e w1 ⟨rfl,rfl⟩);have hW:Below w.heap.size w (((((w.alloc (.cells #[.int .i64 k,.int .i64 n,.string s,.slice A ar.length c] 63)).alloc (.cells #[.int .i64 k,.int .i64 n,.string s,.slice A ar.length c] 63)).alloc (.cells #[.int .i64 k,.int .i64 n,.string s,.slice A ar.length c] 63)).alloc (.cells #[.slice (some ⟨w.heap.size+1+1,0,none⟩) 1 1] 23)).alloc (.cells #[.slice (some ⟨w.heap.size+1+1+1,0,none⟩) 1 1] 182)):=(((((XR _ _).alloc (XF _) _).alloc Yd _).alloc Yg _).alloc Yg _).alloc Yg _
 have Js:V1 w [w.heap.size+1+1] (w.heap.size+1+1+1+1) [⟨w.heap.size+1+1,0,.cons k n s ar .nil⟩] (.slice (some ⟨w.heap.size+1+1+1,0,none⟩) 1 1) [.slice (some ⟨w.heap.size+1+1,0,none⟩) 1 1] (((((w.alloc (.cells #[.int .i64 k,.int .i64 n,.string s,.slice A ar.length c] 63)).alloc (.cells #[.int .i64 k,.int .i64 n,.string s,.slice A ar.length c] 63)).alloc (.cells #[.int .i64 k,.int .i64 n,.string s,.slice A ar.length c] 63)).alloc (.cells #[.slice (some ⟨w.heap.size+1+1,0,none⟩) 1 1] 23)).alloc (.cells #[.slice (some ⟨w.heap.size+1+1+1,0,none⟩) 1 1] 182)):=by
  have b1:=((QR.new ((w.alloc (.cells #[.int .i64 k,.int .i64 n,.string s,.slice A ar.length c] 63)).alloc (.cells #[.int .i64 k,.int .i64 n,.string s,.slice A ar.length c] 63)) 63 #[.int .i64 k,.int .i64 n,.string s,.slice A ar.length c]).alloc (.cells #[.slice (some ⟨w.heap.size+1+1,0,none⟩) 1 1] 23)).alloc (.cells #[.slice (some ⟨w.heap.size+1+1+1,0,none⟩) 1 1] 182);have b2:=((QR.new (((w.alloc (.cells #[.int .i64 k,.int .i64 n,.string s,.slice A ar.length c] 63)).alloc (.cells #[.int .i64 k,.int .i64 n,.string s,.slice A ar.length c] 63)).alloc (.cells #[.int .i64 k,.int .i64 n,.string s,.slice A ar.length c] 63)) 23 #[.slice (some ⟨w.heap.size+1+1,0,none⟩) 1 1])).alloc (.cells #[.slice (some ⟨w.heap.size+1+1+1,0,none⟩) 1 1] 182);grind[QR.new,V1.start,World.size_alloc]
 have h0:Qr0 w [w.heap.size+1+1] (w.heap.size+1+1+1+1) (.cons k n s ar .nil) vars (ar.nodes+1) (((((w.alloc (.cells #[.int .i64 k,.int .i64 n,.string s,.slice A ar.length c] 63)).alloc (.cells #[.int .i64 k,.int .i64 n,.string s,.slice A ar.length c] 63)).alloc (.cells #[.int .i64 k,.int .i64 n,.string s,.slice A ar.length c] 63)).alloc (.cells #[.slice (some ⟨w.heap.size+1+1,0,none⟩) 1 1] 23)).alloc (.cells #[.slice (some ⟨w.heap.size+1+1+1,0,none⟩) 1 1] 182)):=
  ⟨_,_,_,Js,by simp[QV,Ts.nodes],by simp[QV],by simp[PR]⟩
 clear Js;go_loopg [] (ar.nodes+1) (Qr0 w [w.heap.size+1+1] (w.heap.size+1+1+1+1) (.cons k n s ar .nil) vars)
 case atStart=>exact h0
 case round =>
  clear h0;obtain⟨L,pv,xs,hrel,hg,Ov,rK⟩:=hrel;have HG:=XH hg;have HD:=XH rK;have Ow:=hrel.pvs.length;simp only[Ts.nodes]at Ov;obtain⟨Ap,cp,Cc⟩:=TL hrel.path.own;subst Cc;have cpb:wr.cell? ⟨w.heap.size+1+1+1+1,0,none⟩=some (.slice Ap xs.length cp):=hrel.path.var.cell 0;clear hg rK
  cases L with
  |nil=>
   have hx:xs=[]:=hrel.pvs;subst hx;have hb:=hrel.chg;clear hrel Ow;go_wp2_with fail;go_ret;exact⟨by rw[HD.out];rfl,hb⟩
  |cons l Ls=>
   obtain⟨b,o,T1⟩:=l
   cases T1 with
   |nil=>obtain⟨_,_,_,_,h,_⟩:=hrel.pvs;simp[Ts.length]at h
   |cons k1 n1 s1 a1 r1=>
   have Ii:0<xs.length:=by grind
   have Nb:QV (⟨b,o,.cons k1 n1 s1 a1 r1⟩::Ls)<=1048576:=by omega
   have Xl:QV (push r1 b (o+4) Ls)<=1048576:=by
    exact Yd1
   go_wp2_with fail;refine(hrel.next Nb).mono ?_;rintro e w2 ⟨rfl,pv2,Gn,h2,vV,_,_⟩;obtain⟨_,c0,c1,c2,⟨v1,c3,oJ⟩,_⟩:=Q6.1 vV;obtain⟨A1,d1,rfl,oJ⟩:=oJ.form;go_wp2_with fail;refine(Qow vars k1 n1 s1 A1 a1.length d1 _).mono ?_;rintro e w3 ⟨rfl,oZ⟩;have h3:=h2.aside oZ;have e3:w3.cell? ⟨b,o+3,none⟩=some (.slice A1 a1.length d1):=(oZ.cell (P5 c3)).trans c3;have qZ:=oJ.below oZ
   cases zN:CL vars k1 n1 s1 a1.length with
   |false=>
    have pV:Hid ((Ts.cons k n s ar .nil).good vars=false):=XH (by grind[Ts.good,PR,Hid.out]);clear zN;go_wp2_with fail;go_ret;exact⟨by rw[pV.out];rfl,h3.chg⟩
   |true=>
    have pV:Hid ((Ts.cons k n s ar .nil).good vars=(a1.good vars&&(r1.good vars&&PR vars Ls))):=XH (by grind[Ts.good,PR,Hid.out]);clear zN;go_wp2_with fail;refine(h3.add qZ Xl).mono ?_;rintro e w4 ⟨rfl,pv4,Jz,b4,o4,h4,_,_⟩;go_wp2_with fail;go_roundg (QV (push a1 b4 o4 (push r1 b (o+4) Ls)))
    case measure=>
     exact YdN
    case rel=>
     refine⟨_,_,_,h4,rfl,?_,?_⟩
     .grind[QV,Ts.nodes,OZ]
     .rw[pV.out,QlL,QlL]
def QfI (vars : Int) (ar : Ts) : Prop := ∀ (k n : Int) (s : TJ) (v : TH) (w : TG), Sl w (fun _ => True) v ar -> ar.nodes <= 1048576 ->
    Calls prog 156 #[.agg #[.int .i64 k,.int .i64 n,.string s,v],.int .i64 vars] w fun e w'=>e= .returned (.bool ((Ts.cons k n s ar .nil).good vars))/\Below w.heap.size w w'
def QzI(W:TG)(T:Ts)(vars:Int)(g:Nat)(s11:TH)(wr:TG):Prop:=∃D R:Ts,T=D.app R/\D.good vars=true/\Below W.heap.size W wr/\g=R.length/\s11= .int .i64 D.length
theorem Ts.good_app(v:Int)(D R:Ts):(D.app R).good v=(D.good v&&R.good v):=by
 induction D with
 |nil=>rfl
 |cons k n b ar r _ ih=>grind[good,app]
theorem Ts.good_one(v k n:Int)(s:TJ)(T:Ts):(Ts.cons k n s T .nil).good v=(CL v k n s T.length&&T.good v):=by simp[Ts.good]
theorem Qu5(vars:Int)(m:Nat)(ih:∀T:Ts,T.nodes<m->QfI vars T)(T:Ts)(hm:T.nodes<=m):QfI vars T:=by
 intro k n s _ w hv hn;obtain⟨A,c,rfl,hs⟩:=hv.form;have oW:=T.length_le;have hl:T.length<=1048576:=by omega
 rw[Ts.good_one];generalize pV:(CL vars k n s T.length&&T.good vars)=res;have HR:=XH pV;clear pV;have HN:=XH hn;have HM:=XH hm;clear hn hm;go_enter func156,ntmps156;go_wp2_with fail;have rS:Below w.heap.size w (w.alloc (.cells #[.int .i64 k,.int .i64 n,.string s,.slice A T.length c] 63)):=(XR _ _).alloc (XF _) _;have bA:=QR.new w 63 #[.int .i64 k,.int .i64 n,.string s,.slice A T.length c];generalize w.alloc (.cells #[.int .i64 k,.int .i64 n,.string s,.slice A T.length c] 63)=W at*;have qG:=hs.below rS
 have h0:QzI W T vars T.length (.int .i64 0) W:=⟨.nil,T,rfl,rfl,XR _ _,rfl,rfl⟩
 go_loopg [11] T.length (QzI W T vars)
 case atStart=>exact h0
 case round=>
  clear h0;obtain⟨D,R,hT,hD,hb,hg,rfl⟩:=hrel;have HG:=XH hg;clear hg
  cases R with
  |nil=>
   have eD:D=T:=by rw[hT,Ts.app_nil]
   subst eD;have HD:=XH hD;clear hD hT;have bA:=bA.below hb;obtain⟨_,_,_,_,_⟩:=bA.four;have hB:Below w.heap.size w wr:=rS.trans (hb.mono rS.size);clear hb rS bA qG hs hv oW;have HE:=XH (show CL vars k n s D.length=res by grind[Hid.out]);clear HR HD;generalize D.length=l at*;by_cases h0:k=0
   .subst h0;have R:=XH (show res=(decide (0<=n)&&decide (n<vars)&&decide (s.toList=[])&&decide (l=0)) by rw[<-HE.out];simp[CL]);go_wp2_with fail
    all_goals go_ret
    all_goals refine⟨?_,hB⟩
    all_goals rw[R.out]
    all_goals refine N3 ?_
    all_goals rw[JX]
    all_goals simp[*]
    omega
   have g0:(k==0)=false:=by grind
   by_cases h1:k=1
   .subst h1;have R:=XH (show res=(decide (n=0)&&DR s&&decide (l=0)) by rw[<-HE.out];simp[CL]);clear h0 g0;cases hb:DR s
    all_goals
     have HB:=XH hb;clear hb;go_wp2_with (go_at_call 197;refine(QlH _ _).mono ?_;rintro e w' ⟨rfl,vL⟩;rw[HB.out];have hB:=hB.trans (vL.mono hB.size))
     all_goals go_ret
     all_goals refine⟨?_,hB⟩
     all_goals rw[R.out,HB.out]
     all_goals refine N3 ?_
     all_goals rw[JX]
     all_goals simp[*]
     all_goals try omega
   have g1:(k==1)=false:=by grind
   by_cases h2:k=2
   .subst h2;have R:=XH (show res=(decide (-1099511627776<=n)&&decide (n<=1099511627776)&&decide (s.toList=[])&&decide (l=0)) by rw[<-HE.out];simp[CL]);clear h0 g0 h1 g1;go_wp2_with fail
    all_goals go_ret
    all_goals refine⟨?_,hB⟩
    all_goals rw[R.out]
    all_goals refine N3 ?_
    all_goals rw[JX]
    all_goals simp[*]
    all_goals try omega
   have g2:(k==2)=false:=by grind
   by_cases h3:k=3
   .subst h3;clear h0 g0 h1 g1 h2 g2;have R:=XH (show res=(decide (n=0)&&DR s&&decide (¬s.toList=[33])&&decide (1<=l)&&decide (l<=4)) by rw[<-HE.out];simp[CL]);cases hb:DR s
    all_goals
     have HB:=XH hb;clear hb;go_wp2_with (go_at_call 197;refine(QlH _ _).mono ?_;rintro e w' ⟨rfl,vL⟩;rw[HB.out];have hB:=hB.trans (vL.mono hB.size))
     all_goals go_ret
     all_goals refine⟨?_,hB⟩
     all_goals rw[R.out,HB.out]
     all_goals refine N3 ?_
     all_goals rw[JX]
     all_goals simp[*]
     all_goals try omega
   have g3:(k==3)=false:=by grind
   have R:=XH (show res=false by grind[CL,Hid.out]);clear h0 h1 h2 h3;go_wp2_with fail;go_ret;exact⟨by rw[R.out];rfl,hB⟩
  |cons k1 n1 s1 ar r=>
   have e1:D.length<T.length:=by rw[hT,Ts.length_app];simp[Ts.length]
   have e2:ar.nodes<m:=by have:=HM.out;exact YdK
   have e3:ar.nodes<=1048576:=by have:=HN.out;exact YdK
   have pW:Sl wr (fun _=>True) (.slice A T.length c) (D.app (.cons k1 n1 s1 ar r)):=by
    rw[<-hT];exact qG.below hb
   obtain⟨_,_,rfl,rE⟩:=Sl.at_ pW YS;obtain⟨_,_,_,_,⟨_,_,oJ⟩,_⟩:=Q6.1 rE;obtain⟨_,_,rfl,oJ⟩:=oJ.form;have HT:=XH hT;have HD:=XH hD;clear rE pW hT hD
   have Ij:T.good vars=((Ts.cons k1 n1 s1 ar .nil).good vars&&r.good vars):=by
    rw[HT.out,Ts.good_app,HD.out];simp[Ts.good]
   have Ik:(Ts.cons k1 n1 s1 ar .nil).good vars=true->(D.app (.cons k1 n1 s1 ar .nil)).good vars=true:=fun h=>by rw[Ts.good_app,HD.out,h];rfl
   have HGD:=XH Ij;have HNX:=XH Ik;clear Ij Ik;go_wp2_with fail;refine(ih ar e2 k1 n1 s1 _ _ (oJ.below ((XR _ _).alloc (XF _) _)) e3).mono ?_;rintro e w2 ⟨rfl,pH⟩;have oZ:Below W.heap.size W w2:=(hb.trans (((XR _ _).alloc (XF _) _).mono hb.size)).trans (pH.mono (by have:=hb.size;simp;omega))
   cases hx:(Ts.cons k1 n1 s1 ar .nil).good vars with
   |false=>
    go_wp2_with fail;go_ret;refine⟨?_,rS.trans (oZ.mono rS.size)⟩;rw[<-HR.out,HGD.out,hx];simp
   |true=>
    go_wp2_with fail;go_roundg r.length
    case measure=>rw[HG.out];simp[Ts.length]
    case rel=>
     refine⟨D.app (.cons k1 n1 s1 ar .nil),r,?_,HNX.out hx,oZ,rfl,?_⟩
     .exact LD
     .exact KS
theorem QpW(vars:Int)(T:Ts):QfI vars T:=by
 have:∀m,∀T:Ts,T.nodes<m->QfI vars T:=by
  intro m
  induction m with
  |zero=>intro T h;omega
  |succ m ih=>intro T h;exact Qu5 vars m ih T Ya
 exact Yec
theorem QdQ{B b:Nat}(hb:B<=b):∀(vs:T5) (o:Nat) (w:TG),Below B w (w.setCells b o vs)
 |[],_,w=>XR _ w
 |v::r,o,w=>((XR B w).setCell (p:=⟨b,o,none⟩) hb v).trans (QdQ hb r (o+1) _)
theorem Qs2{W W':TG}{size:Nat}{ao:T4}{b off len cap:Nat}{olds:T5}(h:Came W size ao b off len cap olds)(hb:Below W.heap.size W W'):Came W' size ao b off len cap olds:=by
 have hz:=hb.size;rcases JW cap with h0|h0
 .have hl:=h.le;have e0:len=0:=by omega
  subst h0 e0;have ho:olds=[]:=VL (by simpa using h.oldsLen);subst ho;exact⟨XF _,fun h=>absurd h (S2 _),fun h=>absurd h (S2 _),by simp,fun j u hu=>by simp at hu,fun j hj=>by simp at hj⟩
 .have pU:=h.lt h0;refine⟨h.le,h.addr,fun _=>by omega,h.oldsLen,fun j u hu=> ?_,fun j hj=> ?_⟩
  .rw[hb.cell (p:=⟨b,off+j,none⟩) pU];exact h.olds j u hu
  .rw[hb.cell (p:=⟨b,off+len*size+j,none⟩) pU,hb.frozen (p:=⟨b,off+len*size+j,none⟩) pU];exact h.spare j hj
theorem QjD{P:Program}{W:TG}{e:TypeId}{size:Nat}{ao:T4}{b off len cap:Nat}{olds:T5}(hc:Came W size ao b off len cap olds)
  (t tx ty:TypeId) (i:TypeInfo) (z:TH) (bytes:Nat) (ht:P.underlying t=some (.slice e)) (hi:P.info? e=some i) (hz:i.zero=some z) (xD:i.size=size) (Oi:i.bytes=bytes) (wO:z.cells.size=size)
  (x:TH) (n:Nat) (qC:T5) (hs:Src P size tx x n qC W) (Gm:len+n<=maxLen) (uM:(len+n)*bytes<=140737488355328) (B:Nat) (hB:0<cap->B<=b) (Vm:B<=W.heap.size):
  ∃Ka b' Gq vU w',(Builtin.append_ #[t,tx] ty #[.slice ao len cap,x]).run P W= .ok (.slice Ka (len+n) vU) w'/\Came w' size Ka b' Gq (len+n) vU (olds++qC)/\(0<vU->B<=b')/\Below B W w':=by
 subst xD Oi;have Ox:=hc.oldsLen;have Vn:=hs.newsLen;have oW:=hc.le;have oG:(olds++qC).length=(len+n)*i.size:=by rw[XG,Ox,Vn,VM]
 have Xm:len+n<=9223372036854775807:=by simp only[maxLen]at Gm;omega
 by_cases pZ:len+n<=cap
 .rcases JW cap with h0|pQ
  .subst h0;obtain rfl:n=0:=by omega
   obtain rfl:qC=[]:=VL (by simpa using Vn);exact⟨ao,b,off,0,W,run_append_nothing (P:=P) W t tx ty e i ht hi ao len 0 oW x hs,by simpa using hc,fun h=>absurd h (S2 _),XR _ _⟩
  .have Oy:=hc.addr pQ;subst Oy;have vM:(len+n)*i.size<=cap*i.size:=V7 _ pZ
   have wQ:∀j,j<qC.length->j<(cap-len)*i.size:=fun j hj=>by rw[Nat.sub_mul];rw[VM]at vM;omega
   have tL:=XaG (P:=P) W t tx ty e i ht hi b off len cap x n qC hs pZ (fun j hj=>(hc.spare j (wQ j hj)).1) (fun j hj=>(hc.spare j (wQ j hj)).2);refine⟨_,b,off,cap,_,tL,⟨pZ,fun _=>rfl,fun _=> ?_,oG,fun j u hu=> ?_,fun j hj=> ?_⟩,hB,QdQ (hB pQ) _ _ _⟩
   .have:=(QdQ (XF b) qC (off+len*i.size) W).size;have:=hc.lt pQ;omega
   .by_cases hj:j<olds.length
    .rw[VO hj]at hu;rw[Xbt b qC _ W ⟨b,off+j,none⟩ (fun _ _=> .inl Yg)];exact hc.olds j u hu
    .rw[UC Ya]at hu;obtain⟨h1,h2⟩:=W8.1 hu;have:=World.cell?_setCells_in b qC (off+len*i.size) W (fun j hj=>(hc.spare j (wQ j hj)).1) (j-olds.length) h1;rw[show off+len*i.size+(j-olds.length)=off+j by omega,h2]at this;exact BS
   .have hjj:n*i.size+j<(cap-len)*i.size:=by
     rw[Nat.sub_mul]at hj⊢;rw[VM]at hj vM;omega
    have h1:=hc.spare (n*i.size+j) hjj;rw[VM];rw[Xbt b qC _ W _ (fun _ _=> .inr Yg),World.frozen?_setCells]
    rwa [show off+(len*i.size+n*i.size)+j=off+len*i.size+(n*i.size+j) by omega]
 .have hold:(Builtin.firstCells i.size len (.slice ao len cap)).run P W.drew= .ok olds.toArray W.drew:=by
   rcases JW cap with h0|pQ
   .have e0:len=0:=by omega
    subst h0 e0;have ho:olds=[]:=VL (by simpa using Ox);subst ho
    cases ao with
    |none=>exact run_firstCells_none W.drew i.size 0 0 0
    |some a=>exact W7 W.drew i.size 0 a 0 0 [] Yd (fun j v hv=>by simp at hv)
   .have Oy:=hc.addr pQ;subst Oy;refine W7 W.drew i.size len _ len cap olds Ox fun j v hv=> ?_;rw[Addr.add_lit];exact hc.olds j v hv
  have tL:=XaF (P:=P) W t tx ty e i z ht hi hz ao len cap olds hold x n qC hs Ya Ya (growslice_fits Ya uM);have Vo:=grownCap_ge W (len+n) cap e
  have Dc:((olds++qC).toArray++Builtin.zeroCells z.cells (grownCap W (len+n) cap e-(len+n))).size=grownCap W (len+n) cap e*i.size:=by
   rw[Array.size_append,WY,oG,size_zeroCells,wO,<-VM];exact LI
  have tM:=QR.new W.drew e ((olds++qC).toArray++Builtin.zeroCells z.cells (grownCap W (len+n) cap e-(len+n)));refine⟨_,W.heap.size,0,_,_,tL,⟨Vo,fun _=>rfl,fun _=>by simp,oG,fun j u hu=> ?_,fun j hj=> ?_⟩,fun _=>Vm,((XR _ _).drew).alloc Vm _⟩
  .have h1:=tM.cell (0+j);have h2:=(W8.1 hu).1;rw[XQ,Xbu (by simpa using h2),W5,hu]at h1;rw[XQ];exact h1
  .have h1:=tM.cell (0+(len+n)*i.size+j);refine⟨?_,tM.frozen _⟩
   have Xh:0+(len+n)*i.size+j<grownCap W (len+n) cap e*i.size:=by
    rw[Nat.sub_mul]at hj;omega
   rw[Array.getElem?_eq_getElem (by rw[Dc];exact Xh)]at h1;exact Xaq.2 ⟨_,h1⟩
theorem Qgs{P:Program}{oI:TB}{rest:TC}{o:Oper}{a:Act}{Q:Exit->Act->TG->Prop}(W:TG)(rK:o.guard=none)(s x:Operand)(t tx:TypeId)
  (ho:o.op= .call { callee:= .builtin .append,args:= #[s,x],argTypes:= #[t,tx] }) {e:TypeId} {size:Nat} {ao:T4} {b off len cap:Nat} {olds:T5} (hc:Came W size ao b off len cap olds)
  (i:TypeInfo) (z:TH) (bytes:Nat) (ht:P.underlying t=some (.slice e)) (hi:P.info? e=some i) (hz:i.zero=some z) (xD:i.size=size) (Oi:i.bytes=bytes) (wO:z.cells.size=size)
  (hv:a.eval s= .slice ao len cap) (xv:TH) (n:Nat) (qC:T5) (hx:a.eval x=xv) (hs:Src P size tx xv n qC W) (Gm:len+n<=maxLen) (uM:(len+n)*bytes<=140737488355328) (B:Nat) (hB:0<cap->B<=b) (Vm:B<=W.heap.size)
  (hK:∀Ka b' Gq vU w',Came w' size Ka b' Gq (len+n) vU (olds++qC)->(0<vU->B<=b')->Below B W w'->wpList P oI Q rest (a.put o.dst (.slice Ka (len+n) vU)) w'):wpList P oI Q (o::rest) a W:=by
 refine Xah rK fun K Cd=> ?_;obtain⟨Ka,b',Gq,vU,w',tL,h1,h2,h3⟩:=QjD (P:=P) hc t tx o.type i z bytes ht hi hz xD Oi wO xv n qC hs Gm uM B hB Vm;unfold Oper.wp;simp[execOp,ho,resolve,invoke,builtin,hv,hx,tL,Result.andThen];exact Cd _ _ (hK _ _ _ _ _ h1 h2 h3)
theorem Sl.src{P:Program}{W:TG}{p:Nat->Prop}{A:T4}{c:Nat}{T:Ts}{tx e':TypeId}(hk:P.underlying tx=some (.slice e'))(h:Sl W p (.slice A T.length c) T):
  ∃qC,Src P 4 tx (.slice A T.length c) T.length qC W/\Cs W p T qC:=by
 obtain⟨_,_,e,_,hs⟩:=h;simp only[JV,WG]at e;obtain⟨rfl,rfl⟩:=e;rcases JW T.length with h0|h0
 .have e:=Ts.nil_of_length h0;subst e;refine⟨[],?_,rfl⟩
  cases A with
  |none=>exact Src.ofNil W hk c
  |some a=>exact ZP W hk a 0 c [] rfl (fun j u hu=>by simp at hu) (fun u hu=>by cases hu)
 .obtain⟨b,_,rfl,hq⟩:=hs h0;obtain⟨xs,h1,h2⟩:=hq.cells;refine⟨xs,ZP W hk _ _ c xs h1.length (fun j u hu=> ?_) h1.one,h1⟩;rw[Addr.add_lit];exact h2 j u hu
def QzB(w:TG)(N:Nat)(g:Nat)(s3 s4:TH)(wr:TG):Prop:=∃(Q:Ts) (ao:T4) (b off cap:Nat) (olds:T5) (c:Nat),s3= .int .i64 c/\c+Q.nodes=N/\g=Q.nodes/\
 s4= .slice ao Q.length cap/\Came wr 4 ao b off Q.length cap olds/\Cs wr (fun k=>k<w.heap.size) Q olds/\(0<cap->w.heap.size<=b)/\Below w.heap.size w wr
theorem QpJ(k n:Int)(s:TJ)(T:Ts)(v:TH)(w:TG)(hv:Sl w (fun _=>True) v T)(hn:T.nodes<1048576):
  Calls prog 157 #[.agg #[.int .i64 k,.int .i64 n,.string s,v]] w fun e w'=>e= .returned (.int .i64 (T.nodes+1:Nat))/\Below w.heap.size w w':=by
 obtain⟨A,c,rfl,hs⟩:=hv.form;obtain⟨i0,uZ,vB,sY,vX⟩:=TS QgS;go_enter func157,ntmps157;go_wp2_with fail;have bA:=QR.new w 63 #[.int .i64 k,.int .i64 n,.string s,.slice A T.length c];have rS:Below w.heap.size w (w.alloc (.cells #[.int .i64 k,.int .i64 n,.string s,.slice A T.length c] 63)):=(XR _ _).alloc (XF _) _;generalize(w.alloc (.cells #[.int .i64 k,.int .i64 n,.string s,.slice A T.length c] 63))=W0 at*
 refine Qc4 (fun ws=>QR ws w.heap.size 63 #[.int .i64 k,.int .i64 n,.string s,.slice A T.length c])
  3 [(0,true),(2,true),(1,false)] Yc Yc bA.drew ?_
 iterate 2
  refine ZE rfl rfl ⟨?_,fun w' hS=> ?_,fun _ _ _ h=>h,?_⟩
  rotate_left
  .exact Ydq
 refine Qi1 rfl ?_;go_wp2_with fail;refine⟨bA.drew.alloc _,?_⟩;simp only[LJ,UG,XaE];go_wp2_with fail
 have h0:QzB w (T.nodes+1) (T.nodes+1) (.int .i64 0) (.slice (some ⟨W0.heap.size,0,none⟩) 1 1) (W0.alloc (.cells #[.int .i64 k,.int .i64 n,.string s,.slice A T.length c] 63)).drew:=by
  have hz:=rS.size;have qJ:Below w.heap.size w (W0.alloc (.cells #[.int .i64 k,.int .i64 n,.string s,.slice A T.length c] 63)).drew:=(rS.alloc hz _).drew;have bB:=(QR.new W0 63 #[.int .i64 k,.int .i64 n,.string s,.slice A T.length c]).drew;refine⟨.cons k n s T .nil,_,W0.heap.size,0,1,[.int .i64 k,.int .i64 n,.string s,.slice A T.length c],0,rfl,by simp[Ts.nodes],by simp[Ts.nodes],rfl,?_,⟨_,[],rfl,?_,rfl⟩,fun _=>hz,qJ⟩
  .refine⟨XF _,fun _=>rfl,fun _=>bB.lt,rfl,fun j u hu=> ?_,fun j hj=>by simp[Ts.length]at hj⟩;rw[XQ,bB.cell j];simpa using hu
  .exact(hs.imp (q:=fun k=>k<w.heap.size) fun k _ h=>h).below qJ
 have hN:T.nodes+1<=1048576:=hn;generalize hNN:T.nodes+1=N at*;have HNN:=XH hNN;clear hNN;generalize(W0.alloc (.cells #[.int .i64 k,.int .i64 n,.string s,.slice A T.length c] 63)).drew=W1 at*;go_loopg [3,4] N (QzB w N)
 case atStart=>exact h0
 case round=>
  clear h0 bA rS;obtain⟨Q,_,b,off,cap,olds,cn,rfl,Nc,hg,rfl,rH,AP,Ar,hB⟩:=hrel;have hQ:Q.nodes<=N:=by omega
  have hQl:=Q.length_le;have HG:=XH hg;clear hg
  cases Q with
  |nil=>
   go_wp2_with fail;go_ret;refine⟨?_,hB⟩;rw[HNN.out,<-Nc];rfl
  |cons k1 n1 s1 ar r=>
   obtain⟨u,xs,rfl,hu,xE⟩:=AP;obtain⟨Au,cu,rfl,hu⟩:=hu.form
   have tJ:0<cap:=by have:=rH.le;simp[Ts.length]at this;omega
   have Oy:=rH.addr tJ;subst Oy;have Xn:=rH.lt tJ;have Nf:wr.cell? ⟨b,off,none⟩=some (.int .i64 k1):=rH.olds 0 _ rfl;have Ng:wr.cell? ⟨b,off+1,none⟩=some (.int .i64 n1):=rH.olds 1 _ rfl;have Nh:wr.cell? ⟨b,off+2,none⟩=some (.string s1):=rH.olds 2 _ rfl;have Vp:wr.cell? ⟨b,off+3,none⟩=some (.slice Au ar.length cu):=rH.olds 3 _ rfl;have Il:r.length+1<=cap:=rH.le;have tH:(Ts.cons k1 n1 s1 ar r).length=r.length+1:=rfl;rw[tH];have h1c:(1:Int)<=(r.length:Int)+1:=by omega
   have Oz:Came wr 4 (if cap=1 then some ⟨b,off,none⟩else some ⟨b,off+4,none⟩) b (off+4) r.length (cap-1) xs:=by
    have Ox:=rH.oldsLen;simp only[XJ,tH]at Ox;refine⟨by omega,fun h=>by rw[XA Ya],fun _=>Xn,by omega,fun j u hu=> ?_,fun j hj=> ?_⟩
    .have:=rH.olds (j+4) u (by simpa using hu)
     rwa [show off+(j+4)=off+4+j by omega]at this
    .have:=rH.spare j (by rw[tH];omega);rw[tH]at this
     rwa [show off+4+r.length*4+j=off+(r.length+1)*4+j by omega]
   go_wp2_with fail;have bX:=QR.new wr 63 #[.int .i64 k1,.int .i64 n1,.string s1,.slice Au ar.length cu];have hX:Below wr.heap.size wr (wr.alloc (.cells #[.int .i64 k1,.int .i64 n1,.string s1,.slice Au ar.length cu] 63)):=(XR _ _).alloc (XF _) _;generalize(wr.alloc (.cells #[.int .i64 k1,.int .i64 n1,.string s1,.slice Au ar.length cu] 63))=X at*
   refine Qc4 (fun ws=>QR ws wr.heap.size 63 #[.int .i64 k1,.int .i64 n1,.string s1,.slice Au ar.length cu])
    4 [(0,true),(1,true),(2,true),(3,true)] Yc Yc bX.drew ?_
   refine ZE rfl rfl ⟨?_,fun w' hS=> ?_,fun _ _ _ h=>h,?_⟩
   rotate_left
   .go_simp;exact rfl
   refine ZE rfl rfl ⟨?_,fun w' hS=> ?_,fun _ _ _ h=>h,?_⟩
   rotate_left
   .clear hS;go_simp;exact rfl
   generalize(if cap=1 then some (⟨b,off,none⟩:Addr)else some ⟨b,off+4,none⟩)=Ka at Oz⊢
   iterate 2
    refine ZE rfl rfl ⟨?_,fun w' hS=> ?_,fun _ _ _ h=>h,?_⟩
    rotate_left
    .exact Ydq
   simp only[LJ,UG,XaE];have Pa:Below wr.heap.size wr X.drew:=hX.drew;have hz:=hB.size;have hzX:=Pa.size;have Xo:=Qs2 Oz Pa;obtain⟨qC,tK,De⟩:=(hu.below Pa).src (P:=prog) underlying23;have Xp:=xE.below Pa
   have pS:r.length+ar.length<=1048576:=by
    have h1:=r.length_le;have h2:=ar.length_le;simp only[Ts.nodes]at hQ;omega
   have hBX:Below w.heap.size w X.drew:=hB.trans (Pa.mono hz);refine Qgs (P:=prog) X.drew rfl (.tmp 15) (.tmp 17) 23 23 rfl (e:=63) Xo i0 _ 56 underlying23 uZ vB sY vX rfl rfl _ ar.length qC rfl tK Yk Ya w.heap.size (fun h=>Ar Ya) Ya ?_;intro ao2 b2 Xq Xr _ Xs Xt Im;go_wp2_with fail;go_roundg (r.app ar).nodes
   case measure=>rw[HG.out];simp only[Ts.nodes_app,Ts.nodes];omega
   case rel=>
    refine⟨r.app ar,ao2,b2,Xq,Xr,xs++qC,cn+1,?_,?_,rfl,?_,?_,?_,Xt,hBX.trans (Im.mono (XF _))⟩
    .rfl
    .simp only[Ts.nodes_app];simp only[Ts.nodes]at Nc;omega
    .rw[Ts.length_app]
    .rw[Ts.length_app];exact Xs
    .exact(Cs.app Xp De).keep fun k hk hl=>Im.block k hk
def G6(k:Int):Bool:=decide (k=1)||decide (k=3)
def Q1(t:TI)(l:Nat):Bool:=
 if t=[33]then decide (l=0)else if t=[116,114,117,101]then decide (l=0)else if t=[102,97,105,108]then decide (l=0)
 else if t=[101,113]then decide (l=2)else if t=[108,101,115,115]then decide (l=2)else if t=[97,100,100]then decide (l=3)else false
theorem QmM(k n:Int)(s:TJ)(v:TH)(w:TG):Calls prog 84 #[.agg #[.int .i64 k,.int .i64 n,.string s,v]] w fun e w'=>e= .returned (.bool (G6 k))/\Below w.heap.size w w':=by
 by_cases h1:k=1
 .subst h1;exact Ycd
 by_cases h3:k=3
 .subst h3;exact Ycd
 have R:=XH (show G6 k=false by simp[G6,h1,h3]);have g1:(k==1)=false:=by simpa using h1
 have g3:(k==3)=false:=by simpa using h3
 clear h1 h3;go_enter func84,ntmps84;exact YbB
theorem Qgm(k n:Int)(s:TJ)(A:T4)(l c:Nat)(w:TG):Calls prog 75 #[.agg #[.int .i64 k,.int .i64 n,.string s,.slice A l c]] w fun e w'=>e= .returned (.bool (Q1 s.toList l))/\Below w.heap.size w w':=by
 generalize hr:Q1 s.toList l=rb;have R:=XH hr;clear hr;go_enter func75,ntmps75;go_wp2_with fail
 all_goals go_ret
 all_goals refine⟨?_,(XR _ _).alloc (XF _) _⟩
 all_goals rw[<-R.out]
 all_goals refine N3 ?_
 all_goals rw[JX]
 all_goals simp_all[Q1]
 all_goals try omega
def EV(S:TG->Prop)(t:TI)(l:Nat)(g:Nat)(s8:TH)(wr:TG):Prop:=∃i:Nat,i<=6/\g=6-i/\s8= .int .i64 i/\S wr/\
 (0<i->¬(t=[33]/\l=0))/\(1<i->¬(t=[116,114,117,101]/\l=0))/\(2<i->¬(t=[102,97,105,108]/\l=0))/\
 (3<i->¬(t=[101,113]/\l=2))/\(4<i->¬(t=[108,101,115,115]/\l=2))/\(5<i->¬(t=[97,100,100]/\l=3))
def EvS(w:TG)(k n:Int)(s:TJ)(A:T4)(l c:Nat)(x:TG):Prop:=QR x w.heap.size 63 #[.int .i64 k,.int .i64 n,.string s,.slice A l c]/\
 QR x (w.heap.size+1) 9 #[.string ⟨#[33,47,48]⟩,.string ⟨#[116,114,117,101,47,48]⟩,.string ⟨#[102,97,105,108,47,48]⟩,.string ⟨#[101,113,47,50]⟩,.string ⟨#[108,101,115,115,47,50]⟩,.string ⟨#[97,100,100,47,51]⟩]/\Below w.heap.size w x
theorem EvS.drewN{w x:TG}{k n:Int}{s:TJ}{A:T4}{l c:Nat}(h:EvS w k n s A l c x)(q:Nat):EvS w k n s A l c (x.drewN q):=⟨h.1.drewN q,h.2.1.drewN q,h.2.2.trans (Qbt _ _ _)⟩
theorem EV.step0{S:TG->Prop}{W:TG}(hS:S W){t:TI}{l:Nat}(hA:(0<0->¬(t=[33]/\l=0))/\(1<0->¬(t=[116,114,117,101]/\l=0))/\(2<0->¬(t=[102,97,105,108]/\l=0))/\(3<0->¬(t=[101,113]/\l=2))/\(4<0->¬(t=[108,101,115,115]/\l=2))/\(5<0->¬(t=[97,100,100]/\l=3)))(h:¬(t=[33]/\l=0)):EV S t l 5 (.int .i64 1) W:=by
 obtain⟨_,_,_,_,_,_⟩:=hA;exact⟨1,by omega,rfl,rfl,hS,fun _=>h,fun hh=>absurd hh Ya,fun hh=>absurd hh Ya,fun hh=>absurd hh Ya,fun hh=>absurd hh Ya,fun hh=>absurd hh Ya⟩
theorem EV.step1{S:TG->Prop}{W:TG}(hS:S W){t:TI}{l:Nat}(hA:(0<1->¬(t=[33]/\l=0))/\(1<1->¬(t=[116,114,117,101]/\l=0))/\(2<1->¬(t=[102,97,105,108]/\l=0))/\(3<1->¬(t=[101,113]/\l=2))/\(4<1->¬(t=[108,101,115,115]/\l=2))/\(5<1->¬(t=[97,100,100]/\l=3)))(h:¬(t=[116,114,117,101]/\l=0)):EV S t l 4 (.int .i64 2) W:=by
 obtain⟨Ce,_,_,_,_,_⟩:=hA;exact⟨2,by omega,rfl,rfl,hS,fun _=>Ce Ya,fun _=>h,fun hh=>absurd hh Ya,fun hh=>absurd hh Ya,fun hh=>absurd hh Ya,fun hh=>absurd hh Ya⟩
theorem EV.step2{S:TG->Prop}{W:TG}(hS:S W){t:TI}{l:Nat}(hA:(0<2->¬(t=[33]/\l=0))/\(1<2->¬(t=[116,114,117,101]/\l=0))/\(2<2->¬(t=[102,97,105,108]/\l=0))/\(3<2->¬(t=[101,113]/\l=2))/\(4<2->¬(t=[108,101,115,115]/\l=2))/\(5<2->¬(t=[97,100,100]/\l=3)))(h:¬(t=[102,97,105,108]/\l=0)):EV S t l 3 (.int .i64 3) W:=by
 obtain⟨Ce,Fl,_,_,_,_⟩:=hA;exact⟨3,by omega,rfl,rfl,hS,fun _=>Ce Ya,fun _=>Fl Ya,fun _=>h,fun hh=>absurd hh Ya,fun hh=>absurd hh Ya,fun hh=>absurd hh Ya⟩
theorem EV.step3{S:TG->Prop}{W:TG}(hS:S W){t:TI}{l:Nat}(hA:(0<3->¬(t=[33]/\l=0))/\(1<3->¬(t=[116,114,117,101]/\l=0))/\(2<3->¬(t=[102,97,105,108]/\l=0))/\(3<3->¬(t=[101,113]/\l=2))/\(4<3->¬(t=[108,101,115,115]/\l=2))/\(5<3->¬(t=[97,100,100]/\l=3)))(h:¬(t=[101,113]/\l=2)):EV S t l 2 (.int .i64 4) W:=by
 obtain⟨Ce,Fl,Fm,_,_,_⟩:=hA;exact⟨4,by omega,rfl,rfl,hS,fun _=>Ce Ya,fun _=>Fl Ya,fun _=>Fm Ya,fun _=>h,fun hh=>absurd hh Ya,fun hh=>absurd hh Ya⟩
theorem EV.step4{S:TG->Prop}{W:TG}(hS:S W){t:TI}{l:Nat}(hA:(0<4->¬(t=[33]/\l=0))/\(1<4->¬(t=[116,114,117,101]/\l=0))/\(2<4->¬(t=[102,97,105,108]/\l=0))/\(3<4->¬(t=[101,113]/\l=2))/\(4<4->¬(t=[108,101,115,115]/\l=2))/\(5<4->¬(t=[97,100,100]/\l=3)))(h:¬(t=[108,101,115,115]/\l=2)):EV S t l 1 (.int .i64 5) W:=by
 obtain⟨Ce,Fl,Fm,Xu,_,_⟩:=hA;exact⟨5,by omega,rfl,rfl,hS,fun _=>Ce Ya,fun _=>Fl Ya,fun _=>Fm Ya,fun _=>Xu Ya,fun _=>h,fun hh=>absurd hh Ya⟩
theorem EV.step5{S:TG->Prop}{W:TG}(hS:S W){t:TI}{l:Nat}(hA:(0<5->¬(t=[33]/\l=0))/\(1<5->¬(t=[116,114,117,101]/\l=0))/\(2<5->¬(t=[102,97,105,108]/\l=0))/\(3<5->¬(t=[101,113]/\l=2))/\(4<5->¬(t=[108,101,115,115]/\l=2))/\(5<5->¬(t=[97,100,100]/\l=3)))(h:¬(t=[97,100,100]/\l=3)):EV S t l 0 (.int .i64 6) W:=by
 obtain⟨Ce,Fl,Fm,Xu,Pb,_⟩:=hA;exact⟨6,by omega,rfl,rfl,hS,fun _=>Ce Ya,fun _=>Fl Ya,fun _=>Fm Ya,fun _=>Xu Ya,fun _=>Pb Ya,fun _=>h⟩
theorem Qs4{t:TI}{l:Nat}(hA:(0<6->¬(t=[33]/\l=0))/\(1<6->¬(t=[116,114,117,101]/\l=0))/\(2<6->¬(t=[102,97,105,108]/\l=0))/\(3<6->¬(t=[101,113]/\l=2))/\(4<6->¬(t=[108,101,115,115]/\l=2))/\(5<6->¬(t=[97,100,100]/\l=3))):Q1 t l=false:=by
 obtain⟨_,h1,h2,_,_,h5⟩:=hA;unfold Q1
 repeat' split
 all_goals simp_all
set_option maxHeartbeats 2000000 in
theorem Qdd(k n:Int)(s:TJ)(A:T4)(l c:Nat)(w:TG):Calls prog 103 #[.agg #[.int .i64 k,.int .i64 n,.string s,.slice A l c]] w fun e w'=>e= .returned (.bool (Q1 s.toList l))/\Below w.heap.size w w':=by
 generalize hr:Q1 s.toList l=rb;have R:=XH hr;clear hr;go_enter func103,ntmps103;go_wp2_with fail;have bT:=(QR.new w 63 #[.int .i64 k,.int .i64 n,.string s,.slice A l c]).alloc (.cells #[.string ⟨#[33,47,48]⟩,.string ⟨#[116,114,117,101,47,48]⟩,.string ⟨#[102,97,105,108,47,48]⟩,.string ⟨#[101,113,47,50]⟩,.string ⟨#[108,101,115,115,47,50]⟩,.string ⟨#[97,100,100,47,51]⟩] 9);have bS:=QR.new (w.alloc (.cells #[.int .i64 k,.int .i64 n,.string s,.slice A l c] 63)) 9 #[.string ⟨#[33,47,48]⟩,.string ⟨#[116,114,117,101,47,48]⟩,.string ⟨#[102,97,105,108,47,48]⟩,.string ⟨#[101,113,47,50]⟩,.string ⟨#[108,101,115,115,47,50]⟩,.string ⟨#[97,100,100,47,51]⟩];have hB:Below w.heap.size w ((w.alloc (.cells #[.int .i64 k,.int .i64 n,.string s,.slice A l c] 63)).alloc (.cells #[.string ⟨#[33,47,48]⟩,.string ⟨#[116,114,117,101,47,48]⟩,.string ⟨#[102,97,105,108,47,48]⟩,.string ⟨#[101,113,47,50]⟩,.string ⟨#[108,101,115,115,47,50]⟩,.string ⟨#[97,100,100,47,51]⟩] 9)):=((XR _ _).alloc (XF _) _).alloc Yd _;simp only[World.size_alloc]at bS;generalize((w.alloc (.cells #[.int .i64 k,.int .i64 n,.string s,.slice A l c] 63)).alloc (.cells #[.string ⟨#[33,47,48]⟩,.string ⟨#[116,114,117,101,47,48]⟩,.string ⟨#[102,97,105,108,47,48]⟩,.string ⟨#[101,113,47,50]⟩,.string ⟨#[108,101,115,115,47,50]⟩,.string ⟨#[97,100,100,47,51]⟩] 9))=W at*
 have h0:EV (EvS w k n s A l c) s.toList l 6 (.int .i64 0) W:=⟨0,J8 _,rfl,rfl,⟨bT,bS,hB⟩,fun h=>absurd h Ya,fun h=>absurd h Ya,fun h=>absurd h Ya,fun h=>absurd h Ya,fun h=>absurd h Ya,fun h=>absurd h Ya⟩
 clear bT bS hB;go_loopg [8] 6 (EV (EvS w k n s A l c) s.toList l)
 case atStart=>exact h0
 case round=>
  obtain⟨i,_,hg,rfl,hS,hA⟩:=hrel;have HA:=XH hA;have HG:=XH hg;clear hA hg h0;have hB:=hS.2.2;obtain⟨_,_,_,_,_⟩:=hS.1.four;have q0:=hS.2.1.cell 0;have q1:=hS.2.1.cell 1;have q2:=hS.2.1.cell 2;have q3:=hS.2.1.cell 3;have q4:=hS.2.1.cell 4;have q5:=hS.2.1.cell 5;simp at q0 q1 q2 q3 q4 q5;have HS:=XH hS;clear hS
  have x0:((⟨#[33,47,48]⟩:TJ).extract 0 1).toList=[33]:=by rw[V8];rfl
  have x1:((⟨#[116,114,117,101,47,48]⟩:TJ).extract 0 4).toList=[116,114,117,101]:=by rw[V8];rfl
  have x2:((⟨#[102,97,105,108,47,48]⟩:TJ).extract 0 4).toList=[102,97,105,108]:=by rw[V8];rfl
  have x3:((⟨#[101,113,47,50]⟩:TJ).extract 0 2).toList=[101,113]:=by rw[V8];rfl
  have x4:((⟨#[108,101,115,115,47,50]⟩:TJ).extract 0 4).toList=[108,101,115,115]:=by rw[V8];rfl
  have x5:((⟨#[97,100,100,47,51]⟩:TJ).extract 0 3).toList=[97,100,100]:=by rw[V8];rfl
  have y0:((⟨#[33,47,48]⟩:TJ)[2]'Yf).toNat=48:=rfl;have y1:((⟨#[116,114,117,101,47,48]⟩:TJ)[5]'Yf).toNat=48:=rfl;have y2:((⟨#[102,97,105,108,47,48]⟩:TJ)[5]'Yf).toNat=48:=rfl;have y3:((⟨#[101,113,47,50]⟩:TJ)[3]'Yf).toNat=50:=rfl;have y4:((⟨#[108,101,115,115,47,50]⟩:TJ)[5]'Yf).toNat=50:=rfl;have y5:((⟨#[97,100,100,47,51]⟩:TJ)[4]'Yf).toNat=51:=rfl;have Ju:i=0\/i=1\/i=2\/i=3\/i=4\/i=5\/i=6:=by omega
  rcases Ju with rfl|rfl|rfl|rfl|rfl|rfl|rfl
  .by_cases ht:s.toList=[33]
   .have Dh:(s.toList==[33])=true:=by simpa using ht
    by_cases hl:l=0
    .exact Ys
    .have Gr:((l:Int)==0)=false:=by simp;omega
     have HN:Hid (¬(s.toList=[33]/\l=0)):=XH fun h=>hl h.2;clear hl;go_wp2_with fail;go_quiet (fail);go_wp2_with fail;go_roundg 5
     case measure=>rw[HG.out];omega
     case rel=>exact EV.step0 (HS.out.drewN _) HA.out HN.out
   .have Dh:(s.toList==[33])=false:=by simpa using ht
    have HN:Hid (¬(s.toList=[33]/\l=0)):=XH fun h=>ht h.1;clear ht;go_wp2_with fail;go_quiet (fail);go_wp2_with fail;go_roundg 5
    case measure=>rw[HG.out];omega
    case rel=>exact EV.step0 (HS.out.drewN _) HA.out HN.out
  .by_cases ht:s.toList=[116,114,117,101]
   .have Dh:(s.toList==[116,114,117,101])=true:=by simpa using ht
    by_cases hl:l=0
    .exact Ys
    .have Gr:((l:Int)==0)=false:=by simp;omega
     have HN:Hid (¬(s.toList=[116,114,117,101]/\l=0)):=XH fun h=>hl h.2;clear hl;go_wp2_with fail;go_quiet (fail);go_wp2_with fail;go_roundg 4
     case measure=>rw[HG.out];omega
     case rel=>exact EV.step1 (HS.out.drewN _) HA.out HN.out
   .have Dh:(s.toList==[116,114,117,101])=false:=by simpa using ht
    have HN:Hid (¬(s.toList=[116,114,117,101]/\l=0)):=XH fun h=>ht h.1;clear ht;go_wp2_with fail;go_quiet (fail);go_wp2_with fail;go_roundg 4
    case measure=>rw[HG.out];omega
    case rel=>exact EV.step1 (HS.out.drewN _) HA.out HN.out
  .by_cases ht:s.toList=[102,97,105,108]
   .have Dh:(s.toList==[102,97,105,108])=true:=by simpa using ht
    by_cases hl:l=0
    .exact Ys
    .have Gr:((l:Int)==0)=false:=by simp;omega
     have HN:Hid (¬(s.toList=[102,97,105,108]/\l=0)):=XH fun h=>hl h.2;clear hl;go_wp2_with fail;go_quiet (fail);go_wp2_with fail;go_roundg 3
     case measure=>rw[HG.out];omega
     case rel=>exact EV.step2 (HS.out.drewN _) HA.out HN.out
   .have Dh:(s.toList==[102,97,105,108])=false:=by simpa using ht
    have HN:Hid (¬(s.toList=[102,97,105,108]/\l=0)):=XH fun h=>ht h.1;clear ht;go_wp2_with fail;go_quiet (fail);go_wp2_with fail;go_roundg 3
    case measure=>rw[HG.out];omega
    case rel=>exact EV.step2 (HS.out.drewN _) HA.out HN.out
  .by_cases ht:s.toList=[101,113]
   .have Dh:(s.toList==[101,113])=true:=by simpa using ht
    by_cases hl:l=2
    .exact Ys
    .have Gr:((l:Int)==2)=false:=by simp;omega
     have HN:Hid (¬(s.toList=[101,113]/\l=2)):=XH fun h=>hl h.2;clear hl;go_wp2_with fail;go_quiet (fail);go_wp2_with fail;go_roundg 2
     case measure=>rw[HG.out];omega
     case rel=>exact EV.step3 (HS.out.drewN _) HA.out HN.out
   .have Dh:(s.toList==[101,113])=false:=by simpa using ht
    have HN:Hid (¬(s.toList=[101,113]/\l=2)):=XH fun h=>ht h.1;clear ht;go_wp2_with fail;go_quiet (fail);go_wp2_with fail;go_roundg 2
    case measure=>rw[HG.out];omega
    case rel=>exact EV.step3 (HS.out.drewN _) HA.out HN.out
  .by_cases ht:s.toList=[108,101,115,115]
   .have Dh:(s.toList==[108,101,115,115])=true:=by simpa using ht
    by_cases hl:l=2
    .exact Ys
    .have Gr:((l:Int)==2)=false:=by simp;omega
     have HN:Hid (¬(s.toList=[108,101,115,115]/\l=2)):=XH fun h=>hl h.2;clear hl;go_wp2_with fail;go_quiet (fail);go_wp2_with fail;go_roundg 1
     case measure=>rw[HG.out];omega
     case rel=>exact EV.step4 (HS.out.drewN _) HA.out HN.out
   .have Dh:(s.toList==[108,101,115,115])=false:=by simpa using ht
    have HN:Hid (¬(s.toList=[108,101,115,115]/\l=2)):=XH fun h=>ht h.1;clear ht;go_wp2_with fail;go_quiet (fail);go_wp2_with fail;go_roundg 1
    case measure=>rw[HG.out];omega
    case rel=>exact EV.step4 (HS.out.drewN _) HA.out HN.out
  .by_cases ht:s.toList=[97,100,100]
   .have Dh:(s.toList==[97,100,100])=true:=by simpa using ht
    by_cases hl:l=3
    .exact Ys
    .have Gr:((l:Int)==3)=false:=by simp;omega
     have HN:Hid (¬(s.toList=[97,100,100]/\l=3)):=XH fun h=>hl h.2;clear hl;go_wp2_with fail;go_quiet (fail);go_wp2_with fail;go_roundg 0
     case measure=>rw[HG.out];omega
     case rel=>exact EV.step5 (HS.out.drewN _) HA.out HN.out
   .have Dh:(s.toList==[97,100,100])=false:=by simpa using ht
    have HN:Hid (¬(s.toList=[97,100,100]/\l=3)):=XH fun h=>ht h.1;clear ht;go_wp2_with fail;go_quiet (fail);go_wp2_with fail;go_roundg 0
    case measure=>rw[HG.out];omega
    case rel=>exact EV.step5 (HS.out.drewN _) HA.out HN.out
  .go_wp2_with fail;go_ret;refine⟨?_,hB⟩;rw[<-R.out,Qs4 HA.out];rfl
structure VS(lb vb:Nat)(L:Nat)(w:TG):Prop where
 left:QR w lb 3 #[.int .i64 L]
 fn:QR w vb 130 #[.func (.func 132) #[] #[.pointer (some ⟨lb,0,none⟩),.pointer (some ⟨vb,0,none⟩)]]
 ne:vb≠lb
theorem VS.far{lb vb L:Nat}{w w':TG}(h:VS lb vb L w)(hb:Below w.heap.size w w'):VS lb vb L w':=⟨h.left.below hb,h.fn.below hb,h.ne⟩
def Qhe (T : Ts) : Prop := ∀ (k n : Int) (s : TJ) (v : TH) (L lb vb B : Nat) (w : TG), Sl w (fun k => k < B) v T -> B <= lb -> VS lb vb L w -> L <= 24 -> T.nodes <= 1048576 ->
    Calls prog 132 #[.agg #[.int .i64 k,.int .i64 n,.string s,v],.pointer (some ⟨lb,0,none⟩),.pointer (some ⟨vb,0,none⟩)] w fun e w'=>
     e= .returned (.bool (decide (T.nodes+1<=L)))/\(T.nodes+1<=L->VS lb vb (L-(T.nodes+1)) w')/\AM (fun k=>k=lb) w w'
def Qx0(w:TG)(T:Ts)(L lb vb:Nat)(g:Nat)(sx:TH)(wr:TG):Prop:=∃D R:Ts,T=D.app R/\g=R.length/\sx= .int .i64 D.length/\D.nodes+1<=L/\VS lb vb (L-(D.nodes+1)) wr/\AM (fun k=>k=lb) w wr
theorem Qwh(m:Nat)(ih:∀T:Ts,T.nodes<m->Qhe T)(T:Ts)(hm:T.nodes<=m):Qhe T:=by
 intro k n s _ L lb vb B w hv Xv vC hL _;obtain⟨A,c,rfl,hs⟩:=hv.form;have oW:=T.length_le;have hW:Below w.heap.size w (w.alloc (.cells #[.int .i64 k,.int .i64 n,.string s,.slice A T.length c] 63)):=(XR _ _).alloc (XF _) _;have yP:=vC.far hW;have qG:=hs.below hW;have bA:=QR.new w 63 #[.int .i64 k,.int .i64 n,.string s,.slice A T.length c];have l0:=yP.left.cell 0;have lf:=yP.left.frozen 0;simp at l0;have pU:=vC.left.lt;by_cases Xw:L=0
 .exact YbU
 have yB:0<L:=by omega
 obtain⟨p0,p1,p2,p3,_⟩:=bA.four;have oN:w.heap.size≠lb:=by omega
 go_enter func132,ntmps132;go_wp2_with fail
 have uO:VS lb vb (L-1) ((w.setCell ⟨lb,0,none⟩ (.int .i64 ((L:Int)-1))).alloc (.cells #[.int .i64 k,.int .i64 n,.string s,.slice A T.length c] 63)):=by
  refine⟨?_,?_,vC.ne⟩
  .exact Ybo
  .exact YdO
 have uN:AM (fun k=>k=lb) w ((w.setCell ⟨lb,0,none⟩ (.int .i64 ((L:Int)-1))).alloc (.cells #[.int .i64 k,.int .i64 n,.string s,.slice A T.length c] 63)):=
  ((AM.refl (fun k=>k=lb) w).setCell (p:=⟨lb,0,none⟩) (fun _=>rfl) _).alloc _
 have hcall:∀(args:T9) (x:TG),(callFunc 132 args).run prog x= .ok (.enter 132 args) x:=fun args x=>by simp[go_sem]
 generalize((w.setCell ⟨lb,0,none⟩ (.int .i64 ((L:Int)-1))).alloc (.cells #[.int .i64 k,.int .i64 n,.string s,.slice A T.length c] 63))=W at*
 have h0:Qx0 w T L lb vb T.length (.int .i64 0) W:=⟨.nil,T,rfl,rfl,rfl,yB,uO,uN⟩
 clear uO uN yP bA p0 p1 p2 p3 oN l0 lf qG hW;go_loopg [14] T.length (Qx0 w T L lb vb)
 case atStart=>exact h0
 case round=>
  clear h0;obtain⟨D,R,hT,hg,rfl,hD,Pc,hc⟩:=hrel;have HT:=XH hT;have HG:=XH hg;clear hT hg;have qK:Sl wr (fun k=>k<B) (.slice A T.length c) T:=hs.chg hc fun k hk=>by omega
  cases R with
  |nil=>
   have eD:D=T:=by rw[HT.out,Ts.app_nil]
   exact YcP
  |cons k1 n1 s1 ar r=>
   have e1:D.length<T.length:=by rw[HT.out,Ts.length_app];simp[Ts.length]
   have pS:T.nodes=D.nodes+(1+ar.nodes+r.nodes):=by rw[HT.out,Ts.nodes_app];exact KD
   rw[HT.out]at qK;rw[show(D.app (.cons k1 n1 s1 ar r)).length=T.length by rw[<-HT.out]]at qK;obtain⟨_,_,rfl,rE⟩:=Sl.at_ qK YS;obtain⟨_,_,_,_,⟨_,_,oJ⟩,_⟩:=Q6.1 rE;obtain⟨A1,d1,rfl,oJ⟩:=oJ.form;clear rE qK;have hX:Below wr.heap.size wr (wr.alloc (.cells #[.int .i64 k1,.int .i64 n1,.string s1,.slice A1 ar.length d1] 63)):=(XR _ _).alloc (XF _) _;have Pd:=Pc.far hX;have f0:=Pd.fn.cell 0;simp at f0;go_wp2_with fail;have e2:ar.nodes<m:=by omega
   refine(ih ar e2 k1 n1 s1 _ (L-(D.nodes+1)) lb vb B _ (oJ.below hX) Xv Pd Ya Ya).mono ?_;rintro _ w2 ⟨rfl,oK,sX⟩;have Cf:AM (fun k=>k=lb) w w2:=(hc.trans (AM.of_fresh (S:=fun k=>k=lb) hX) fun _ _ h=>h).trans sX fun _ _ h=>h;by_cases hx:ar.nodes+1<=L-(D.nodes+1)
   .have oK:=oK hx;rw[X1 hx]
    have Cg:Hid (VS lb vb (L-((D.app (.cons k1 n1 s1 ar .nil)).nodes+1)) w2):=XH (by
     rw[Ts.nodes_app];simp only[Ts.nodes];rw[show L-(D.nodes+(ar.nodes+0+1)+1)=L-(D.nodes+1)-(ar.nodes+1) by omega]
     exact oK)
    clear oK;go_wp2_with fail;go_roundg r.length
    case measure=>rw[HG.out];simp[Ts.length]
    case rel=>
     refine⟨D.app (.cons k1 n1 s1 ar .nil),r,?_,rfl,?_,?_,Cg.out,Cf⟩
     .exact LD
     .exact KS
     .rw[Ts.nodes_app];exact KD
   .exact YbG
theorem Qr2(T:Ts):Qhe T:=by
 have:∀m,∀T:Ts,T.nodes<m->Qhe T:=by
  intro m
  induction m with
  |zero=>intro T h;omega
  |succ m ih=>intro T h;exact Qwh m ih T Ya
 exact Yec
theorem Qxa(k n:Int)(s:TJ)(T:Ts)(v:TH)(w:TG)(hv:Sl w (fun _=>True) v T)(hn:T.nodes<=1048576):
  Calls prog 85 #[.agg #[.int .i64 k,.int .i64 n,.string s,v],.int .i64 24] w fun e w'=>e= .returned (.bool (decide (T.nodes+1<=24)))/\Below w.heap.size w w':=by
 obtain⟨A,c,rfl,hs⟩:=hv.form;have hs:=hs.imp (q:=fun k=>k<w.heap.size) fun k _ h=>h;have hW:Below w.heap.size w (((w.alloc (.cells #[.int .i64 k,.int .i64 n,.string s,.slice A T.length c] 63)).alloc (.cells #[.int .i64 24] 3)).alloc (.cells #[.func (.func 132) #[] #[.pointer (some ⟨w.heap.size+1,0,none⟩),.pointer (some ⟨w.heap.size+1+1,0,none⟩)]] 130)):=(((XR _ _).alloc (XF _) _).alloc Yd _).alloc Yg _
 have oM:(store ⟨w.heap.size+1+1,0,none⟩ (.func (.func 132) #[] #[.pointer (some ⟨w.heap.size+1,0,none⟩),.pointer (some ⟨w.heap.size+1+1,0,none⟩)])).run prog (((w.alloc (.cells #[.int .i64 k,.int .i64 n,.string s,.slice A T.length c] 63)).alloc (.cells #[.int .i64 24] 3)).alloc (.cells #[.nilFunc] 130))=
   .ok () (((w.alloc (.cells #[.int .i64 k,.int .i64 n,.string s,.slice A T.length c] 63)).alloc (.cells #[.int .i64 24] 3)).alloc (.cells #[.func (.func 132) #[] #[.pointer (some ⟨w.heap.size+1,0,none⟩),.pointer (some ⟨w.heap.size+1+1,0,none⟩)]] 130)):=by
  have hb:=QR.new ((w.alloc (.cells #[.int .i64 k,.int .i64 n,.string s,.slice A T.length c] 63)).alloc (.cells #[.int .i64 24] 3)) 130 #[.nilFunc];have e:=Qf7 ((w.alloc (.cells #[.int .i64 k,.int .i64 n,.string s,.slice A T.length c] 63)).alloc (.cells #[.int .i64 24] 3)) .nilFunc (.func (.func 132) #[] #[.pointer (some ⟨w.heap.size+1,0,none⟩),.pointer (some ⟨w.heap.size+1+1,0,none⟩)]) 130;have h:=QdK (P:=prog) (f:= .func 132) (x:= #[]) (y:= #[.pointer (some ⟨w.heap.size+1,0,none⟩),.pointer (some ⟨w.heap.size+1+1,0,none⟩)]) (hb.cell 0) (hb.frozen 0);rw[e]at h;simpa using h
 have vC:VS (w.heap.size+1) (w.heap.size+1+1) 24 (((w.alloc (.cells #[.int .i64 k,.int .i64 n,.string s,.slice A T.length c] 63)).alloc (.cells #[.int .i64 24] 3)).alloc (.cells #[.func (.func 132) #[] #[.pointer (some ⟨w.heap.size+1,0,none⟩),.pointer (some ⟨w.heap.size+1+1,0,none⟩)]] 130)):=by
  refine⟨?_,?_,by omega⟩
  .have:=(QR.new (w.alloc (.cells #[.int .i64 k,.int .i64 n,.string s,.slice A T.length c] 63)) 3 #[.int .i64 24]).alloc (.cells #[.func (.func 132) #[] #[.pointer (some ⟨w.heap.size+1,0,none⟩),.pointer (some ⟨w.heap.size+1+1,0,none⟩)]] 130);simpa using this
  .have:=QR.new ((w.alloc (.cells #[.int .i64 k,.int .i64 n,.string s,.slice A T.length c] 63)).alloc (.cells #[.int .i64 24] 3)) 130 #[.func (.func 132) #[] #[.pointer (some ⟨w.heap.size+1,0,none⟩),.pointer (some ⟨w.heap.size+1+1,0,none⟩)]];simpa using this
 have hcall:∀(args:T9) (x:TG),(callFunc 132 args).run prog x= .ok (.enter 132 args) x:=fun args x=>by simp[go_sem]
 go_enter func85,ntmps85;go_wp2_with fail;refine(Qr2 T k n s _ 24 (w.heap.size+1) (w.heap.size+1+1) w.heap.size _ (hs.below hW) Ya vC (XF _) hn).mono ?_;exact Ya6
def gB(vars k n:Int)(s:TJ)(T:Ts):Bool:=G6 k&&(Ts.cons k n s T .nil).good vars&&decide (T.nodes+1<=24)
theorem Qih(vars k n:Int)(s:TJ)(T:Ts)(v:TH)(w:TG)(hv:Sl w (fun _=>True) v T)(hn:T.nodes<1048576):
  Calls prog 50 #[.agg #[.int .i64 k,.int .i64 n,.string s,v],.int .i64 vars] w fun e w'=>e= .returned (.bool (gB vars k n s T))/\Below w.heap.size w w':=by
 obtain⟨A,c,rfl,hs⟩:=hv.form;generalize hr:gB vars k n s T=rb;have R:=XH hr;clear hr;go_enter func50,ntmps50;go_wp2_with fail;have rS:Below w.heap.size w (w.alloc (.cells #[.int .i64 k,.int .i64 n,.string s,.slice A T.length c] 63)):=(XR _ _).alloc (XF _) _;have bA:=QR.new w 63 #[.int .i64 k,.int .i64 n,.string s,.slice A T.length c];generalize(w.alloc (.cells #[.int .i64 k,.int .i64 n,.string s,.slice A T.length c] 63))=W0 at*;have xK:=hs.below rS;refine(QmM k n s _ W0).mono ?_;rintro e _ ⟨rfl,qJ⟩;have uP:=rS.trans (qJ.mono rS.size);have tG:=bA.below qJ;have qG:=xK.below qJ
 cases hg:G6 k with
 |false=>
  exact Ydm
 |true=>
  have Kb:=XH hg;clear hg;obtain⟨p0,p1,p2,p3,_⟩:=tG.four;go_wp2_with fail;refine(Qxa k n s T _ _ qG Ya).mono ?_;rintro e _ ⟨rfl,pH⟩;have yK:=uP.trans (pH.mono uP.size);have wR:=tG.below pH;have rN:=qG.below pH;clear p0 p1 p2 p3;generalize hf:decide (T.nodes+1<=24)=fb;have HF:=XH hf;clear hf;obtain⟨p0,p1,p2,p3,_⟩:=wR.four
  cases fb with
  |false=>
   exact YcV
  |true=>
   go_wp2_with fail;refine(Qif k n vars s T _ _ rN hn).mono ?_;exact Ybj
theorem Qnx(vars k n:Int)(s:TJ)(T:Ts)(v:TH)(w:TG)(hv:Sl w (fun _=>True) v T)(hn:T.nodes<1048576):
  Calls prog 101 #[.agg #[.int .i64 k,.int .i64 n,.string s,v],.int .i64 vars] w fun e w'=>e= .returned (.bool (gB vars k n s T))/\Below w.heap.size w w':=by
 obtain⟨A,c,rfl,hs⟩:=hv.form;generalize hr:gB vars k n s T=rb;have R:=XH hr;clear hr;have rS:Below w.heap.size w (w.alloc (.cells #[.int .i64 k,.int .i64 n,.string s,.slice A T.length c] 63)):=(XR _ _).alloc (XF _) _;have xK:=hs.below rS;by_cases hg:G6 k=true
 .have hk:k=1\/k=3:=by simpa[G6]using hg
  have Kb:=XH hg;clear hg
  have yC:((k==1)=true/\True)\/((k==1)=false/\(k==3)=true):=by
   rcases hk with rfl|rfl
   .exact .inl ⟨rfl,trivial⟩
   .exact .inr ⟨rfl,rfl⟩
  clear hk;rcases yC with⟨g1,g3⟩|⟨g1,g3⟩
  all_goals
   have bA:=QR.new w 63 #[.int .i64 k,.int .i64 n,.string s,.slice A T.length c];go_enter func101,ntmps101;go_wp2_with fail;refine(QpW vars T k n s _ _ xK Ya).mono ?_;rintro e _ ⟨rfl,qJ⟩;have uP:=rS.trans (qJ.mono rS.size);have tG:=bA.below qJ;have qG:=xK.below qJ;generalize hq:(Ts.cons k n s T .nil).good vars=qb;have HQ:=XH hq;clear hq;obtain⟨_,_,_,_,_⟩:=tG.four
   cases qb with
   |false=>
    go_wp2_with fail;go_ret;refine⟨?_,uP⟩;rw[<-R.out,gB,HQ.out,JY,Xat];rfl
   |true=>
    go_wp2_with fail;refine(QpJ k n s T _ _ qG hn).mono ?_;rintro e _ ⟨rfl,pH⟩;generalize hN:T.nodes+1=N;have HN:=XH hN;clear hN;go_wp2_with fail;go_ret;refine⟨?_,uP.trans (pH.mono uP.size)⟩;rw[<-R.out,gB,Kb.out,HQ.out,HN.out,JH,JH];refine N3 ?_;rw[JX];simp
    try omega
 .have hk:¬k=1/\¬k=3:=by simpa[G6]using hg
  have g1:(k==1)=false:=by simpa using hk.1
  have g3:(k==3)=false:=by simpa using hk.2
  have Kb:Hid (G6 k=false):=XH (by simpa using hg);clear hg hk;go_enter func101,ntmps101;go_wp2_with fail;go_ret;refine⟨?_,rS⟩;rw[<-R.out,gB,Kb.out];rfl
def Ts.goals(vars:Int):Ts->Bool
 | .nil=>true
 | .cons k n s ar r=>gB vars k n s ar&&r.goals vars
theorem Ts.goals_app(v:Int)(D R:Ts):(D.app R).goals v=(D.goals v&&R.goals v):=by
 induction D with
 |nil=>rfl
 |cons k n b ar r _ ih=>simp only[Ts.app,Ts.goals,ih,JE]
def qB(vars:Int)(T:Ts):Bool:=decide (0<=vars)&&decide (vars<=8)&&decide (T.length<=5)&&T.goals vars
def QrY(w:TG)(T:Ts)(vars:Int)(g:Nat)(sx:TH)(wr:TG):Prop:=∃D R:Ts,T=D.app R/\g=R.length/\sx= .int .i64 D.length/\D.goals vars=true/\Below w.heap.size w wr
def UJ(w:TG)(T:Ts)(vars:Int)(b:Bool)(g:Nat)(so sx:TH)(wr:TG):Prop:=∃D R:Ts,T=D.app R/\g=R.length/\sx= .int .i64 D.length/\so= .bool (b&&D.goals vars)/\Below w.heap.size w wr
theorem QgU(vars:Int)(T:Ts)(v:TH)(w:TG)(hv:Sl w (fun _=>True) v T)(hn:T.nodes<=1048576):
  Calls prog 29 #[v,.int .i64 vars] w fun e w'=>e= .returned (.bool (qB vars T))/\Below w.heap.size w w':=by
 obtain⟨A,c,rfl,hs⟩:=hv.form;have oW:=T.length_le;generalize hr:qB vars T=rb;have R:=XH hr;clear hr;by_cases h1:vars<0
 .exact Yz
 by_cases h2:8<vars
 .exact Yz
 by_cases h3:5<T.length
 .exact Yz
 have hq:Hid (rb=T.goals vars):=XH YP;have Vq:T.length<=5:=by omega
 have h0:QrY w T vars T.length (.int .i64 0) w:=⟨.nil,T,rfl,rfl,rfl,rfl,XR _ _⟩
 go_enter func29,ntmps29;go_wp2_with fail;go_loopg [20] T.length (QrY w T vars)
 case atStart=>exact h0
 case round=>
  clear h0;obtain⟨D,R',hT,hg,rfl,hD,hb⟩:=hrel;have HT:=XH hT;have HG:=XH hg;have HD:=XH hD;clear hT hg hD;have qK:=hs.below hb
  cases R' with
  |nil=>
   have eD:D=T:=by rw[HT.out,Ts.app_nil]
   exact ZN
  |cons k1 n1 s1 ar r=>
   have e1:D.length<T.length:=by rw[HT.out,Ts.length_app];simp[Ts.length]
   have pS:ar.nodes<1048576:=by have:=hn;exact Z5
   rw[HT.out]at qK;rw[show(D.app (.cons k1 n1 s1 ar r)).length=T.length by rw[<-HT.out]]at qK;obtain⟨_,_,rfl,rE⟩:=Sl.at_ qK YS;obtain⟨_,_,_,_,⟨_,_,oJ⟩,_⟩:=Q6.1 rE;obtain⟨A1,d1,rfl,oJ⟩:=oJ.form;clear rE qK;have hX:Below wr.heap.size wr (wr.alloc (.cells #[.int .i64 k1,.int .i64 n1,.string s1,.slice A1 ar.length d1] 63)):=(XR _ _).alloc (XF _) _;have qV:=hb.trans (hX.mono hb.size);go_wp2_with fail;refine(Qih vars k1 n1 s1 ar _ _ (oJ.below hX) pS).mono ?_;rintro e _ ⟨rfl,pH⟩;have oZ:=qV.trans (pH.mono qV.size);generalize sG:gB vars k1 n1 s1 ar=gb;have sU:=XH sG;clear sG
   cases gb with
   |false=>
    exact Yca
   |true=>
    go_wp2_with fail;go_roundg r.length
    case measure=>rw[HG.out];simp[Ts.length]
    case rel=>
     refine⟨D.app (.cons k1 n1 s1 ar .nil),r,?_,rfl,?_,?_,oZ⟩
     .exact LD
     .exact KS
     .exact Yej
theorem Qgh(vars:Int)(T:Ts)(v:TH)(w:TG)(hv:Sl w (fun _=>True) v T)(hn:T.nodes<=1048576):
  Calls prog 61 #[v,.int .i64 vars] w fun e w'=>e= .returned (.bool (qB vars T))/\Below w.heap.size w w':=by
 obtain⟨A,c,rfl,hs⟩:=hv.form;have oW:=T.length_le;generalize hr:qB vars T=rb;have R:=XH hr;clear hr
 have hF:UJ w T vars false T.length (.bool false) (.int .i64 0) w:=⟨.nil,T,rfl,rfl,rfl,rfl,XR _ _⟩
 by_cases h1:vars<0
 .have hq:Hid (rb=(false&&T.goals vars)):=XH YP;have h0:=hF;go_enter func61,ntmps61;go_wp2_with fail;go_loopg [5,21] T.length (UJ w T vars false)
  case atStart=>exact h0
  case round=>
   clear h0;obtain⟨D,R',hT,hg,rfl,rfl,hb⟩:=hrel;have HT:=XH hT;have HG:=XH hg;clear hT hg;have qK:=hs.below hb;generalize rK:(false&&D.goals vars)=db;have HD:=XH rK;clear rK
   cases R' with
   |nil=>
    have eD:D=T:=by rw[HT.out,Ts.app_nil]
    exact Yba
   |cons k1 n1 s1 ar r=>
    have e1:D.length<T.length:=by rw[HT.out,Ts.length_app];simp[Ts.length]
    have pS:ar.nodes<1048576:=by have:=hn;exact Z5
    rw[HT.out]at qK;rw[show(D.app (.cons k1 n1 s1 ar r)).length=T.length by rw[<-HT.out]]at qK;obtain⟨b1,o1,rfl,rE⟩:=Sl.at_ qK YS;obtain⟨_,Nf,Ng,Nh,⟨v1,Vp,oJ⟩,_⟩:=Q6.1 rE;obtain⟨A1,d1,rfl,oJ⟩:=oJ.form;clear rE qK;have hX:Below wr.heap.size wr (wr.alloc (.cells #[.int .i64 k1,.int .i64 n1,.string s1,.slice A1 ar.length d1] 63)):=(XR _ _).alloc (XF _) _;have qV:=hb.trans (hX.mono hb.size)
    cases db with
    |false=>
     go_wp2_with fail;go_roundg r.length
     case measure=>rw[HG.out];simp[Ts.length]
     case rel=>
      refine⟨D.app (.cons k1 n1 s1 ar .nil),r,?_,rfl,?_,?_,qV⟩
      .exact LD
      .exact KS
      .exact YcD
    |true=>
     go_wp2_with fail;apply Zq.iX.1;rintro e w2 ⟨rfl,pH⟩;have oZ:=qV.trans (pH.mono qV.size);generalize sG:gB vars k1 n1 s1 ar=gb;have sU:=XH sG;clear sG;go_wp2_with fail;go_roundg r.length
     case measure=>rw[HG.out];simp[Ts.length]
     case rel=>
      refine⟨D.app (.cons k1 n1 s1 ar .nil),r,?_,rfl,?_,?_,oZ⟩
      .exact LD
      .exact KS
      .rw[Ts.goals_app,<-JE,HD.out,Ts.goals,Ts.goals,sU.out,WA,JH]
 by_cases h2:8<vars
 .have hq:Hid (rb=(false&&T.goals vars)):=XH YP;have h0:=hF;go_enter func61,ntmps61;go_wp2_with fail;go_loopg [5,21] T.length (UJ w T vars false)
  case atStart=>exact h0
  case round=>
   clear h0;obtain⟨D,R',hT,hg,rfl,rfl,hb⟩:=hrel;have HT:=XH hT;have HG:=XH hg;clear hT hg;have qK:=hs.below hb;generalize rK:(false&&D.goals vars)=db;have HD:=XH rK;clear rK
   cases R' with
   |nil=>
    have eD:D=T:=by rw[HT.out,Ts.app_nil]
    exact Yba
   |cons k1 n1 s1 ar r=>
    have e1:D.length<T.length:=by rw[HT.out,Ts.length_app];simp[Ts.length]
    have pS:ar.nodes<1048576:=by have:=hn;exact Z5
    rw[HT.out]at qK;rw[show(D.app (.cons k1 n1 s1 ar r)).length=T.length by rw[<-HT.out]]at qK;obtain⟨b1,o1,rfl,rE⟩:=Sl.at_ qK YS;obtain⟨_,Nf,Ng,Nh,⟨v1,Vp,oJ⟩,_⟩:=Q6.1 rE;obtain⟨A1,d1,rfl,oJ⟩:=oJ.form;clear rE qK;have hX:Below wr.heap.size wr (wr.alloc (.cells #[.int .i64 k1,.int .i64 n1,.string s1,.slice A1 ar.length d1] 63)):=(XR _ _).alloc (XF _) _;have qV:=hb.trans (hX.mono hb.size)
    cases db with
    |false=>
     go_wp2_with fail;go_roundg r.length
     case measure=>rw[HG.out];simp[Ts.length]
     case rel=>
      refine⟨D.app (.cons k1 n1 s1 ar .nil),r,?_,rfl,?_,?_,qV⟩
      .exact LD
      .exact KS
      .exact YcD
    |true=>
     go_wp2_with fail;apply Zq.iX.1;rintro e w2 ⟨rfl,pH⟩;have oZ:=qV.trans (pH.mono qV.size);generalize sG:gB vars k1 n1 s1 ar=gb;have sU:=XH sG;clear sG;go_wp2_with fail;go_roundg r.length
     case measure=>rw[HG.out];simp[Ts.length]
     case rel=>
      refine⟨D.app (.cons k1 n1 s1 ar .nil),r,?_,rfl,?_,?_,oZ⟩
      .exact LD
      .exact KS
      .rw[Ts.goals_app,<-JE,HD.out,Ts.goals,Ts.goals,sU.out,WA,JH]
 by_cases h3:5<T.length
 .have hq:Hid (rb=(false&&T.goals vars)):=XH YP
  have hd:decide ((T.length:Int)<=5)=false:=by simp;omega
  have h0:=hF;go_enter func61,ntmps61;go_wp2_with fail;go_loopg [5,21] T.length (UJ w T vars false)
  case atStart=>exact h0
  case round=>
   clear h0;obtain⟨D,R',hT,hg,rfl,rfl,hb⟩:=hrel;have HT:=XH hT;have HG:=XH hg;clear hT hg;have qK:=hs.below hb;generalize rK:(false&&D.goals vars)=db;have HD:=XH rK;clear rK
   cases R' with
   |nil=>
    have eD:D=T:=by rw[HT.out,Ts.app_nil]
    exact Yba
   |cons k1 n1 s1 ar r=>
    have e1:D.length<T.length:=by rw[HT.out,Ts.length_app];simp[Ts.length]
    have pS:ar.nodes<1048576:=by have:=hn;exact Z5
    rw[HT.out]at qK;rw[show(D.app (.cons k1 n1 s1 ar r)).length=T.length by rw[<-HT.out]]at qK;obtain⟨b1,o1,rfl,rE⟩:=Sl.at_ qK YS;obtain⟨_,Nf,Ng,Nh,⟨v1,Vp,oJ⟩,_⟩:=Q6.1 rE;obtain⟨A1,d1,rfl,oJ⟩:=oJ.form;clear rE qK;have hX:Below wr.heap.size wr (wr.alloc (.cells #[.int .i64 k1,.int .i64 n1,.string s1,.slice A1 ar.length d1] 63)):=(XR _ _).alloc (XF _) _;have qV:=hb.trans (hX.mono hb.size)
    cases db with
    |false=>
     go_wp2_with fail;go_roundg r.length
     case measure=>rw[HG.out];simp[Ts.length]
     case rel=>
      refine⟨D.app (.cons k1 n1 s1 ar .nil),r,?_,rfl,?_,?_,qV⟩
      .exact LD
      .exact KS
      .exact YcD
    |true=>
     go_wp2_with fail;apply Zq.iX.1;rintro e w2 ⟨rfl,pH⟩;have oZ:=qV.trans (pH.mono qV.size);generalize sG:gB vars k1 n1 s1 ar=gb;have sU:=XH sG;clear sG;go_wp2_with fail;go_roundg r.length
     case measure=>rw[HG.out];simp[Ts.length]
     case rel=>
      refine⟨D.app (.cons k1 n1 s1 ar .nil),r,?_,rfl,?_,?_,oZ⟩
      .exact LD
      .exact KS
      .rw[Ts.goals_app,<-JE,HD.out,Ts.goals,Ts.goals,sU.out,WA,JH]
 have hq:Hid (rb=(true&&T.goals vars)):=XH YP
 have hd:decide ((T.length:Int)<=5)=true:=by simp;omega
 have h0:UJ w T vars true T.length (.bool true) (.int .i64 0) w:=⟨.nil,T,rfl,rfl,rfl,rfl,XR _ _⟩
 clear hF;go_enter func61,ntmps61;go_wp2_with fail;go_loopg [5,21] T.length (UJ w T vars true)
 case atStart=>exact h0
 case round=>
  clear h0;obtain⟨D,R',hT,hg,rfl,rfl,hb⟩:=hrel;have HT:=XH hT;have HG:=XH hg;clear hT hg;have qK:=hs.below hb;generalize rK:(true&&D.goals vars)=db;have HD:=XH rK;clear rK
  cases R' with
  |nil=>
   have eD:D=T:=by rw[HT.out,Ts.app_nil]
   exact Yba
  |cons k1 n1 s1 ar r=>
   have e1:D.length<T.length:=by rw[HT.out,Ts.length_app];simp[Ts.length]
   have pS:ar.nodes<1048576:=by have:=hn;exact Z5
   rw[HT.out]at qK;rw[show(D.app (.cons k1 n1 s1 ar r)).length=T.length by rw[<-HT.out]]at qK;obtain⟨b1,o1,rfl,rE⟩:=Sl.at_ qK YS;obtain⟨_,Nf,Ng,Nh,⟨v1,Vp,oJ⟩,_⟩:=Q6.1 rE;obtain⟨A1,d1,rfl,oJ⟩:=oJ.form;clear rE qK;have hX:Below wr.heap.size wr (wr.alloc (.cells #[.int .i64 k1,.int .i64 n1,.string s1,.slice A1 ar.length d1] 63)):=(XR _ _).alloc (XF _) _;have qV:=hb.trans (hX.mono hb.size)
   cases db with
   |false=>
    go_wp2_with fail;go_roundg r.length
    case measure=>rw[HG.out];simp[Ts.length]
    case rel=>
     refine⟨D.app (.cons k1 n1 s1 ar .nil),r,?_,rfl,?_,?_,qV⟩
     .exact LD
     .exact KS
     .exact YcD
   |true=>
    go_wp2_with fail;apply Zq.iX.1;rintro e w2 ⟨rfl,pH⟩;have oZ:=qV.trans (pH.mono qV.size);generalize sG:gB vars k1 n1 s1 ar=gb;have sU:=XH sG;clear sG;go_wp2_with fail;go_roundg r.length
    case measure=>rw[HG.out];simp[Ts.length]
    case rel=>
     refine⟨D.app (.cons k1 n1 s1 ar .nil),r,?_,rfl,?_,?_,oZ⟩
     .exact LD
     .exact KS
     .rw[Ts.goals_app,<-JE,HD.out,Ts.goals,Ts.goals,sU.out,WA,JH]
end Go.Proofs.YthliapbflkfdiacGreatDoor
