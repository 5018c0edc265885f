/- Steps of the proof. -/
import Derived.Test.YthliapbflkfdiacGreatDoorG25
set_option linter.unusedVariables false
set_option linter.unusedSimpArgs false
set_option maxRecDepth 100000
set_option maxHeartbeats 1000000
namespace Go.Proofs.YthliapbflkfdiacGreatDoor
open Go.Proofs.Tryz
open Go.RowKit
section
variable{M:T6}{w0:TG}{H:T0}{F:T3}{X:List LC}{pA:T4}{pc q C D f:Nat}
theorem Qsx(g:GN)(r:List GN)(E:List EN)(pb:Nat)(p:AO)(w:TG)(hX:AB F (E6 X pA pc))(Fy:X.length<=24)(hr:AB F (IP (g::r)))(h0:p.fuel≠0)(h1:p.fuel<=1000)(hB:EO C D p)(sS:Q1 g.t.s.toList g.t.ar.len=false)(hn:X.filter (E0 g.t)=[])(hP:CW M w0 H F pb pA X.length pc q p w):
  Calls prog 62 #[.pointer (some ⟨pb,0,none⟩),IV (g::r),DQ E] w fun e w'=>e= .returned (.int .i64 (-1))/\CW M w0 H F pb pA X.length pc q (DH 5 ⟨p.fuel-1,p.vars,p.calls,p.out,p.ended⟩) w':=by
 have h0':((p.fuel:Nat):Int)≠0:=by omega
 have ho:=hB.o;have hc:=fun w' hP=>OQ (M:=M) (w0:=w0) (H:=H) (F:=F) pb pA X.length pc q ⟨p.fuel-1,p.vars,p.calls,p.out,p.ended⟩ 5 w' (by show p.out.length<=100;omega) hP;have qN:∀{H'} w',St M w0 H' F w'->_:=fun w' hS=>(hS.und hr).cells;have uQ:((p.fuel:Nat):Int)-1=((p.fuel-1:Nat):Int):=by omega
 have Cg:∀x∈X,E0 g.t x=false:=fun x hx=>by
  cases h:E0 g.t x with
  |false=>rfl
  |true=>have:=JK.2 ⟨hx,h⟩;rw[hn]at this;cases this
 obtain⟨K,oA,oc,O,hK,tF,oE,hS⟩:=hP;apply Zq.hW.bV.e3.D.aH.Y.eG.bY.aT.Y.eG.b3.dL.1;clear hS;intro _ hS;apply Zq.b.bU.jX.F.j2.1;rintro _ _ ⟨rfl,sJ⟩;apply Zq.a.1;replace hS:=hS.grow sJ;apply Zq.b.1;rw[sS];apply Zq.bS.aW.e.bU.eG.aQ.1;rw[uQ]at hS;refine Qx 53 7 (54::55::56::9::57::58::59::60::61::62::63::64::65::66::67::68::69::70::71::72::73::74::75::76::77::78::79::80::81::82::83::[]) (fun(R:List LC) v u w'=>u= .slice none 0 0/\∃(D:List LC),X=D++R/\v= .int .i64 (D.length:Nat)/\St M w0 ((pb,.cells (DN pA X.length pc q ⟨p.fuel-1,p.vars,p.calls,p.out,p.ended⟩ oA K.length oc).toArray 109)::(O++H)) F w') (fun R=>R.length) (X) ?_ Yb Yb ?_
 .exact⟨rfl,[],rfl,rfl,hS⟩
 clear hS;rintro R _ _ _ _ ⟨rfl,D,rG,rfl,hS⟩ ih
 have oG:X.length=D.length+R.length:=by rw[rG];simp
 cases R with
 |nil=>
  simp only[XP]at oG;apply Zq.W.m.aC.l.v.aF.gQ.1;exact YdA
 |cons x R=>
  simp only[XJ]at oG;have qV:=hX;rw[rG]at qV;obtain⟨_,_,rfl⟩:=(hS.und qV).some_ Yg;obtain⟨_,_,_,_,_,_⟩:=(hS.und qV).cells;have hfx:=Cg x Y8;by_cases hs:x.hd.s=g.t.s
  .have sD:¬x.hd.ar.len=g.t.ar.len:=fun h=>by simp[E0,hs,h]at hfx
   have aBf:((x.hd.ar.len:Nat):Int)≠((g.t.ar.len:Nat):Int):=by omega
   apply Zq.cB.f9.g1.eV.1;clear hS;intro b1 pP hS;apply Zq.d.1;clear hS;intro pM hS;apply Zq.a2.hU.1;replace hS:=hS.drew;apply Zq.bC.b5.eZ.cA.b5.eZ.hY.a5.gG.gJ.gS.gR.f8.f7.gG.gJ.gS.gR.g8.fQ.aD.D.aZ.1;refine ih (R) _ _ _ _ ?_ ?_ Yb Yb Yc
   .simp
   .exact YdS
  .apply Zq.cB.f9.g1.eV.1;clear hS;intro b1 pP hS;apply Zq.d.1;clear hS;intro pM hS;apply Zq.a2.hU.1;replace hS:=hS.drew;apply Zq.bC.b5.eZ.cA.b5.eZ.hY.a5.bJ.bJ.bJ.bJ.bJ.bJ.bJ.bJ.bJ.bJ.bJ.fQ.aD.D.aZ.1;refine ih (R) _ _ _ _ ?_ ?_ Yb Yb Yc
   .simp
   .exact YdS
end
theorem Qny(k n m:Int)(b:TJ)(ar:Ts)(v:TH)(w:TG)(hv:Sl w (fun _=>True) v ar)(hn:ar.nodes<=1048576):
  Calls prog 106 #[.agg #[.int .i64 k,.int .i64 n,.string b,v],.int .i64 m] w fun e w'=>∃v',e= .returned (.agg #[.int .i64 k,.int .i64 (FN k n m),.string b,v'])/\Sl w' (fun k=>w.heap.size<=k) v' (ar.shift m)/\Below w.heap.size w w':=by
 obtain⟨A,c,rfl,hs⟩:=hv.form;have hW:Below w.heap.size w ((((w.alloc (.cells #[.int .i64 k,.int .i64 n,.string b,.slice A ar.length c] 63)).alloc (.cells #[.int .i64 m] 3)).alloc (.cells #[.int .i64 0,.int .i64 0,.string ⟨#[]⟩,.slice none 0 0] 63)).alloc (.cells #[.func (.func 161) #[] #[]] 106)):=((((XR _ _).alloc (XF _) _).alloc Yd _).alloc Yg _).alloc Yg _
 have b3:QR ((((w.alloc (.cells #[.int .i64 k,.int .i64 n,.string b,.slice A ar.length c] 63)).alloc (.cells #[.int .i64 m] 3)).alloc (.cells #[.int .i64 0,.int .i64 0,.string ⟨#[]⟩,.slice none 0 0] 63)).alloc (.cells #[.func (.func 161) #[] #[]] 106)) (w.heap.size+1+1) 63 #[.int .i64 0,.int .i64 0,.string ⟨#[]⟩,.slice none 0 0]:=by
  have:=((QR.new ((w.alloc (.cells #[.int .i64 k,.int .i64 n,.string b,.slice A ar.length c] 63)).alloc (.cells #[.int .i64 m] 3)) 63 #[.int .i64 0,.int .i64 0,.string ⟨#[]⟩,.slice none 0 0])).alloc (.cells #[.func (.func 161) #[] #[]] 106);simpa using this
 have hi:(RQ (w.heap.size+1+1+1) (w.heap.size+1) m).inv () ((((w.alloc (.cells #[.int .i64 k,.int .i64 n,.string b,.slice A ar.length c] 63)).alloc (.cells #[.int .i64 m] 3)).alloc (.cells #[.int .i64 0,.int .i64 0,.string ⟨#[]⟩,.slice none 0 0] 63)).alloc (.cells #[.func (.func 161) #[] #[]] 106)):=by
  constructor
  .have:=QR.new (((w.alloc (.cells #[.int .i64 k,.int .i64 n,.string b,.slice A ar.length c] 63)).alloc (.cells #[.int .i64 m] 3)).alloc (.cells #[.int .i64 0,.int .i64 0,.string ⟨#[]⟩,.slice none 0 0] 63)) 106 #[.func (.func 161) #[] #[]];simpa using this
  .have:=((QR.new (w.alloc (.cells #[.int .i64 k,.int .i64 n,.string b,.slice A ar.length c] 63)) 3 #[.int .i64 m]).alloc (.cells #[.int .i64 0,.int .i64 0,.string ⟨#[]⟩,.slice none 0 0] 63)).alloc (.cells #[.func (.func 161) #[] #[]] 106);simpa using this
 have oM:(store ⟨w.heap.size+1+1+1,0,none⟩ (.func (.func 161) #[] #[])).run prog ((((w.alloc (.cells #[.int .i64 k,.int .i64 n,.string b,.slice A ar.length c] 63)).alloc (.cells #[.int .i64 m] 3)).alloc (.cells #[.int .i64 0,.int .i64 0,.string ⟨#[]⟩,.slice none 0 0] 63)).alloc (.cells #[.nilFunc] 106))= .ok () ((((w.alloc (.cells #[.int .i64 k,.int .i64 n,.string b,.slice A ar.length c] 63)).alloc (.cells #[.int .i64 m] 3)).alloc (.cells #[.int .i64 0,.int .i64 0,.string ⟨#[]⟩,.slice none 0 0] 63)).alloc (.cells #[.func (.func 161) #[] #[]] 106)):=by
  have hb:=QR.new (((w.alloc (.cells #[.int .i64 k,.int .i64 n,.string b,.slice A ar.length c] 63)).alloc (.cells #[.int .i64 m] 3)).alloc (.cells #[.int .i64 0,.int .i64 0,.string ⟨#[]⟩,.slice none 0 0] 63)) 106 #[.nilFunc];have e:=Qf7 (((w.alloc (.cells #[.int .i64 k,.int .i64 n,.string b,.slice A ar.length c] 63)).alloc (.cells #[.int .i64 m] 3)).alloc (.cells #[.int .i64 0,.int .i64 0,.string ⟨#[]⟩,.slice none 0 0] 63)) .nilFunc (.func (.func 161) #[] #[]) 106;have h:=QdK (P:=prog) (f:= .func 161) (x:= #[]) (y:= #[]) (hb.cell 0) (hb.frozen 0);rw[e]at h;simpa using h
 go_enter func106,ntmps106;go_wp2_with fail;refine(QqW (Qmo (w.heap.size+1+1+1) (w.heap.size+1) m) ar k n b _ () _ (hs.below hW) hi hn).mono ?_;rintro e _ ⟨v',rfl,h1,_,h3⟩;rw[show(RQ (w.heap.size+1+1+1) (w.heap.size+1) m).s1 k n ()=()from rfl,QpA]at h1;rw[show(RQ (w.heap.size+1+1+1) (w.heap.size+1) m).v1 k n ()=FN k n m from rfl];obtain⟨A5,c5,rfl,h5⟩:=h1.form;have b5:=b3.chg h3 (fun h=>h.elim);obtain⟨d0,d1,d2,d3,_⟩:=b5.four;have sY:=h3.size;go_wp2_with fail;refine bodyPost_ret (v:= .agg #[.int .i64 k,.int .i64 (FN k n m),.string b,.slice A5 (ar.shift m).length c5]) (by simp[results,Tryz.results106,go_sem,d0,d1,d2,d3]) rfl ⟨_,rfl,?_,?_⟩
 .refine(h5.keep (w':=_) fun k hk _=> ?_).imp fun k hk _=>by simp at hk;omega
  simp at hk;simp only[World.setCell,J4]
  repeat rw[XA Ya]
 .refine(((Below.setCell ?_ Yg _).setCell Yg _).setCell Yg _).setCell Yg _;exact hW.trans (h3.below Yg fun _ h _=>h.elim)
theorem Qvx(T:Ts)(m:Int)(o:Nat)(r:List Tg):CF T m o r=ID T m o r:=by
 induction T with
 |nil=>rfl
 |cons k n s a R _ ih=>simp only[CF,ID,ih]
section
variable{M:T6}{w0:TG}{H:T0}{F:T3}
theorem Qh4(t:LT)(m:Int)(w:TG)(hA:AB F (BW t))(hn:t.tm.ar.nodes<1048576)(hS:St M w0 H F w):
  Calls prog 106 #[tv t,.int .i64 m] w fun e w'=>∃u:LT,e= .returned (tv u)/\u.tm=t.tm.shift m/\St M w0 H (BW u::F) w':=by
 have h1:=(hS.und hA).sl;refine(Qny t.k t.n m t.s t.ar.ts _ w h1 (JM hn)).mono ?_;rintro e w' ⟨_,rfl,h2,h3⟩;obtain⟨A,c,L,rfl,e2,h4⟩:=hS.located h3 h2;exact⟨⟨t.k,FN t.k t.n m,t.s,A,c,L⟩,rfl,by simp only[LT.tm,Tm.shift,e2],h4⟩
end
end Go.Proofs.YthliapbflkfdiacGreatDoor
