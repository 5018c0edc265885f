/- Steps of the proof. -/
import Derived.Test.YthliapbflkfdiacGreatDoorG15
namespace Go.Proofs.YthliapbflkfdiacGreatDoor
open Go.RowKit
set_option linter.unusedVariables false
set_option linter.unusedSimpArgs false
set_option maxRecDepth 100000
set_option maxHeartbeats 1000000
section
variable {M:List Nat} {w0:World} {H:List (Nat×Obj)} {F:List (World→Prop)} {X:List LC} {pA:Option Addr} {pc q C D f:Nat}
theorem Qoa (g:GN) (r:List GN) (E:List EN) (pb:Nat) (p:Qax) (w:World) (hX:Und F (Qes X pA pc)) (hXl:X.length≤24) (hr:Und F (TdR (g::r))) (h0:p.fuel≠0) (h1:p.fuel≤1000) (hB:BdI C D p) (hbt:QM g.t.s.toList g.t.ar.len=false) (hn:X.filter (QfY g.t)=[]) (hP:PSt M w0 H F pb pA X.length pc q p w):
  Calls Tryz.prog 62 #[.pointer (some ⟨pb,0,none⟩),Qdr (g::r),Qen E] w fun e w'=>e= .returned (.int .i64 (-1))∧PSt M w0 H F pb pA X.length pc q (Qea 5 ⟨p.fuel-1,p.vars,p.calls,p.out,p.ended⟩) w':=by
 have h0':((p.fuel:Nat):Int)≠0:=by omega
 have ho:=hB.o;have hc:=fun w' hP=>Qc0 (M:=M) (w0:=w0) (H:=H) (F:=F) pb pA X.length pc q ⟨p.fuel-1,p.vars,p.calls,p.out,p.ended⟩ 5 w' (by show p.out.length≤100;omega) hP;have hpc:∀{H'} w',St M w0 H' F w'→_:=fun w' hS=>(hS.und hr).cells;have hfu:((p.fuel:Nat):Int)-1=((p.fuel-1:Nat):Int):=by omega
 have hnx:∀x∈X,QfY g.t x=false:=fun x hx=>by
  cases h:QfY g.t x with
  |false=>rfl
  |true=>have:=List.mem_filter.2 ⟨hx,h⟩;rw [hn] at this;cases this
 obtain ⟨K,oA,oc,O,hK,hKr,hrow,hS⟩:=hP;refine Zeo ?_;refine Zx ?_;refine Zep ?_;refine ZZ ?_;refine Zaq ?_;refine ZaD ?_;refine Zak ?_;refine Za6 ?_;refine ZaD ?_;refine Zbr ?_;refine Zaq ?_;refine Zy ?_;clear hS;intro wx1 hS;refine Zao ?_;refine ZaF ?_;refine ZfI ?_;refine Zs ?_;refine Calls.mono (QbY _ _ _ _ _ _ _) ?_;rintro _ w4 ⟨rfl,hb4⟩;refine Za ?_;replace hS:=hS.grow hb4;refine Zc ?_;rw [hbt];refine ZdT ?_;refine Zx ?_;refine ZaF ?_;refine ZaD ?_;refine ZN ?_;rw [hfu] at hS;refine Qy 53 7 (54::55::56::9::57::58::59::60::61::62::63::64::65::66::67::68::69::70::71::72::73::74::75::76::77::78::79::80::81::82::83::[]) (fun (R:List LC) v u w'=>u= .slice none 0 0∧∃(D:List LC),X=D++R∧v= .int .i64 (D.length:Nat)∧St M w0 ((pb,.cells (Qd2 pA X.length pc q ⟨p.fuel-1,p.vars,p.calls,p.out,p.ended⟩ oA K.length oc).toArray 109)::(O++H)) F w') (fun R=>R.length) (X) ?_ Yb Yb ?_
 ·exact ⟨rfl,[],rfl,rfl,hS⟩
 clear hS;rintro R _ _ w5 jv ⟨rfl,D,hDR,rfl,hS⟩ ih
 have hlen:X.length=D.length+R.length:=by rw [hDR];simp
 cases R with
 |nil=>
  simp only [List.length_nil] at hlen;refine ZL ?_;refine Zq ?_;refine ZO ?_;refine Zk ?_;refine ZF ?_;refine Zb9 ?_;refine Zdc ?_;rintro _ w6 ⟨rfl,hP'⟩;refine ZM ?_;refine Zbw ?_;exact ⟨rfl,hP'⟩
 |cons x R=>
  simp only [List.length_cons] at hlen;have hX':=hX;rw [hDR] at hX';obtain ⟨b6,o6,rfl⟩:=(hS.und hX').some_ Yh;obtain ⟨q0,q1,q2,q3,q4,q5⟩:=(hS.und hX').cells;have hfx:=hnx x Y9;by_cases hs:x.hd.s=g.t.s
  ·have hal:¬x.hd.ar.len=g.t.ar.len:=fun h=>by simp [QfY,hs,h] at hfx
   have hal':((x.hd.ar.len:Nat):Int)≠((g.t.ar.len:Nat):Int):=by omega
   refine ZcR ?_;refine Zdg ?_;refine Zcy ?_;clear hS;intro b1 wx2 hS;refine Zb ?_;clear hS;intro wx3 hS;refine Z8 ?_;refine Zeq ?_;replace hS:=hS.drew;refine Z1 ?_;refine Zbn ?_;refine Zan ?_;refine Zbn ?_;refine Zer ?_;refine ZD ?_;refine ZdU ?_;refine ZcS ?_;refine ZdU ?_;refine Zes ?_;refine ZbN ?_;refine ZaK ?_;refine ih (R) _ _ _ _ ?_ ?_ Yb Yb Yc
   ·simp
   ·exact ⟨rfl,D++[x],by rw [hDR];simp,by simp,hS.drop⟩
  ·refine ZcR ?_;refine Zdg ?_;refine Zcy ?_;clear hS;intro b1 wx2 hS;refine Zb ?_;clear hS;intro wx3 hS;refine Z8 ?_;refine Zeq ?_;replace hS:=hS.drew;refine Z1 ?_;refine Zbn ?_;refine Zan ?_;refine Zbn ?_;refine Zer ?_;refine ZD ?_;refine ZdV ?_;refine ZdV ?_;refine ZeJ ?_;refine ZeU ?_;refine ZbN ?_;refine ZaK ?_;refine ih (R) _ _ _ _ ?_ ?_ Yb Yb Yc
   ·simp
   ·exact ⟨rfl,D++[x],by rw [hDR];simp,by simp,hS.drop⟩
end
set_option maxHeartbeats 400000 in
theorem Qj5 (k n m:Int) (b:ByteArray) (ar:Ts) (v:Value) (w:World) (hv:Sl w (fun _=>True) v ar) (hn:ar.nodes≤1048576):
  Calls Tryz.prog 106 #[.agg #[.int .i64 k,.int .i64 n,.string b,v],.int .i64 m] w fun e w'=>∃v',e= .returned (.agg #[.int .i64 k,.int .i64 (QaN k n m),.string b,v'])∧Sl w' (fun k=>w.heap.size≤k) v' (ar.shift m)∧Below w.heap.size w w':=by
 obtain ⟨A,c,rfl,hs⟩:=hv.form;have hW:Below w.heap.size w ((((w.alloc (.cells #[.int .i64 k,.int .i64 n,.string b,.slice A ar.length c] 63)).alloc (.cells #[.int .i64 m] 3)).alloc (.cells #[.int .i64 0,.int .i64 0,.string ⟨#[]⟩,.slice none 0 0] 63)).alloc (.cells #[.func (.func 161) #[] #[]] 106)):=((((Below.refl _ _).alloc (Nat.le_refl _) _).alloc Yd _).alloc Yh _).alloc Yh _
 have b3:QD ((((w.alloc (.cells #[.int .i64 k,.int .i64 n,.string b,.slice A ar.length c] 63)).alloc (.cells #[.int .i64 m] 3)).alloc (.cells #[.int .i64 0,.int .i64 0,.string ⟨#[]⟩,.slice none 0 0] 63)).alloc (.cells #[.func (.func 161) #[] #[]] 106)) (w.heap.size+1+1) 63 #[.int .i64 0,.int .i64 0,.string ⟨#[]⟩,.slice none 0 0]:=by
  have:=((QD.new ((w.alloc (.cells #[.int .i64 k,.int .i64 n,.string b,.slice A ar.length c] 63)).alloc (.cells #[.int .i64 m] 3)) 63 #[.int .i64 0,.int .i64 0,.string ⟨#[]⟩,.slice none 0 0])).alloc (.cells #[.func (.func 161) #[] #[]] 106);simpa using this
 have hi:(Qbw (w.heap.size+1+1+1) (w.heap.size+1) m).inv () ((((w.alloc (.cells #[.int .i64 k,.int .i64 n,.string b,.slice A ar.length c] 63)).alloc (.cells #[.int .i64 m] 3)).alloc (.cells #[.int .i64 0,.int .i64 0,.string ⟨#[]⟩,.slice none 0 0] 63)).alloc (.cells #[.func (.func 161) #[] #[]] 106)):=by
  constructor
  ·have:=QD.new (((w.alloc (.cells #[.int .i64 k,.int .i64 n,.string b,.slice A ar.length c] 63)).alloc (.cells #[.int .i64 m] 3)).alloc (.cells #[.int .i64 0,.int .i64 0,.string ⟨#[]⟩,.slice none 0 0] 63)) 106 #[.func (.func 161) #[] #[]];simpa using this
  ·have:=((QD.new (w.alloc (.cells #[.int .i64 k,.int .i64 n,.string b,.slice A ar.length c] 63)) 3 #[.int .i64 m]).alloc (.cells #[.int .i64 0,.int .i64 0,.string ⟨#[]⟩,.slice none 0 0] 63)).alloc (.cells #[.func (.func 161) #[] #[]] 106);simpa using this
 have hst:(store ⟨w.heap.size+1+1+1,0,none⟩ (.func (.func 161) #[] #[])).run Tryz.prog ((((w.alloc (.cells #[.int .i64 k,.int .i64 n,.string b,.slice A ar.length c] 63)).alloc (.cells #[.int .i64 m] 3)).alloc (.cells #[.int .i64 0,.int .i64 0,.string ⟨#[]⟩,.slice none 0 0] 63)).alloc (.cells #[.nilFunc] 106))= .ok () ((((w.alloc (.cells #[.int .i64 k,.int .i64 n,.string b,.slice A ar.length c] 63)).alloc (.cells #[.int .i64 m] 3)).alloc (.cells #[.int .i64 0,.int .i64 0,.string ⟨#[]⟩,.slice none 0 0] 63)).alloc (.cells #[.func (.func 161) #[] #[]] 106)):=by
  have hb:=QD.new (((w.alloc (.cells #[.int .i64 k,.int .i64 n,.string b,.slice A ar.length c] 63)).alloc (.cells #[.int .i64 m] 3)).alloc (.cells #[.int .i64 0,.int .i64 0,.string ⟨#[]⟩,.slice none 0 0] 63)) 106 #[.nilFunc];have e:=Qee (((w.alloc (.cells #[.int .i64 k,.int .i64 n,.string b,.slice A ar.length c] 63)).alloc (.cells #[.int .i64 m] 3)).alloc (.cells #[.int .i64 0,.int .i64 0,.string ⟨#[]⟩,.slice none 0 0] 63)) .nilFunc (.func (.func 161) #[] #[]) 106;have h:=Qcw (P:=Tryz.prog) (f:= .func 161) (x:= #[]) (y:= #[]) (hb.cell 0) (hb.frozen 0);rw [e] at h;simpa using h
 go_enter Tryz.func106,Tryz.ntmps106;go_wp2_with fail;refine (QmP (Qi4 (w.heap.size+1+1+1) (w.heap.size+1) m) ar k n b _ () _ (hs.below hW) hi hn).mono ?_;rintro e w1 ⟨v',rfl,h1,_,h3⟩;rw [show (Qbw (w.heap.size+1+1+1) (w.heap.size+1) m).s1 k n ()=() from rfl,QlH] at h1;rw [show (Qbw (w.heap.size+1+1+1) (w.heap.size+1) m).v1 k n ()=QaN k n m from rfl];obtain ⟨A5,c5,rfl,h5⟩:=h1.form;have b5:=b3.chg h3 (fun h=>h.elim);obtain ⟨d0,d1,d2,d3,df⟩:=b5.four;have hz1:=h3.size;go_wp2_with fail;refine bodyPost_ret (v:= .agg #[.int .i64 k,.int .i64 (QaN k n m),.string b,.slice A5 (ar.shift m).length c5]) (by simp [results,Tryz.results106,go_sem,d0,d1,d2,d3]) rfl ⟨_,rfl,?_,?_⟩
 ·refine (h5.keep (w':=_) fun k hk _=> ?_).imp fun k hk _=>by simp at hk;omega
  simp at hk;simp only [World.setCell,Array.getElem?_modify]
  repeat rw [if_neg Ya]
 ·refine (((Below.setCell ?_ Yh _).setCell Yh _).setCell Yh _).setCell Yh _;exact hW.trans (h3.below Yh fun _ h _=>h.elim)
theorem Qqt (T:Ts) (m:Int) (o:Nat) (r:List Tg):Qau T m o r=QdD T m o r:=by
 induction T with
 |nil=>rfl
 |cons k n s a R _ ih=>simp only [Qau,QdD,ih]
section
variable {M:List Nat} {w0:World} {H:List (Nat×Obj)} {F:List (World→Prop)}
theorem QfM (t:LT) (m:Int) (w:World) (hA:Und F (LRd t)) (hn:t.tm.ar.nodes<1048576) (hS:St M w0 H F w):
  Calls Tryz.prog 106 #[tv t,.int .i64 m] w fun e w'=>∃u:LT,e= .returned (tv u)∧u.tm=t.tm.shift m∧St M w0 H (LRd u::F) w':=by
 have h1:=(hS.und hA).sl;refine (Qj5 t.k t.n m t.s t.ar.ts _ w h1 (Nat.le_of_lt hn)).mono ?_;rintro e w' ⟨v',rfl,h2,h3⟩;obtain ⟨A,c,L,rfl,e2,h4⟩:=hS.located h3 h2;exact ⟨⟨t.k,QaN t.k t.n m,t.s,A,c,L⟩,rfl,by simp only [LT.tm,Tm.shift,e2],h4⟩
end
end Go.Proofs.YthliapbflkfdiacGreatDoor
