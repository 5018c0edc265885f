/- HWalk2, HApp, HWalk3, HDfs: texts that follow one another, laid into one file. -/
import Derived.Test.YthliapbflkfdiacGreatDoorZ0
import Derived.Test.YthliapbflkfdiacGreatDoorG31
import Derived.Test.YthliapbflkfdiacGreatDoorG21
import Derived.Test.YthliapbflkfdiacGreatDoorG29
namespace Go.Proofs.YthliapbflkfdiacGreatDoor
open Go.RowKit
set_option linter.unusedVariables false
set_option linter.unusedSimpArgs false
set_option maxRecDepth 100000
set_option maxHeartbeats 1000000
theorem Qma (L:List HC) (A B:Option Addr) (c m d:Nat) (a:Int) (x:HC) (w:World) (hL:Qz 3 (Q5 L) A L.length c w) (hx:hat L a=some x):
  Calls Tryz.prog 215 #[Qkf A L.length c B m d,.int .i64 a] w fun e w'=>e= .returned (.bool (decide (x.k=0∧x.n≠a)))∧Below w.heap.size w w':=by
 have hS:=(St.start w).flat (M:=[]) hL
 obtain ⟨h0,h1,hg⟩:=QcI hx
 obtain ⟨b,o,rfl⟩:=hL.some_ Ya
 have hcc:∀{H'} w',St [] w H' [Qz 3 (Q5 L) (some ⟨b,o,none⟩) L.length c] w'→_:=fun w' hS=>(hS.fact (.head _)).cell hg
 refine Qg Tryz.func215 rfl Tryz.ntmps215 rfl ?_
 by_cases hk:x.k=0
 ·by_cases hn:x.n=a
  ·rw [decide_eq_false (by simp [hn])]
   refine Zd ?_
   clear hS
   intro b1 wx1 hS
   refine Zed ?_
   refine Ze0 ?_
   refine Zce ?_
   clear hS
   intro b2 wx2 hS
   refine Ze ?_
   clear hS
   intro wx3 hS
   refine Zb ?_
   refine ZbL ?_
   refine Zn ?_
   refine ZH ?_
   refine ZU ?_
   refine Zbq ?_
   refine ZT ?_
   refine ZD ?_
   refine ZI ?_
   refine Zfi ?_
   exact ⟨rfl,hS.ext.below⟩
  ·rw [decide_eq_true ⟨hk,hn⟩]
   refine Zd ?_
   clear hS
   intro b1 wx1 hS
   refine Zed ?_
   refine Ze0 ?_
   refine Zce ?_
   clear hS
   intro b2 wx2 hS
   refine Ze ?_
   clear hS
   intro wx3 hS
   refine Zb ?_
   refine ZbL ?_
   refine Zn ?_
   refine ZH ?_
   refine ZU ?_
   refine Zbq ?_
   refine ZT ?_
   refine ZD ?_
   refine ZI ?_
   refine Zfi ?_
   exact ⟨rfl,hS.ext.below⟩
 ·rw [decide_eq_false (by simp [hk])]
  refine Zd ?_
  clear hS
  intro b1 wx1 hS
  refine Zed ?_
  refine Ze0 ?_
  refine Zce ?_
  clear hS
  intro b2 wx2 hS
  refine Ze ?_
  clear hS
  intro wx3 hS
  refine Zb ?_
  refine ZbL ?_
  refine Zn ?_
  refine Z3 ?_
  refine ZI ?_
  refine Zfi ?_
  exact ⟨rfl,hS.ext.below⟩
abbrev hob (A:Option Addr) (n c:Nat) (B:Option Addr) (m d:Nat):Obj:= .cells [.slice A n c,.slice B m d].toArray 56
theorem Qj4 (L:List HC) (A B:Option Addr) (c m d:Nat) (a:Int) (w:World) (hL:Qz 3 (Q5 L) A L.length c w) (hl63:L.length≤9223372036854775807):
  Calls Tryz.prog 218 #[Qkf A L.length c B m d,.int .i64 a] w fun e w'=>e= .returned (.int .i64 (Qq L a))∧Below w.heap.size w w':=by
 have hS:=(St.start w).flat (M:=[]) hL
 refine Qg Tryz.func218 rfl Tryz.ntmps218 rfl ?_
 refine Zd ?_
 clear hS
 intro b1 wx1 hS
 refine ZG ?_
 refine ZbL ?_
 refine Z2 ?_
 refine Qaa 8 1 (9::10::11::12::13::4::14::15::16::17::18::19::20::21::22::23::24::25::[]) (fun (f:Nat) v u w'=>∃a' i:Nat,∃x:Int,i+f=L.length∧v= .int .i64 (i:Nat)∧u= .int .i64 x∧Qq L a=QaR L f x∧St [] w [(b1,hob A L.length c B m d)] [Qz 3 (Q5 L) A L.length c] w') (fun f=>f) (L.length) ?_ Yb Yb ?_
 ·exact ⟨0,0,a,by omega,rfl,rfl,rfl,hS⟩
 clear hS
 rintro f _ _ w2 jv ⟨_,i,x,hi,rfl,rfl,hl,hS⟩ ih
 cases f with
 |zero=>
  refine Zdf ?_
  refine Zfj ?_
  rw [hl]
  exact ⟨rfl,hS.ext.below⟩
 |succ f=>
  refine ZeU ?_
  refine Zm ?_
  refine Zf ?_
  refine Zby ?_
  refine Zau ?_
  refine Calls.mono (Qbg L.length c A B m d x _) ?_
  rintro _ w3 ⟨rfl,hb3⟩
  refine Za ?_
  replace hS:=hS.grow hb3
  by_cases hx:0≤x∧x<L.length
  case neg=>
   rw [show (decide (0≤x)&&decide (x<(L.length:Nat)))=false by rw [Bool.and_eq_false_iff];simp only [decide_eq_false_iff_not];omega]
   refine Zbg ?_
   refine Zk ?_
   refine Zfj ?_
   rw [hl,Qm5 (Qoi hx)]
   exact ⟨rfl,hS.ext.below⟩
  rw [show (decide (0≤x)&&decide (x<(L.length:Nat)))=true by rw [Bool.and_eq_true];simp only [decide_eq_true_eq];exact hx]
  obtain ⟨y,hy,hg⟩:=QgV hx.1 hx.2
  obtain ⟨b,o,rfl⟩:=hL.some_ Ya
  have hcc:∀{H'} w',St [] w H' [Qz 3 (Q5 L) (some ⟨b,o,none⟩) L.length c] w'→_:=fun w' hS=>(hS.fact (.head _)).cell hg
  have e1:QaR L (f+1) x=if y.k=0∧y.n≠x then QaR L f y.n else x:=by simp only [QaR,hy]
  refine ZbM ?_
  refine Zf ?_
  refine Zby ?_
  refine Zau ?_
  refine Calls.mono (Qma L _ B c m d x y _ (hS.fact (.head _)) hy) ?_
  rintro _ w4 ⟨rfl,hb4⟩
  refine Za ?_
  replace hS:=hS.grow hb4
  by_cases hb:y.k=0∧y.n≠x
  ·rw [decide_eq_true hb]
   rw [if_pos hb] at e1
   refine ZaA ?_
   refine Zbb ?_
   refine Ze3 ?_
   refine ZU ?_
   refine ZR ?_
   refine Zav ?_
   refine ih (f) _ _ _ _ ?_ ?_ Yb Yb Yc
   ·omega
   ·exact ⟨0,i+1,y.n,by omega,by simp,rfl,by rw [hl,e1],hS⟩
  ·rw [decide_eq_false hb]
   rw [if_neg hb] at e1
   refine Zbg ?_
   refine ZX ?_
   refine Zfj ?_
   rw [hl,e1]
   exact ⟨rfl,hS.ext.below⟩
theorem Qkk (L:List HC) (T:List Int) (A B:Option Addr) (c d:Nat) (w:World) (hL:Qz 3 (Q5 L) A L.length c w) (hT:Qz 1 (Qm T) B T.length d w):
  Calls Tryz.prog 185 #[Qkf A L.length c B T.length d] w fun e w'=>e= .returned (.bool (QbT L T))∧Below w.heap.size w w':=by
 have hS:=((St.start w).flat (M:=[]) hL).flat (M:=[]) hT
 refine Qe Tryz.func185 rfl Tryz.ntmps185 rfl ?_
 by_cases hl:65536<T.length
 ·rw [show QbT L T=false by unfold QbT;rw [decide_eq_false Ya];rfl]
  refine Zd ?_
  clear hS
  intro b1 wx1 hS
  refine ZG ?_
  refine Zax ?_
  refine ZR ?_
  refine ZaC ?_
  refine Zai ?_
  refine Zes ?_
  exact ⟨rfl,hS.ext.below⟩
 rw [show QbT L T=T.all (Qax L) by unfold QbT;rw [decide_eq_true Ya];rfl]
 refine Zd ?_
 clear hS
 intro b1 wx1 hS
 refine ZG ?_
 refine Zax ?_
 refine ZR ?_
 refine ZaC ?_
 refine ZW ?_
 refine Zax ?_
 refine ZR ?_
 refine Z2 ?_
 refine Qo 12 (13::14::15::4::16::17::18::19::20::21::22::23::24::25::26::27::28::2::29::[]) (fun (R:List Int) v w'=>∃D,T=D++R∧v= .int .i64 (D.length:Nat)∧T.all (Qax L)=R.all (Qax L)∧St [] w [(b1,hob A L.length c B T.length d)] [Qz 1 (Qm T) B T.length d,Qz 3 (Q5 L) A L.length c] w') (fun R=>R.length) (T) ?_ Yb ?_
 ·exact ⟨[],rfl,rfl,rfl,hS⟩
 clear hS
 rintro R _ w2 jv ⟨D,hD,rfl,hg,hS⟩ ih
 have hlen:T.length=D.length+R.length:=by rw [hD];simp
 cases R with
 |nil=>
  simp only [List.length_nil] at hlen
  refine Zdf ?_
  refine Zes ?_
  rw [hg]
  exact ⟨rfl,hS.ext.below⟩
 |cons x R=>
  simp only [List.length_cons] at hlen
  obtain ⟨b,o,rfl⟩:=hT.some_ Ya
  have hx:T[D.length]?=some x:=by rw [hD];simp
  have hct:∀{H'} w',St [] w H' [Qz 1 (Qm T) (some ⟨b,o,none⟩) T.length d,Qz 3 (Q5 L) A L.length c] w'→_:=fun w' hS=>(hS.fact (.head _)).int hx
  refine ZbN ?_
  refine Zbd ?_
  refine ZbJ ?_
  refine ZcS ?_
  refine Zau ?_
  refine Calls.mono (Qbg L.length c A _ T.length d x _) ?_
  rintro _ w3 ⟨rfl,hb3⟩
  refine Za ?_
  replace hS:=hS.grow hb3
  by_cases hx:0≤x∧x<L.length
  case neg=>
   rw [show (decide (0≤x)&&decide (x<(L.length:Nat)))=false by rw [Bool.and_eq_false_iff];simp only [decide_eq_false_iff_not];omega]
   refine ZV ?_
   refine Z3 ?_
   refine Z4 ?_
   refine Zak ?_
   refine Za8 ?_
   refine Zes ?_
   rw [hg]
   refine ⟨?_,hS.ext.below⟩
   simp [Qax,Qoi hx]
  rw [show (decide (0≤x)&&decide (x<(L.length:Nat)))=true by rw [Bool.and_eq_true];simp only [decide_eq_true_eq];exact hx]
  obtain ⟨y,hy,hgy⟩:=QgV hx.1 hx.2
  obtain ⟨b2,o2,rfl⟩:=hL.some_ Ya
  have hcc:∀{H'} w',St [] w H' [Qz 1 (Qm T) (some ⟨b,o,none⟩) T.length d,Qz 3 (Q5 L) (some ⟨b2,o2,none⟩) L.length c] w'→_:=fun w' hS=>(hS.fact (.tail _ (.head _))).cell hgy
  by_cases hk:y.k=0
  ·refine ZV ?_
   refine ZH ?_
   refine Z9 ?_
   refine Zbq ?_
   refine ZT ?_
   refine Zaa ?_
   refine Zw ?_
   refine Z9 ?_
   refine Zbq ?_
   refine Zw ?_
   refine ZD ?_
   refine Zag ?_
   refine Zbz ?_
   refine ih (R) _ _ _ ?_ ?_ Yb Yc
   ·simp
   ·refine ⟨D++[x],by rw [hD];simp,by simp,?_,hS⟩
    rw [hg];simp [Qax,hy,hk]
  ·refine ZV ?_
   refine ZH ?_
   refine Z9 ?_
   refine Zbq ?_
   refine ZT ?_
   refine Zaa ?_
   refine Zw ?_
   refine Z9 ?_
   refine Zbq ?_
   refine Zw ?_
   refine ZD ?_
   refine Za8 ?_
   refine Zes ?_
   rw [hg]
   refine ⟨?_,hS.ext.below⟩
   simp [Qax,hy,hk]
theorem Qoj (h:HH) (A B:Option Addr) (c d:Nat) (w:World) (hH:HFl h A c B d w):
  Calls Tryz.prog 139 #[hv h A c B d] w fun e w'=>e= .returned (.bool (QE h))∧Below w.heap.size w w':=by
 have hS:=(St.start w).base (φ:=HFl h A c B d) fun w' hx=>hH.ext hx
 refine Qe Tryz.func139 rfl Tryz.ntmps139 rfl ?_
 refine Zd ?_
 clear hS
 intro b1 wx1 hS
 refine Zed ?_
 refine ZR ?_
 refine Zj ?_
 refine Calls.mono (Qfn h.cs A c _ (hS.fact (.head _)).1) ?_
 rintro _ w3 ⟨rfl,hb3⟩
 refine Za ?_
 replace hS:=hS.grow hb3
 cases hg:Q3 h.cs with
 |false=>
  rw [show QE h=false by unfold QE;rw [hg];rfl]
  refine Zan ?_
  refine ZI ?_
  refine Qc Tryz.func139 rfl Yb ?_
  exact ⟨rfl,hS.ext.below⟩
 |true=>
  rw [show QE h=QbT h.cs h.tr by unfold QE;rw [hg];rfl]
  refine ZH ?_
  refine Zby ?_
  refine Zw ?_
  refine Zj ?_
  refine Calls.mono (Qkk h.cs h.tr A B c d _ (hS.fact (.head _)).1 (hS.fact (.head _)).2) ?_
  rintro _ w4 ⟨rfl,hb4⟩
  refine Za ?_
  replace hS:=hS.grow hb4
  refine ZI ?_
  refine Qc Tryz.func139 rfl Yb ?_
  exact ⟨rfl,hS.ext.below⟩
theorem Qdc {h:HH} (hg:QE h=true):h.cs.length≤65536∧h.tr.length≤65536:=by
 unfold QE Q3 QbT at hg
 simp only [Bool.and_eq_true,decide_eq_true_eq] at hg
 exact ⟨hg.1.1,hg.2.1⟩
section
variable {M:List Nat} {w0:World} {H:List (Nat×Obj)} {F:List (World→Prop)}
theorem Qea {P:Program} {n:Nat} {e:Env} {w:World} {Q:Exit→Act→World→Prop} {ops:Array Oper} {rest:List Oper} {ty:TypeId} {pos:String} {after:Array Edge} {d:Nat} {H':List (Nat×Obj)} {x y:Operand} {v:Value} {t tx:TypeId} {el len c:Nat} {A:Option Addr} {L:List HC} {xs:List Value} {O:List (Nat×Obj)} (hS:St M w0 H F w) (hx:ev n e x=v) (hy:ev n e y= .slice A L.length c)
  (hT:QA P t=some el) (hTx:QA P tx=some el) (hi:QsK P el=some (3,32)) (hL:Qz 3 (Q5 L) A L.length c w) (hrow:Rw el 3 v len xs O)
  (hP:H.Perm (O++H')) (hbig:len+L.length≤4398046511104) (hd:Nat.blt d n=true)
  (h:∀v' O' w',Rw el 3 v' (len+L.length) (xs++Q5 L) O'→St M w0 (O'++H') F w'→Lst P Q ops rest n ((d,v')::e) w'):
  Lst P Q ops (⟨some d,.call ⟨.builtin .append, #[x,y], #[t,tx]⟩,ty,pos,after,none⟩::rest) n e w:=by
 obtain ⟨i,z,h2,h3,h4,h5,h6⟩:=Qa5 hi
 refine Qcz hS hx hy hT hTx h2 h3 h4 (by rw [h5];exact Q9 L) (by rw [h5];exact hL.src hTx (QgU L)) (by rw [h5];exact hrow) hP (by rw [h6];omega) Ya hd ?_
 rw [h5];exact h
theorem QgR {P:Program} {n:Nat} {e:Env} {w:World} {Q:Exit→Act→World→Prop} {ops:Array Oper} {rest:List Oper} {ty:TypeId} {pos:String} {after:Array Edge} {d:Nat} {H':List (Nat×Obj)} {x y:Operand} {v:Value} {t tx:TypeId} {el len c:Nat} {A:Option Addr} {L:List Int} {xs:List Value} {O:List (Nat×Obj)} (hS:St M w0 H F w) (hx:ev n e x=v) (hy:ev n e y= .slice A L.length c)
  (hT:QA P t=some el) (hTx:QA P tx=some el) (hi:QsK P el=some (1,8)) (hL:Qz 1 (Qm L) A L.length c w) (hrow:Rw el 1 v len xs O)
  (hP:H.Perm (O++H')) (hbig:len+L.length≤17592186044416) (hd:Nat.blt d n=true)
  (h:∀v' O' w',Rw el 1 v' (len+L.length) (xs++Qm L) O'→St M w0 (O'++H') F w'→Lst P Q ops rest n ((d,v')::e) w'):
  Lst P Q ops (⟨some d,.call ⟨.builtin .append, #[x,y], #[t,tx]⟩,ty,pos,after,none⟩::rest) n e w:=by
 obtain ⟨i,z,h2,h3,h4,h5,h6⟩:=Qa5 hi
 refine Qcz hS hx hy hT hTx h2 h3 h4 (by rw [h5];exact QhU L) (by rw [h5];exact hL.src hTx (QlE L)) (by rw [h5];exact hrow) hP (by rw [h6];omega) Ya hd ?_
 rw [h5];exact h
end
section
variable {M:List Nat} {w0:World} {H:List (Nat×Obj)} {F:List (World→Prop)}
theorem QjA (L:List HC) (A:Option Addr) (c:Nat) (w:World) (hL:Und F (Qz 3 (Q5 L) A L.length c)) (hl:L.length≤4398046511104) (hS:St M w0 H F w):
  Calls Tryz.prog 194 #[.slice A L.length c] w fun e w'=>∃(A':Option Addr) (c':Nat) (O:List (Nat×Obj)),e= .returned (.slice A' L.length c')∧Rw 104 3 (.slice A' L.length c') L.length (Q5 L) O∧St M w0 (O++H) F w':=by
 refine Qe Tryz.func194 rfl Tryz.ntmps194 rfl ?_
 cases A with
 |none=>
  have h0:L.length=0:=by
   rcases Nat.eq_zero_or_pos L.length with h|h
   ·exact h
   ·obtain ⟨b,o,e⟩:=(hS.und hL).some_ h;cases e
  obtain rfl:L=[]:=List.eq_nil_of_length_eq_zero h0
  refine ZQ ?_
  refine Zet ?_
  refine Zai ?_
  refine Qc Tryz.func194 rfl Yb ?_
  exact ⟨none,0,[],rfl,Rw.zero_,hS⟩
 |some a=>
  refine ZQ ?_
  refine Zet ?_
  refine Zr ?_
  refine Zf ?_
  refine QdI (sz:=3) hS rfl rfl rfl ?_
  clear hS
  intro b1 wx1 hS
  refine Zg ?_
  obtain ⟨i,z,h2,h3,h4,h5,h6⟩:=Qa5 (P:=Tryz.prog) (el:=104) (sz:=3) (bts:=32) rfl
  refine Qcz (xs:=[]) (O:=[]) hS Yb Yb rfl rfl h2 h3 h4 (by rw [h5];exact Q9 L) (by rw [h5];exact (hS.und hL).src rfl (QgU L)) Rw.zero_ (.refl _) (by rw [h6];omega) Ya rfl ?_
  rw [h5]
  clear hS
  intro v' O' w' hrow hS
  rw [Nat.zero_add,List.nil_append] at hrow
  obtain ⟨A',c',rfl,_⟩:=hrow.form
  refine Zc ?_
  refine Qc Tryz.func194 rfl Yb ?_
  exact ⟨A',c',O',rfl,hrow,(hS.perm (List.perm_append_comm_assoc O' [_] _)).drop⟩
theorem QrF (len c:Nat) (A:Option Addr) (w:World) (hl:len≤c):
  Calls Tryz.prog 217 #[.slice A len c] w fun e w'=>e= .returned (.slice A len len)∧Below w.heap.size w w':=by
 have hS:=St.start w
 refine Qe Tryz.func217 rfl Tryz.ntmps217 rfl ?_
 refine Zk ?_
 refine Zv ?_
 refine ZL ?_
 refine Zcf ?_
 refine Qa (Qer (sz:=3) rfl rfl rfl rfl rfl rfl rfl Ya) rfl ?_
 refine Zc ?_
 refine Qc Tryz.func217 rfl Yb ?_
 exact ⟨rfl,hS.ext.below⟩
theorem Qpy (L:List Int) (A:Option Addr) (c:Nat) (w:World) (hL:Und F (Qz 1 (Qm L) A L.length c)) (hl:L.length≤4398046511104) (hS:St M w0 H F w):
  Calls Tryz.prog 195 #[.slice A L.length c] w fun e w'=>∃(A':Option Addr) (c':Nat) (O:List (Nat×Obj)),e= .returned (.slice A' L.length c')∧Rw 3 1 (.slice A' L.length c') L.length (Qm L) O∧St M w0 (O++H) F w':=by
 refine Qe Tryz.func195 rfl Tryz.ntmps195 rfl ?_
 cases A with
 |none=>
  have h0:L.length=0:=by
   rcases Nat.eq_zero_or_pos L.length with h|h
   ·exact h
   ·obtain ⟨b,o,e⟩:=(hS.und hL).some_ h;cases e
  obtain rfl:L=[]:=List.eq_nil_of_length_eq_zero h0
  refine ZQ ?_
  refine Zet ?_
  refine Zai ?_
  refine Qc Tryz.func195 rfl Yb ?_
  exact ⟨none,0,[],rfl,Rw.zero_,hS⟩
 |some a=>
  refine ZQ ?_
  refine Zet ?_
  refine Zr ?_
  refine Zf ?_
  refine QdI (sz:=1) hS rfl rfl rfl ?_
  clear hS
  intro b1 wx1 hS
  refine Zg ?_
  obtain ⟨i,z,h2,h3,h4,h5,h6⟩:=Qa5 (P:=Tryz.prog) (el:=3) (sz:=1) (bts:=8) rfl
  refine Qcz (xs:=[]) (O:=[]) hS Yb Yb rfl rfl h2 h3 h4 (by rw [h5];exact QhU L) (by rw [h5];exact (hS.und hL).src rfl (QlE L)) Rw.zero_ (.refl _) (by rw [h6];omega) Ya rfl ?_
  rw [h5]
  clear hS
  intro v' O' w' hrow hS
  rw [Nat.zero_add,List.nil_append] at hrow
  obtain ⟨A',c',rfl,_⟩:=hrow.form
  refine Zc ?_
  refine Qc Tryz.func195 rfl Yb ?_
  exact ⟨A',c',O',rfl,hrow,(hS.perm (List.perm_append_comm_assoc O' [_] _)).drop⟩
theorem QrE (len c:Nat) (A:Option Addr) (w:World) (hl:len≤c):
  Calls Tryz.prog 216 #[.slice A len c] w fun e w'=>e= .returned (.slice A len len)∧Below w.heap.size w w':=by
 have hS:=St.start w
 refine Qe Tryz.func216 rfl Tryz.ntmps216 rfl ?_
 refine Zk ?_
 refine Zv ?_
 refine ZL ?_
 refine Zcf ?_
 refine Qa (Qer (sz:=1) rfl rfl rfl rfl rfl rfl rfl Ya) rfl ?_
 refine Zc ?_
 refine Qc Tryz.func216 rfl Yb ?_
 exact ⟨rfl,hS.ext.below⟩
theorem Qoq (len c:Nat) (A:Option Addr) (w:World) (hl:len≤c) (hS:St M w0 H F w):
  Calls Tryz.prog 217 #[.slice A len c] w fun e w'=>e= .returned (.slice A len len)∧St M w0 H F w':=
 (QrF len c A w hl).mono fun e w' h=>⟨h.1,hS.grow h.2⟩
theorem Qtd (k:Nat) (w:World) (hk:k≤65536) (hS:St M w0 H F w):
  Calls Tryz.prog 187 #[.slice none 0 0,.int .i64 (k:Nat)] w fun e w'=>∃(v:Value) (O:List (Nat×Obj)),e= .returned v∧Rw 104 3 v 0 [] O∧St M w0 (O++H) F w':=by
 refine Qg Tryz.func187 rfl Tryz.ntmps187 rfl ?_
 by_cases h0:0<k
 ·refine ZQ ?_
  refine Zq ?_
  refine ZW ?_
  refine Zv ?_
  refine Qa (Qc7 rfl rfl rfl) rfl ?_
  refine Zg ?_
  refine Za9 ?_
  refine ZbR ?_
  refine ZY ?_
  refine ZF ?_
  refine Zx ?_
  refine Z7 ?_
  refine Qa (Qc7 rfl rfl rfl) rfl ?_
  refine Qa (Q1 (sz:=3) rfl rfl rfl rfl Ya Ya) rfl ?_
  refine Zg ?_
  refine QiB (sz:=3) (bts:=32) (k:=k) (ki:= .i64) hS rfl (by show Value.int .i64 ((k:Int)-(((0:Nat):Int)-((0:Nat):Int)))=_;congr 1) rfl rfl rfl Ya h0 Ya Ya rfl ?_
  clear hS
  intro b cap zs w2 hc hz hS
  refine Zcf ?_
  refine Qa (Q1 (sz:=3) rfl rfl rfl rfl Ya Ya) rfl ?_
  refine Zc ?_
  refine ZX ?_
  refine Qc Tryz.func187 rfl Yb ?_
  exact ⟨_,[(b,.cells zs.toArray _)],rfl,Rw.own_ (xs:=[]) (sp:=zs) rfl (by simpa using hz) (Nat.zero_le _) Ya,hS⟩
 ·refine ZQ ?_
  refine Zq ?_
  refine ZW ?_
  refine Zv ?_
  refine Qa (Qc7 rfl rfl rfl) rfl ?_
  refine Zg ?_
  refine Za9 ?_
  refine ZbR ?_
  refine ZY ?_
  refine ZF ?_
  refine Zr ?_
  refine ZX ?_
  refine Qc Tryz.func187 rfl Yb ?_
  exact ⟨_,[],rfl,Rw.zero_,hS⟩
theorem Qpv (L K:List HC) (A B:Option Addr) (c d sb:Nat) (w:World) (hL:Und F (Qz 3 (Q5 L) A L.length c)) (hK:Und F (Qz 3 (Q5 K) B K.length d)) (hl:L.length+K.length≤65536)
  (hS:St M w0 ((sb,.cells [.slice A L.length c,.slice B K.length d].toArray 53)::H) F w):
  Calls Tryz.prog 141 #[.slice (some ⟨sb,0,none⟩) 2 2] w fun e w'=>∃(A':Option Addr) (c':Nat) (O:List (Nat×Obj)),e= .returned (.slice A' (L++K).length c')∧Rw 104 3 (.slice A' (L++K).length c') (L++K).length (Q5 (L++K)) O∧St M w0 (O++H) F w':=by
 refine Qe Tryz.func141 rfl Tryz.ntmps141 rfl ?_
 refine Zk ?_
 refine Zde ?_
 refine Qaa 11 3 (12::13::14::5::15::16::17::18::19::20::21::22::[]) (fun (i:Nat) v u w'=>∃j:Nat,j+i=2∧v= .int .i64 (j:Nat)∧u= .int .i64 ((if j=0 then 0 else if j=1 then L.length else L.length+K.length:Nat):Int)∧St M w0 ((sb,.cells [.slice A L.length c,.slice B K.length d].toArray 53)::H) F w') (fun i=>i) (2) ?_ Yb Yb ?_
 ·exact ⟨0,rfl,rfl,rfl,hS⟩
 clear hS
 rintro i _ _ w2 jv ⟨j,hj,rfl,rfl,hS⟩ ih
 match i,hj with
 |2,hj=>
  obtain rfl:j=0:=by omega
  rw [if_pos rfl]
  refine ZbN ?_
  refine Zu ?_
  refine Zc ?_
  refine Zv ?_
  refine ZL ?_
  refine Zz ?_
  refine ZY ?_
  refine Zq ?_
  refine Zcg ?_
  refine ih (1) _ _ _ _ ?_ ?_ Yb Yb Yc
  ·omega
  ·exact ⟨1,rfl,rfl,by simp,hS⟩
 |1,hj=>
  obtain rfl:j=1:=by omega
  rw [if_neg (show¬(1:Nat)=0 by omega),if_pos rfl]
  refine ZbN ?_
  refine Zu ?_
  refine Zc ?_
  refine Zv ?_
  refine ZL ?_
  refine Zz ?_
  refine ZY ?_
  refine Zq ?_
  refine Zcg ?_
  refine ih (0) _ _ _ _ ?_ ?_ Yb Yb Yc
  ·omega
  ·exact ⟨2,rfl,rfl,by simp,hS⟩
 |0,hj=>
  obtain rfl:j=2:=by omega
  rw [if_neg (show¬(2:Nat)=0 by omega),if_neg (show¬(2:Nat)=1 by omega)]
  refine ZC ?_
  refine Za5 ?_
  refine Calls.mono (Qtd (L.length+K.length) _ hl hS) ?_
  rintro _ w3 ⟨v3,O3,rfl,hrow3,hS'⟩
  refine Za ?_
  replace hS:=hS'
  clear hS'
  refine ZbO ?_
  refine Qaa 27 6 (28::29::30::8::31::32::33::34::[]) (fun (i:Nat) v u w'=>∃(j:Nat) (D:List HC) (O:List (Nat×Obj)),j+i=2∧v= .int .i64 (j:Nat)∧D=(if j=0 then [] else if j=1 then L else L++K)∧Rw 104 3 u D.length (Q5 D) O∧St M w0 (O++(sb,.cells [.slice A L.length c,.slice B K.length d].toArray 53)::H) F w') (fun i=>i) (2) ?_ Yb Yb ?_
  ·exact ⟨0,[],O3,rfl,rfl,rfl,hrow3,hS⟩
  clear hS
  rintro i _ u w4 jv2 ⟨j,D,O,hj,rfl,hD,hrow,hS⟩ ih
  match i,hj with
  |2,hj=>
   obtain rfl:j=0:=by omega
   obtain rfl:D=[]:=hD
   replace hS:=hS.raise
   refine ZbN ?_
   refine Zu ?_
   refine Zc ?_
   refine Z7 ?_
   refine Qea hS Yb Yb rfl rfl rfl (hS.und hL) hrow (List.perm_append_comm_assoc [_] O _) Yh rfl ?_
   clear hS
   intro v5 O5 w5 hrow5 hS
   refine Zav ?_
   refine ih (1) _ _ _ _ ?_ ?_ Yb Yb Yc
   ·omega
   ·exact ⟨1,L,O5,rfl,rfl,by simp,by simpa [Q5] using hrow5,hS⟩
  |1,hj=>
   obtain rfl:j=1:=by omega
   have hD2:D=L:=by simpa using hD
   rw [hD2] at hrow
   replace hS:=hS.raise
   refine ZbN ?_
   refine Zu ?_
   refine Zc ?_
   refine Z7 ?_
   refine Qea hS Yb Yb rfl rfl rfl (hS.und hK) hrow (List.perm_append_comm_assoc [_] O _) Ya rfl ?_
   clear hS
   intro v5 O5 w5 hrow5 hS
   refine Zav ?_
   refine ih (0) _ _ _ _ ?_ ?_ Yb Yb Yc
   ·omega
   ·exact ⟨2,L++K,O5,rfl,rfl,by simp,by rw [QbG,List.length_append];exact hrow5,hS⟩
  |0,hj=>
   obtain rfl:j=2:=by omega
   have hD2:D=L++K:=by simpa using hD
   rw [hD2] at hrow
   obtain ⟨A',c',rfl,_⟩:=hrow.form
   refine Zch ?_
   refine Qc Tryz.func141 rfl Yb ?_
   exact ⟨A',c',O,rfl,hrow,hS.raise.drop⟩
end
abbrev DS:=List Bool×List Int
def Qbp (a:Int) (s:DS):DS:=if Qr s.1 a=true then s else (s.1.set a.toNat true,s.2++[a])
structure Qmn (L:List HC) (R:List Int) (Ex:Int→Prop) (s:DS):Prop where
 len:s.1.length=L.length
 snd:∀i:Nat,s.1[i]?=some true→Rc L R (i:Int)
 wt:∀a∈s.2,Qj L a=true∧Qr s.1 a=true
 clo:∀(i:Int) (c:HC),Qr s.1 i=true→i∉s.2→¬Ex i→hat L i=some c→(c.k=0→Qr s.1 c.n=true)∧∀j:Int,0≤j→j<QG c→Qr s.1 (i+1+j)=true
def pot (s:DS):Nat:=2*s.1.count false+s.2.length
theorem QbB {a b:Int} {s:DS} (h:Qr s.1 b=true):Qr (Qbp a s).1 b=true:=by
 unfold Qbp
 split
 ·exact h
 ·rw [Qap] at h⊢
  rw [List.getElem?_set]
  split
  ·rename_i e
   rw [if_pos]
   rw [e]
   rcases Nat.lt_or_ge b.toNat s.1.length with g|g
   ·exact g
   ·rw [List.getElem?_eq_none g] at h;cases h
  ·exact h
theorem Qc8 {L:List HC} {a:Int} {s:DS} (hl:s.1.length=L.length) (ha:Qj L a=true):Qr (Qbp a s).1 a=true:=by
 have:=Ql.1 ha
 unfold Qbp
 split
 ·assumption
 ·rw [Qap,List.getElem?_set_self Ya]
theorem QfV {L:List HC} {R:List Int} {Ex:Int→Prop} {a:Int} {s:DS} (h:Qmn L R Ex s) (ha:Qj L a=true) (hr:Rc L R a):Qmn L R Ex (Qbp a s):=by
 have hmono:=fun b=>QbB (a:=a) (b:=b) (s:=s)
 have hself:=Qc8 (a:=a) h.len ha
 have haa:=Ql.1 ha
 by_cases hm:Qr s.1 a=true
 ·have e:Qbp a s=s:=by unfold Qbp;rw [if_pos hm]
  rw [e];exact h
 have e:Qbp a s=(s.1.set a.toNat true,s.2++[a]):=by unfold Qbp;rw [if_neg hm]
 rw [e] at hmono hself⊢
 refine ⟨by simpa using h.len,fun i hi=> ?_,fun b hb=> ?_,fun i c hi hn hx hc=> ?_⟩
 ·dsimp only at hi
  rw [List.getElem?_set] at hi
  split at hi
  ·rename_i e2
   rw [show ((i:Nat):Int)=a by omega];exact hr
  ·exact h.snd i hi
 ·rcases List.mem_append.1 hb with hb|hb
  ·exact ⟨(h.wt b hb).1,hmono b (h.wt b hb).2⟩
  ·rw [List.mem_singleton.1 hb];exact ⟨ha,hself⟩
 ·dsimp only at hi hn⊢
  have hia:i≠a:=fun e=>hn (List.mem_append_right _ (by simp [e]))
  have hin:i∉s.2:=fun e=>hn (List.mem_append_left _ e)
  have hii:=(Qbf.1 hc).1
  have hi':Qr s.1 i=true:=by
   rw [Qap] at hi⊢
   rw [List.getElem?_set,if_neg Ya] at hi
   exact hi
  obtain ⟨g1,g2⟩:=h.clo i c hi' hin hx hc
  exact ⟨fun hk=>hmono _ (g1 hk),fun j j0 j1=>hmono _ (g2 j j0 j1)⟩
theorem Qpu {M:List Bool} {i:Nat} (hl:i<M.length) (hm:M[i]?≠some true):(M.set i true).count false+1=M.count false:=by
 have e:M[i]=false:=by
  rw [List.getElem?_eq_getElem hl] at hm
  simpa using hm
 have hpos:0<M.count false:=List.count_pos_iff.2 (by rw [←e];exact List.getElem_mem hl)
 rw [List.count_set hl,e]
 simp
 omega
theorem QfU {L:List HC} {a:Int} {s:DS} (hl:s.1.length=L.length) (ha:Qj L a=true):pot (Qbp a s)≤pot s:=by
 have:=Ql.1 ha
 unfold Qbp
 split
 ·exact Nat.le_refl _
 ·rename_i hm
  have:=Qpu (M:=s.1) (i:=a.toNat) Ya (fun h=>hm (Qap.2 h))
  unfold pot
  simp only [List.length_append,List.length_cons,List.length_nil]
  omega
theorem Qmn.pop {L:List HC} {R:List Int} {M:List Bool} {W:List Int} {a:Int} (h:Qmn L R (fun _=>False) (M,W++[a])):Qmn L R (fun i=>i=a) (M,W):=
 ⟨h.len,h.snd,fun b hb=>h.wt b (List.mem_append_left _ hb),fun i c h1 h2 h3 h4=>h.clo i c h1 (fun hm=>by
  rcases List.mem_append.1 hm with hm|hm
  ·exact h2 hm
  ·exact h3 (by simpa using hm)) (fun e=>e) h4⟩
theorem Qmn.done {L:List HC} {R:List Int} {a:Int} {c:HC} {s:DS} (h:Qmn L R (fun i=>i=a) s) (hc:hat L a=some c) (h1:c.k=0→Qr s.1 c.n=true) (h2:∀j:Int,0≤j→j<QG c→Qr s.1 (a+1+j)=true):Qmn L R (fun _=>False) s:=
 ⟨h.len,h.snd,h.wt,fun i d g1 g2 _ g4=>by
  by_cases e:i=a
  ·subst e;rw [hc] at g4;cases g4;exact ⟨h1,h2⟩
  ·exact h.clo i d g1 g2 e g4⟩
theorem Qmn.fin {L:List HC} {R:List Int} {M:List Bool} (hg:QL L.length L=true) (h:Qmn L R (fun _=>False) (M,[])) (hr:∀r∈R,Qj L r=true→Qr M r=true):M=QI L R:=by
 refine Qmk.eq ⟨h.len,fun i hi=>⟨h.snd i,fun hrc=> ?_⟩⟩
 have key:∀a,Rc L R a→Qr M a=true:=by
  intro a ha
  induction ha with
  |root h1 h2=>exact hr _ h1 h2
  |ref h1 hc hk ih=>exact (h.clo _ _ ih Yd (fun e=>e) hc).1 hk
  |arg h1 hc i0 i1 ih=>exact (h.clo _ _ ih Yd (fun e=>e) hc).2 _ i0 i1
 have:=Qap.1 (key _ hrc)
 rwa [show ((i:Nat):Int).toNat=i by omega] at this
theorem Qmn.start {L:List HC} {R:List Int} {Ex:Int→Prop}:Qmn L R Ex (List.replicate L.length false,[]):=by
 have hno:∀i:Nat,(List.replicate L.length false)[i]?≠some true:=fun i h=>by
  rw [List.getElem?_replicate] at h
  split at h<;>simp at h
 refine ⟨by simp,fun i hi=>absurd hi (hno i),fun a ha=>by simp at ha,fun i c hi=> ?_⟩
 exact absurd (Qap.1 hi) (hno _)
noncomputable def Qdi (h:HH) (R:List Int):List Bool×Int:=if QE h=false then ([],1) else (QI h.cs R,0)
end Go.Proofs.YthliapbflkfdiacGreatDoor
