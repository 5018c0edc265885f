/- Steps of the proof. -/
import Derived.Test.YthliapbflkfdiacGreatDoorG23
namespace Go.Proofs.YthliapbflkfdiacGreatDoor
open Go.RowKit
set_option linter.unusedVariables false
set_option linter.unusedSimpArgs false
set_option maxRecDepth 100000
set_option maxHeartbeats 1000000
theorem Qk5 (L:List HC) (A B:Option Addr) (c m d:Nat) (a:Int) (x:HC) (w:World) (hL:Qz 3 (Qab L) A L.length c w) (hx:hat L a=some x):
  Calls Tryz.prog 215 #[Qjm A L.length c B m d,.int .i64 a] w fun e w'=>e= .returned (.bool (decide (x.k=0∧x.n≠a)))∧Below w.heap.size w w':=by
 have hS:=(St.start w).flat (M:=[]) hL;obtain ⟨h0,h1,hg⟩:=Qcz hx;obtain ⟨b,o,rfl⟩:=hL.some_ Ya;have hcc:∀{H'} w',St [] w H' [Qz 3 (Qab L) (some ⟨b,o,none⟩) L.length c] w'→_:=fun w' hS=>(hS.fact (.head _)).cell hg;refine Qo Tryz.func215 rfl Tryz.ntmps215 rfl ?_;by_cases hk:x.k=0
 ·by_cases hn:x.n=a
  ·rw [decide_eq_false (by simp [hn])];refine Zg ?_;clear hS;intro b1 wx1 hS;refine ZeQ ?_;refine Zft ?_;refine Zcn ?_;clear hS;intro b2 wx2 hS;refine Zb ?_;clear hS;intro wx3 hS;refine Zbj ?_;refine ZdZ ?_;refine ZbB ?_;refine Zco ?_;refine ZA ?_;refine Zo ?_;refine Za3 ?_;refine ZfM ?_;exact ⟨rfl,hS.ext.below⟩
  ·rw [decide_eq_true ⟨hk,hn⟩];refine Zg ?_;clear hS;intro b1 wx1 hS;refine ZeQ ?_;refine Zft ?_;refine Zcn ?_;clear hS;intro b2 wx2 hS;refine Zb ?_;clear hS;intro wx3 hS;refine Zbj ?_;refine ZdZ ?_;refine ZbB ?_;refine Zco ?_;refine ZA ?_;refine Zo ?_;refine Za3 ?_;refine ZfM ?_;exact ⟨rfl,hS.ext.below⟩
 ·rw [decide_eq_false (by simp [hk])];refine Zg ?_;clear hS;intro b1 wx1 hS;refine ZeQ ?_;refine Zft ?_;refine Zcn ?_;clear hS;intro b2 wx2 hS;refine Zb ?_;clear hS;intro wx3 hS;refine Zbj ?_;refine ZdZ ?_;refine Zbh ?_;refine Za3 ?_;refine ZfM ?_;exact ⟨rfl,hS.ext.below⟩
abbrev hob (A:Option Addr) (n c:Nat) (B:Option Addr) (m d:Nat):Obj:= .cells [.slice A n c,.slice B m d].toArray 56
theorem Qja (L:List HC) (A B:Option Addr) (c m d:Nat) (a:Int) (w:World) (hL:Qz 3 (Qab L) A L.length c w) (hl63:L.length≤9223372036854775807):
  Calls Tryz.prog 218 #[Qjm A L.length c B m d,.int .i64 a] w fun e w'=>e= .returned (.int .i64 (Qp L a))∧Below w.heap.size w w':=by
 have hS:=(St.start w).flat (M:=[]) hL;refine Qo Tryz.func218 rfl Tryz.ntmps218 rfl ?_;refine Zg ?_;clear hS;intro b1 wx1 hS;refine Zd ?_;refine Zat ?_;refine ZI ?_;refine ZN ?_;refine Qy 8 1 (9::10::11::12::13::4::14::15::16::17::18::19::20::21::22::23::24::25::[]) (fun (f:Nat) v u w'=>∃a' i:Nat,∃x:Int,i+f=L.length∧v= .int .i64 (i:Nat)∧u= .int .i64 x∧Qp L a=QaM L f x∧St [] w [(b1,hob A L.length c B m d)] [Qz 3 (Qab L) A L.length c] w') (fun f=>f) (L.length) ?_ Yb Yb ?_
 ·exact ⟨0,0,a,by omega,rfl,rfl,rfl,hS⟩
 clear hS;rintro f _ _ w2 jv ⟨_,i,x,hi,rfl,rfl,hl,hS⟩ ih
 cases f with
 |zero=>
  refine ZcT ?_;refine ZfN ?_;rw [hl];exact ⟨rfl,hS.ext.below⟩
 |succ f=>
  refine Zfp ?_;refine ZaI ?_;refine Zbx ?_;refine Zal ?_;refine Calls.mono (Qa8 L.length c A B m d x _) ?_;rintro _ w3 ⟨rfl,hb3⟩;refine Za ?_;replace hS:=hS.grow hb3;by_cases hx:0≤x∧x<L.length
  case neg=>
   rw [show (decide (0≤x)&&decide (x<(L.length:Nat)))=false by rw [Bool.and_eq_false_iff];simp only [decide_eq_false_iff_not];omega];refine ZdP ?_;refine ZfN ?_;rw [hl,Ql3 (Qnh hx)];exact ⟨rfl,hS.ext.below⟩
  rw [show (decide (0≤x)&&decide (x<(L.length:Nat)))=true by rw [Bool.and_eq_true];simp only [decide_eq_true_eq];exact hx];obtain ⟨y,hy,hg⟩:=Qgh hx.1 hx.2;obtain ⟨b,o,rfl⟩:=hL.some_ Ya;have hcc:∀{H'} w',St [] w H' [Qz 3 (Qab L) (some ⟨b,o,none⟩) L.length c] w'→_:=fun w' hS=>(hS.fact (.head _)).cell hg
  have e1:QaM L (f+1) x=if y.k=0∧y.n≠x then QaM L f y.n else x:=by simp only [QaM,hy]
  refine ZP ?_;refine ZaI ?_;refine Zbx ?_;refine Zal ?_;refine Calls.mono (Qk5 L _ B c m d x y _ (hS.fact (.head _)) hy) ?_;rintro _ w4 ⟨rfl,hb4⟩;refine Za ?_;replace hS:=hS.grow hb4;by_cases hb:y.k=0∧y.n≠x
  ·rw [decide_eq_true hb];rw [if_pos hb] at e1;refine ZP ?_;refine Zaz ?_;refine Zfx ?_;refine ZV ?_;refine ZI ?_;refine Zap ?_;refine ih (f) _ _ _ _ ?_ ?_ Yb Yb Yc
   ·omega
   ·exact ⟨0,i+1,y.n,by omega,by simp,rfl,by rw [hl,e1],hS⟩
  ·rw [decide_eq_false hb];rw [if_neg hb] at e1;refine ZE ?_;refine ZF ?_;refine Zai ?_;refine ZfN ?_;rw [hl,e1];exact ⟨rfl,hS.ext.below⟩
theorem Qjp (L:List HC) (T:List Int) (A B:Option Addr) (c d:Nat) (w:World) (hL:Qz 3 (Qab L) A L.length c w) (hT:Qz 1 (Qn T) B T.length d w):
  Calls Tryz.prog 185 #[Qjm A L.length c B T.length d] w fun e w'=>e= .returned (.bool (QbJ L T))∧Below w.heap.size w w':=by
 have hS:=((St.start w).flat (M:=[]) hL).flat (M:=[]) hT;refine Qu Tryz.func185 rfl Tryz.ntmps185 rfl ?_;by_cases hl:65536<T.length
 ·rw [show QbJ L T=false by unfold QbJ;rw [decide_eq_false Ya];rfl];refine Zg ?_;clear hS;intro b1 wx1 hS;refine Zav ?_;refine Zad ?_;refine ZI ?_;refine ZbD ?_;refine Z0 ?_;refine Ze6 ?_;exact ⟨rfl,hS.ext.below⟩
 rw [show QbJ L T=T.all (Qat L) by unfold QbJ;rw [decide_eq_true Ya];rfl];refine Zg ?_;clear hS;intro b1 wx1 hS;refine Zav ?_;refine Zad ?_;refine ZI ?_;refine ZbD ?_;refine Zz ?_;refine Zp ?_;refine Zad ?_;refine ZI ?_;refine ZN ?_;refine Qr 12 (13::14::15::4::16::17::18::19::20::21::22::23::24::25::26::27::28::2::29::[]) (fun (R:List Int) v w'=>∃D,T=D++R∧v= .int .i64 (D.length:Nat)∧T.all (Qat L)=R.all (Qat L)∧St [] w [(b1,hob A L.length c B T.length d)] [Qz 1 (Qn T) B T.length d,Qz 3 (Qab L) A L.length c] w') (fun R=>R.length) (T) ?_ Yb ?_
 ·exact ⟨[],rfl,rfl,rfl,hS⟩
 clear hS;rintro R _ w2 jv ⟨D,hD,rfl,hg,hS⟩ ih
 have hlen:T.length=D.length+R.length:=by rw [hD];simp
 cases R with
 |nil=>
  simp only [List.length_nil] at hlen;refine ZcT ?_;refine Ze6 ?_;rw [hg];exact ⟨rfl,hS.ext.below⟩
 |cons x R=>
  simp only [List.length_cons] at hlen;obtain ⟨b,o,rfl⟩:=hT.some_ Ya
  have hx:T[D.length]?=some x:=by rw [hD];simp
  have hct:∀{H'} w',St [] w H' [Qz 1 (Qn T) (some ⟨b,o,none⟩) T.length d,Qz 3 (Qab L) A L.length c] w'→_:=fun w' hS=>(hS.fact (.head _)).int hx;refine ZbR ?_;refine Zbc ?_;refine ZdL ?_;refine Zda ?_;refine Zal ?_;refine Calls.mono (Qa8 L.length c A _ T.length d x _) ?_;rintro _ w3 ⟨rfl,hb3⟩;refine Za ?_;replace hS:=hS.grow hb3;by_cases hx:0≤x∧x<L.length
  case neg=>
   rw [show (decide (0≤x)&&decide (x<(L.length:Nat)))=false by rw [Bool.and_eq_false_iff];simp only [decide_eq_false_iff_not];omega];refine ZE ?_;refine ZeL ?_;refine Zc0 ?_;refine Ze6 ?_;rw [hg];refine ⟨?_,hS.ext.below⟩;simp [Qat,Qnh hx]
  rw [show (decide (0≤x)&&decide (x<(L.length:Nat)))=true by rw [Bool.and_eq_true];simp only [decide_eq_true_eq];exact hx];obtain ⟨y,hy,hgy⟩:=Qgh hx.1 hx.2;obtain ⟨b2,o2,rfl⟩:=hL.some_ Ya;have hcc:∀{H'} w',St [] w H' [Qz 1 (Qn T) (some ⟨b,o,none⟩) T.length d,Qz 3 (Qab L) (some ⟨b2,o2,none⟩) L.length c] w'→_:=fun w' hS=>(hS.fact (.tail _ (.head _))).cell hgy;by_cases hk:y.k=0
  ·refine ZE ?_;refine ZbC ?_;refine Zco ?_;refine ZA ?_;refine Z6 ?_;refine Zi ?_;refine Zbg ?_;refine Zco ?_;refine Zo ?_;refine ZU ?_;refine ZbA ?_;refine ih (R) _ _ _ ?_ ?_ Yb Yc
   ·simp
   ·refine ⟨D++[x],by rw [hD];simp,by simp,?_,hS⟩;rw [hg];simp [Qat,hy,hk]
  ·refine ZE ?_;refine ZbC ?_;refine Zco ?_;refine ZA ?_;refine Z6 ?_;refine Zi ?_;refine Zbg ?_;refine Zco ?_;refine Zo ?_;refine Zc0 ?_;refine Ze6 ?_;rw [hg];refine ⟨?_,hS.ext.below⟩;simp [Qat,hy,hk]
theorem Qni (h:HH) (A B:Option Addr) (c d:Nat) (w:World) (hH:HFl h A c B d w):
  Calls Tryz.prog 139 #[hv h A c B d] w fun e w'=>e= .returned (.bool (QG h))∧Below w.heap.size w w':=by
 have hS:=(St.start w).base (φ:=HFl h A c B d) fun w' hx=>hH.ext hx;refine Qu Tryz.func139 rfl Tryz.ntmps139 rfl ?_;refine Zg ?_;clear hS;intro b1 wx1 hS;refine ZeQ ?_;refine ZI ?_;refine Zs ?_;refine Calls.mono (QeV h.cs A c _ (hS.fact (.head _)).1) ?_;rintro _ w3 ⟨rfl,hb3⟩;refine Za ?_;replace hS:=hS.grow hb3
 cases hg:Q9 h.cs with
 |false=>
  rw [show QG h=false by unfold QG;rw [hg];rfl];refine ZaP ?_;refine Za3 ?_;refine Qg Tryz.func139 rfl Yb ?_;exact ⟨rfl,hS.ext.below⟩
 |true=>
  rw [show QG h=QbJ h.cs h.tr by unfold QG;rw [hg];rfl];refine ZA ?_;refine Zbx ?_;refine Zi ?_;refine Zs ?_;refine Calls.mono (Qjp h.cs h.tr A B c d _ (hS.fact (.head _)).1 (hS.fact (.head _)).2) ?_;rintro _ w4 ⟨rfl,hb4⟩;refine Za ?_;replace hS:=hS.grow hb4;refine Za3 ?_;refine Qg Tryz.func139 rfl Yb ?_;exact ⟨rfl,hS.ext.below⟩
theorem QcY {h:HH} (hg:QG h=true):h.cs.length≤65536∧h.tr.length≤65536:=by
 unfold QG Q9 QbJ at hg;simp only [Bool.and_eq_true,decide_eq_true_eq] at hg;exact ⟨hg.1.1,hg.2.1⟩
section
variable {M:List Nat} {w0:World} {H:List (Nat×Obj)} {F:List (World→Prop)}
theorem QdR {P:Program} {n:Nat} {e:Env} {w:World} {Q:Exit→Act→World→Prop} {ops:Array Oper} {rest:List Oper} {ty:TypeId} {pos:String} {after:Array Edge} {d:Nat} {H':List (Nat×Obj)} {x y:Operand} {v:Value} {t tx:TypeId} {el len c:Nat} {A:Option Addr} {L:List HC} {xs:List Value} {O:List (Nat×Obj)} (hS:St M w0 H F w) (hx:ev n e x=v) (hy:ev n e y= .slice A L.length c)
  (hT:Qw P t=some el) (hTx:Qw P tx=some el) (hi:Qpu P el=some (3,32)) (hL:Qz 3 (Qab L) A L.length c w) (hrow:Rw el 3 v len xs O)
  (hP:H.Perm (O++H')) (hbig:len+L.length≤4398046511104) (hd:Nat.blt d n=true)
  (h:∀v' O' w',Rw el 3 v' (len+L.length) (xs++Qab L) O'→St M w0 (O'++H') F w'→Lst P Q ops rest n ((d,v')::e) w'):
  Lst P Q ops (⟨some d,.call ⟨.builtin .append, #[x,y], #[t,tx]⟩,ty,pos,after,none⟩::rest) n e w:=by
 obtain ⟨i,z,h2,h3,h4,h5,h6⟩:=QaG hi;refine QaR hS hx hy hT hTx h2 h3 h4 (by rw [h5];exact Qad L) (by rw [h5];exact hL.src hTx (Qgg L)) Yau hP Yar Ya hd ?_;rw [h5];exact h
theorem Qgd {P:Program} {n:Nat} {e:Env} {w:World} {Q:Exit→Act→World→Prop} {ops:Array Oper} {rest:List Oper} {ty:TypeId} {pos:String} {after:Array Edge} {d:Nat} {H':List (Nat×Obj)} {x y:Operand} {v:Value} {t tx:TypeId} {el len c:Nat} {A:Option Addr} {L:List Int} {xs:List Value} {O:List (Nat×Obj)} (hS:St M w0 H F w) (hx:ev n e x=v) (hy:ev n e y= .slice A L.length c)
  (hT:Qw P t=some el) (hTx:Qw P tx=some el) (hi:Qpu P el=some (1,8)) (hL:Qz 1 (Qn L) A L.length c w) (hrow:Rw el 1 v len xs O)
  (hP:H.Perm (O++H')) (hbig:len+L.length≤17592186044416) (hd:Nat.blt d n=true)
  (h:∀v' O' w',Rw el 1 v' (len+L.length) (xs++Qn L) O'→St M w0 (O'++H') F w'→Lst P Q ops rest n ((d,v')::e) w'):
  Lst P Q ops (⟨some d,.call ⟨.builtin .append, #[x,y], #[t,tx]⟩,ty,pos,after,none⟩::rest) n e w:=by
 obtain ⟨i,z,h2,h3,h4,h5,h6⟩:=QaG hi;refine QaR hS hx hy hT hTx h2 h3 h4 (by rw [h5];exact Qhh L) (by rw [h5];exact hL.src hTx (QkI L)) Yau hP Yar Ya hd ?_;rw [h5];exact h
end
section
variable {M:List Nat} {w0:World} {H:List (Nat×Obj)} {F:List (World→Prop)}
theorem QiB (L:List HC) (A:Option Addr) (c:Nat) (w:World) (hL:Und F (Qz 3 (Qab L) A L.length c)) (hl:L.length≤4398046511104) (hS:St M w0 H F w):
  Calls Tryz.prog 194 #[.slice A L.length c] w fun e w'=>∃(A':Option Addr) (c':Nat) (O:List (Nat×Obj)),e= .returned (.slice A' L.length c')∧Rw 104 3 (.slice A' L.length c') L.length (Qab L) O∧St M w0 (O++H) F w':=by
 refine Qu Tryz.func194 rfl Tryz.ntmps194 rfl ?_
 cases A with
 |none=>
  have h0:L.length=0:=by
   rcases Nat.eq_zero_or_pos L.length with h|h
   ·exact h
   ·obtain ⟨b,o,e⟩:=(hS.und hL).some_ h;cases e
  obtain rfl:L=[]:=List.eq_nil_of_length_eq_zero h0;refine Zx ?_;refine Ze7 ?_;refine Z0 ?_;refine Qg Tryz.func194 rfl Yb ?_;exact ⟨none,0,[],rfl,Rw.zero_,hS⟩
 |some a=>
  refine Zx ?_;refine Ze7 ?_;refine Zz ?_;refine Zf ?_;refine Qdu (sz:=3) hS rfl rfl rfl ?_;clear hS;intro b1 wx1 hS;refine Ze ?_;obtain ⟨i,z,h2,h3,h4,h5,h6⟩:=QaG (P:=Tryz.prog) (el:=104) (sz:=3) (bts:=32) rfl;refine QaR (xs:=[]) (O:=[]) hS Yb Yb rfl rfl h2 h3 h4 (by rw [h5];exact Qad L) (by rw [h5];exact (hS.und hL).src rfl (Qgg L)) Rw.zero_ (.refl _) Yar Ya rfl ?_;rw [h5];clear hS;intro v' O' w' hrow hS;rw [Nat.zero_add,List.nil_append] at hrow;obtain ⟨A',c',rfl,_⟩:=hrow.form;refine Zd ?_;refine Qg Tryz.func194 rfl Yb ?_;exact ⟨A',c',O',rfl,hrow,(hS.perm (List.perm_append_comm_assoc O' [_] _)).drop⟩
theorem Qqp (len c:Nat) (A:Option Addr) (w:World) (hl:len≤c):
  Calls Tryz.prog 217 #[.slice A len c] w fun e w'=>e= .returned (.slice A len len)∧Below w.heap.size w w':=by
 have hS:=St.start w;refine Qu Tryz.func217 rfl Tryz.ntmps217 rfl ?_;refine Zl ?_;refine Zt ?_;refine ZO ?_;refine ZbQ ?_;refine Qa (Qd6 (sz:=3) rfl rfl rfl rfl rfl rfl rfl Ya) rfl ?_;refine Zd ?_;refine Qg Tryz.func217 rfl Yb ?_;exact ⟨rfl,hS.ext.below⟩
theorem Qow (L:List Int) (A:Option Addr) (c:Nat) (w:World) (hL:Und F (Qz 1 (Qn L) A L.length c)) (hl:L.length≤4398046511104) (hS:St M w0 H F w):
  Calls Tryz.prog 195 #[.slice A L.length c] w fun e w'=>∃(A':Option Addr) (c':Nat) (O:List (Nat×Obj)),e= .returned (.slice A' L.length c')∧Rw 3 1 (.slice A' L.length c') L.length (Qn L) O∧St M w0 (O++H) F w':=by
 refine Qu Tryz.func195 rfl Tryz.ntmps195 rfl ?_
 cases A with
 |none=>
  have h0:L.length=0:=by
   rcases Nat.eq_zero_or_pos L.length with h|h
   ·exact h
   ·obtain ⟨b,o,e⟩:=(hS.und hL).some_ h;cases e
  obtain rfl:L=[]:=List.eq_nil_of_length_eq_zero h0;refine Zx ?_;refine Ze7 ?_;refine Z0 ?_;refine Qg Tryz.func195 rfl Yb ?_;exact ⟨none,0,[],rfl,Rw.zero_,hS⟩
 |some a=>
  refine Zx ?_;refine Ze7 ?_;refine Zz ?_;refine Zf ?_;refine Qdu (sz:=1) hS rfl rfl rfl ?_;clear hS;intro b1 wx1 hS;refine Ze ?_;obtain ⟨i,z,h2,h3,h4,h5,h6⟩:=QaG (P:=Tryz.prog) (el:=3) (sz:=1) (bts:=8) rfl;refine QaR (xs:=[]) (O:=[]) hS Yb Yb rfl rfl h2 h3 h4 (by rw [h5];exact Qhh L) (by rw [h5];exact (hS.und hL).src rfl (QkI L)) Rw.zero_ (.refl _) Yar Ya rfl ?_;rw [h5];clear hS;intro v' O' w' hrow hS;rw [Nat.zero_add,List.nil_append] at hrow;obtain ⟨A',c',rfl,_⟩:=hrow.form;refine Zd ?_;refine Qg Tryz.func195 rfl Yb ?_;exact ⟨A',c',O',rfl,hrow,(hS.perm (List.perm_append_comm_assoc O' [_] _)).drop⟩
theorem Qqo (len c:Nat) (A:Option Addr) (w:World) (hl:len≤c):
  Calls Tryz.prog 216 #[.slice A len c] w fun e w'=>e= .returned (.slice A len len)∧Below w.heap.size w w':=by
 have hS:=St.start w;refine Qu Tryz.func216 rfl Tryz.ntmps216 rfl ?_;refine Zl ?_;refine Zt ?_;refine ZO ?_;refine ZbQ ?_;refine Qa (Qd6 (sz:=1) rfl rfl rfl rfl rfl rfl rfl Ya) rfl ?_;refine Zd ?_;refine Qg Tryz.func216 rfl Yb ?_;exact ⟨rfl,hS.ext.below⟩
theorem Qnr (len c:Nat) (A:Option Addr) (w:World) (hl:len≤c) (hS:St M w0 H F w):
  Calls Tryz.prog 217 #[.slice A len c] w fun e w'=>e= .returned (.slice A len len)∧St M w0 H F w':=
 (Qqp len c A w hl).mono fun e w' h=>⟨h.1,hS.grow h.2⟩
theorem QrL (k:Nat) (w:World) (hk:k≤65536) (hS:St M w0 H F w):
  Calls Tryz.prog 187 #[.slice none 0 0,.int .i64 (k:Nat)] w fun e w'=>∃(v:Value) (O:List (Nat×Obj)),e= .returned v∧Rw 104 3 v 0 [] O∧St M w0 (O++H) F w':=by
 refine Qo Tryz.func187 rfl Tryz.ntmps187 rfl ?_;by_cases h0:0<k
 ·refine Zx ?_;refine ZeO ?_;refine Ze ?_;refine Qa (QcU rfl rfl rfl) rfl ?_;refine Ze ?_;refine ZbZ ?_;refine Zgk ?_;refine Z5 ?_;refine Zaw ?_;refine Ze ?_;refine Qa (QcU rfl rfl rfl) rfl ?_;refine Qa (QP (sz:=3) rfl rfl rfl rfl Ya Ya) rfl ?_;refine Ze ?_;refine QhL (sz:=3) (bts:=32) (k:=k) (ki:= .i64) hS rfl (by show Value.int .i64 ((k:Int)-(((0:Nat):Int)-((0:Nat):Int)))=_;congr 1) rfl rfl rfl Ya h0 Ya Ya rfl ?_;clear hS;intro b cap zs w2 hc hz hS;refine ZbQ ?_;refine Qa (QP (sz:=3) rfl rfl rfl rfl Ya Ya) rfl ?_;refine Zd ?_;refine Zai ?_;refine Qg Tryz.func187 rfl Yb ?_;exact ⟨_,[(b,.cells zs.toArray _)],rfl,Rw.own_ (xs:=[]) (sp:=zs) rfl (by simpa using hz) (Nat.zero_le _) Ya,hS⟩
 ·refine Zx ?_;refine ZeO ?_;refine Ze ?_;refine Qa (QcU rfl rfl rfl) rfl ?_;refine Ze ?_;refine ZbZ ?_;refine Zgk ?_;refine Z5 ?_;refine Zz ?_;refine Zai ?_;refine Qg Tryz.func187 rfl Yb ?_;exact ⟨_,[],rfl,Rw.zero_,hS⟩
theorem Qot (L K:List HC) (A B:Option Addr) (c d sb:Nat) (w:World) (hL:Und F (Qz 3 (Qab L) A L.length c)) (hK:Und F (Qz 3 (Qab K) B K.length d)) (hl:L.length+K.length≤65536)
  (hS:St M w0 ((sb,.cells [.slice A L.length c,.slice B K.length d].toArray 53)::H) F w):
  Calls Tryz.prog 141 #[.slice (some ⟨sb,0,none⟩) 2 2] w fun e w'=>∃(A':Option Addr) (c':Nat) (O:List (Nat×Obj)),e= .returned (.slice A' (L++K).length c')∧Rw 104 3 (.slice A' (L++K).length c') (L++K).length (Qab (L++K)) O∧St M w0 (O++H) F w':=by
 refine Qu Tryz.func141 rfl Tryz.ntmps141 rfl ?_;refine Zl ?_;refine Zx ?_;refine ZN ?_;refine Qy 11 3 (12::13::14::5::15::16::17::18::19::20::21::22::[]) (fun (i:Nat) v u w'=>∃j:Nat,j+i=2∧v= .int .i64 (j:Nat)∧u= .int .i64 ((if j=0 then 0 else if j=1 then L.length else L.length+K.length:Nat):Int)∧St M w0 ((sb,.cells [.slice A L.length c,.slice B K.length d].toArray 53)::H) F w') (fun i=>i) (2) ?_ Yb Yb ?_
 ·exact ⟨0,rfl,rfl,rfl,hS⟩
 clear hS;rintro i _ _ w2 jv ⟨j,hj,rfl,rfl,hS⟩ ih
 match i,hj with
 |2,hj=>
  obtain rfl:j=0:=by omega
  rw [if_pos rfl];refine ZbR ?_;refine Zm ?_;refine Zd ?_;refine Zt ?_;refine ZO ?_;refine ZQ ?_;refine Zau ?_;refine ZH ?_;refine ZaK ?_;refine ih (1) _ _ _ _ ?_ ?_ Yb Yb Yc
  ·omega
  ·exact ⟨1,rfl,rfl,by simp,hS⟩
 |1,hj=>
  obtain rfl:j=1:=by omega
  rw [if_neg (show¬(1:Nat)=0 by omega),if_pos rfl];refine ZbR ?_;refine Zm ?_;refine Zd ?_;refine Zt ?_;refine ZO ?_;refine ZQ ?_;refine Zau ?_;refine ZH ?_;refine ZaK ?_;refine ih (0) _ _ _ _ ?_ ?_ Yb Yb Yc
  ·omega
  ·exact ⟨2,rfl,rfl,by simp,hS⟩
 |0,hj=>
  obtain rfl:j=2:=by omega
  rw [if_neg (show¬(2:Nat)=0 by omega),if_neg (show¬(2:Nat)=1 by omega)];refine ZL ?_;refine Zb9 ?_;refine Calls.mono (QrL (L.length+K.length) _ hl hS) ?_;rintro _ w3 ⟨v3,O3,rfl,hrow3,hS'⟩;refine Za ?_;replace hS:=hS';clear hS';refine ZbO ?_;refine Qy 27 6 (28::29::30::8::31::32::33::34::[]) (fun (i:Nat) v u w'=>∃(j:Nat) (D:List HC) (O:List (Nat×Obj)),j+i=2∧v= .int .i64 (j:Nat)∧D=(if j=0 then [] else if j=1 then L else L++K)∧Rw 104 3 u D.length (Qab D) O∧St M w0 (O++(sb,.cells [.slice A L.length c,.slice B K.length d].toArray 53)::H) F w') (fun i=>i) (2) ?_ Yb Yb ?_
  ·exact ⟨0,[],O3,rfl,rfl,rfl,hrow3,hS⟩
  clear hS;rintro i _ u w4 jv2 ⟨j,D,O,hj,rfl,hD,hrow,hS⟩ ih
  match i,hj with
  |2,hj=>
   obtain rfl:j=0:=by omega
   obtain rfl:D=[]:=hD;replace hS:=hS.raise;refine ZbR ?_;refine Zm ?_;refine Zd ?_;refine ZcX ?_;refine QdR hS Yb Yb rfl rfl rfl (hS.und hL) hrow (List.perm_append_comm_assoc [_] O _) Yh rfl ?_;clear hS;intro v5 O5 w5 hrow5 hS;refine Zap ?_;refine ih (1) _ _ _ _ ?_ ?_ Yb Yb Yc
   ·omega
   ·exact ⟨1,L,O5,rfl,rfl,by simp,by simpa [Qab] using hrow5,hS⟩
  |1,hj=>
   obtain rfl:j=1:=by omega
   have hD2:D=L:=by simpa using hD
   rw [hD2] at hrow;replace hS:=hS.raise;refine ZbR ?_;refine Zm ?_;refine Zd ?_;refine ZcX ?_;refine QdR hS Yb Yb rfl rfl rfl (hS.und hK) hrow (List.perm_append_comm_assoc [_] O _) Ya rfl ?_;clear hS;intro v5 O5 w5 hrow5 hS;refine Zap ?_;refine ih (0) _ _ _ _ ?_ ?_ Yb Yb Yc
   ·omega
   ·exact ⟨2,L++K,O5,rfl,rfl,by simp,by rw [QbC,List.length_append];exact hrow5,hS⟩
  |0,hj=>
   obtain rfl:j=2:=by omega
   have hD2:D=L++K:=by simpa using hD
   rw [hD2] at hrow;obtain ⟨A',c',rfl,_⟩:=hrow.form;refine Zcp ?_;refine Qg Tryz.func141 rfl Yb ?_;exact ⟨A',c',O,rfl,hrow,hS.raise.drop⟩
end
abbrev DS:=List Bool×List Int
def Qbh (a:Int) (s:DS):DS:=if Qq s.1 a=true then s else (s.1.set a.toNat true,s.2++[a])
structure Qlh (L:List HC) (R:List Int) (Ex:Int→Prop) (s:DS):Prop where
 len:s.1.length=L.length
 snd:∀i:Nat,s.1[i]?=some true→Rc L R (i:Int)
 wt:∀a∈s.2,Ql L a=true∧Qq s.1 a=true
 clo:∀(i:Int) (c:HC),Qq s.1 i=true→i∉s.2→¬Ex i→hat L i=some c→(c.k=0→Qq s.1 c.n=true)∧∀j:Int,0≤j→j<QI c→Qq s.1 (i+1+j)=true
def pot (s:DS):Nat:=2*s.1.count false+s.2.length
theorem Qbv {a b:Int} {s:DS} (h:Qq s.1 b=true):Qq (Qbh a s).1 b=true:=by
 unfold Qbh;split
 ·exact h
 ·rw [Qap] at h⊢;rw [List.getElem?_set];split
  ·rename_i e;rw [if_pos];rw [e];rcases Nat.lt_or_ge b.toNat s.1.length with g|g
   ·exact g
   ·rw [List.getElem?_eq_none g] at h;cases h
  ·exact h
theorem QcV {L:List HC} {a:Int} {s:DS} (hl:s.1.length=L.length) (ha:Ql L a=true):Qq (Qbh a s).1 a=true:=by
 have:=Qm.1 ha;unfold Qbh;split
 ·assumption
 ·rw [Qap,List.getElem?_set_self Ya]
theorem Qfj {L:List HC} {R:List Int} {Ex:Int→Prop} {a:Int} {s:DS} (h:Qlh L R Ex s) (ha:Ql L a=true) (hr:Rc L R a):Qlh L R Ex (Qbh a s):=by
 have hmono:=fun b=>Qbv (a:=a) (b:=b) (s:=s);have hself:=QcV (a:=a) h.len ha;have haa:=Qm.1 ha;by_cases hm:Qq s.1 a=true
 ·have e:Qbh a s=s:=by unfold Qbh;rw [if_pos hm]
  rw [e];exact h
 have e:Qbh a s=(s.1.set a.toNat true,s.2++[a]):=by unfold Qbh;rw [if_neg hm]
 rw [e] at hmono hself⊢;refine ⟨by simpa using h.len,fun i hi=> ?_,fun b hb=> ?_,fun i c hi hn hx hc=> ?_⟩
 ·dsimp only at hi;rw [List.getElem?_set] at hi;split at hi
  ·rename_i e2;rw [show ((i:Nat):Int)=a by omega];exact hr
  ·exact h.snd i hi
 ·rcases List.mem_append.1 hb with hb|hb
  ·exact ⟨(h.wt b hb).1,hmono b (h.wt b hb).2⟩
  ·rw [List.mem_singleton.1 hb];exact ⟨ha,hself⟩
 ·dsimp only at hi hn⊢;have hia:i≠a:=fun e=>hn (List.mem_append_right _ (by simp [e]));have hin:i∉s.2:=fun e=>hn (List.mem_append_left _ e);have hii:=(Qa7.1 hc).1
  have hi':Qq s.1 i=true:=by
   rw [Qap] at hi⊢;rw [List.getElem?_set,if_neg Ya] at hi;exact hi
  obtain ⟨g1,g2⟩:=h.clo i c hi' hin hx hc;exact ⟨fun hk=>hmono _ (g1 hk),fun j j0 j1=>hmono _ (g2 j j0 j1)⟩
theorem Qos {M:List Bool} {i:Nat} (hl:i<M.length) (hm:M[i]?≠some true):(M.set i true).count false+1=M.count false:=by
 have e:M[i]=false:=by
  rw [List.getElem?_eq_getElem hl] at hm;simpa using hm
 have hpos:0<M.count false:=List.count_pos_iff.2 (by rw [←e];exact List.getElem_mem hl);rw [List.count_set hl,e];simp;omega
theorem Qfi {L:List HC} {a:Int} {s:DS} (hl:s.1.length=L.length) (ha:Ql L a=true):pot (Qbh a s)≤pot s:=by
 have:=Qm.1 ha;unfold Qbh;split
 ·exact Nat.le_refl _
 ·rename_i hm;have:=Qos (M:=s.1) (i:=a.toNat) Ya (fun h=>hm (Qap.2 h));unfold pot;simp only [List.length_append,List.length_cons,List.length_nil];omega
theorem Qlh.pop {L:List HC} {R:List Int} {M:List Bool} {W:List Int} {a:Int} (h:Qlh L R (fun _=>False) (M,W++[a])):Qlh L R (fun i=>i=a) (M,W):=
 ⟨h.len,h.snd,fun b hb=>h.wt b (List.mem_append_left _ hb),fun i c h1 h2 h3 h4=>h.clo i c h1 (fun hm=>by
  rcases List.mem_append.1 hm with hm|hm
  ·exact h2 hm
  ·exact h3 (by simpa using hm)) (fun e=>e) h4⟩
theorem Qlh.done {L:List HC} {R:List Int} {a:Int} {c:HC} {s:DS} (h:Qlh L R (fun i=>i=a) s) (hc:hat L a=some c) (h1:c.k=0→Qq s.1 c.n=true) (h2:∀j:Int,0≤j→j<QI c→Qq s.1 (a+1+j)=true):Qlh L R (fun _=>False) s:=
 ⟨h.len,h.snd,h.wt,fun i d g1 g2 _ g4=>by
  by_cases e:i=a
  ·subst e;rw [hc] at g4;cases g4;exact ⟨h1,h2⟩
  ·exact h.clo i d g1 g2 e g4⟩
theorem Qlh.fin {L:List HC} {R:List Int} {M:List Bool} (hg:QN L.length L=true) (h:Qlh L R (fun _=>False) (M,[])) (hr:∀r∈R,Ql L r=true→Qq M r=true):M=QK L R:=by
 refine Qlg.eq ⟨h.len,fun i hi=>⟨h.snd i,fun hrc=> ?_⟩⟩
 have key:∀a,Rc L R a→Qq M a=true:=by
  intro a ha
  induction ha with
  |root h1 h2=>exact hr _ h1 h2
  |ref h1 hc hk ih=>exact (h.clo _ _ ih Yd (fun e=>e) hc).1 hk
  |arg h1 hc i0 i1 ih=>exact (h.clo _ _ ih Yd (fun e=>e) hc).2 _ i0 i1
 have:=Qap.1 (key _ hrc)
 rwa [show ((i:Nat):Int).toNat=i by omega] at this
theorem Qlh.start {L:List HC} {R:List Int} {Ex:Int→Prop}:Qlh L R Ex (List.replicate L.length false,[]):=by
 have hno:∀i:Nat,(List.replicate L.length false)[i]?≠some true:=fun i h=>by
  rw [List.getElem?_replicate] at h;split at h<;>simp at h
 refine ⟨by simp,fun i hi=>absurd hi (hno i),fun a ha=>by simp at ha,fun i c hi=> ?_⟩;exact absurd (Qap.1 hi) (hno _)
noncomputable def Qc5 (h:HH) (R:List Int):List Bool×Int:=if QG h=false then ([],1) else (QK h.cs R,0)
end Go.Proofs.YthliapbflkfdiacGreatDoor
