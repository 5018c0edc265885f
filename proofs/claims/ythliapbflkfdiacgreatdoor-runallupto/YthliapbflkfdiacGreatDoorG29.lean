/- Steps of the proof. -/
import Derived.Test.YthliapbflkfdiacGreatDoorG28
namespace Go.Proofs.YthliapbflkfdiacGreatDoor
open Go.RowKit
set_option linter.unusedVariables false
set_option linter.unusedSimpArgs false
set_option maxRecDepth 100000
set_option maxHeartbeats 1000000
abbrev cvv (c:HC):Value:= .agg #[.int .i64 c.k,.int .i64 c.n,.string c.s]
section
variable {M:List Nat} {w0:World} {H:List (Nat×Obj)} {F:List (World→Prop)}
theorem QlI (i:Int) (w:World) (hS:St M w0 H F w):
  Calls Tryz.prog 137 #[.int .i64 i] w fun e w'=>e= .returned (cvv ⟨0,i,eS⟩)∧St M w0 H F w':=by
 refine Qu Tryz.func137 rfl Tryz.ntmps137 rfl ?_;refine Zf ?_;refine Z7 ?_;clear hS;intro b1 wx1 hS;refine Zc2 ?_;refine Zff ?_;refine Zb ?_;clear hS;intro wx2 hS;refine Zc ?_;refine QdB (sz:=3) hS Tryz.func137 rfl rfl rfl rfl Ym Yf ?_;exact ⟨rfl,hS.drop⟩
theorem QhZ (k n:Int) (s:ByteArray) (A:Option Addr) (l c:Nat) (w:World) (hS:St M w0 H F w):
  Calls Tryz.prog 138 #[.agg #[.int .i64 k,.int .i64 n,.string s,.slice A l c]] w fun e w'=>e= .returned (cvv (Qc3 k n s))∧St M w0 H F w':=by
 refine Qu Tryz.func138 rfl Tryz.ntmps138 rfl ?_;by_cases h0:k=0
 ·subst h0;refine Zg ?_;clear hS;intro b1 wx1 hS;refine Z7 ?_;clear hS;intro b2 wx2 hS;refine Zea ?_;refine Zbf ?_;refine Zdx ?_;refine Zs ?_;refine Calls.mono (QlI n _ hS) ?_;rintro _ w2 ⟨rfl,hS'⟩;refine Za ?_;replace hS:=hS';clear hS';refine Zb ?_;clear hS;intro wx3 hS;refine Zc ?_;refine ZfZ ?_;exact ⟨rfl,hS.drop.drop⟩
 by_cases h2:k=2
 ·subst h2;refine Zg ?_;clear hS;intro b1 wx1 hS;refine Z7 ?_;clear hS;intro b2 wx2 hS;refine Zea ?_;refine Zdw ?_;refine Zdx ?_;refine Zff ?_;refine Zb ?_;clear hS;intro wx3 hS;refine Zc ?_;refine ZfZ ?_;exact ⟨rfl,hS.drop.drop⟩
 have e:Qc3 k n s=⟨1,0,s⟩:=by unfold Qc3;rw [if_neg h0,if_neg h2]
 rw [e];refine Zg ?_;clear hS;intro b1 wx1 hS;refine Z7 ?_;clear hS;intro b2 wx2 hS;refine Zea ?_;refine Zdw ?_;refine Zk ?_;refine Zck ?_;refine Zf ?_;refine Zam ?_;refine Zm ?_;refine Zff ?_;refine Zb ?_;clear hS;intro wx3 hS;refine Zc ?_;refine ZfZ ?_;exact ⟨rfl,hS.drop.drop⟩
theorem Qey (n:Nat) (hn:n≤1000) (w:World) (hS:St M w0 H F w):
  Calls Tryz.prog 87 #[.int .i64 (n:Nat)] w fun e w'=>∃(A:Option Addr) (c:Nat) (O:List (Nat×Obj)),e= .returned (.slice A (QbM n).length c)∧Rw 104 3 (.slice A (QbM n).length c) (QbM n).length (Qab (QbM n)) O∧St M w0 (O++H) F w':=by
 rw [Qae];refine Qu Tryz.func87 rfl Tryz.ntmps87 rfl ?_;refine Zl ?_;refine Zv ?_;refine Qgc (k:=n) (sz:=3) (bts:=32) hS rfl rfl rfl rfl Ya Ya rfl ?_;clear hS;intro b w2 cs hcl hS;refine ZbO ?_;refine Qr 9 (10::11::4::12::13::14::15::16::17::[]) (fun (m:Nat) v w'=>∃(i:Nat) (sp:List Value),i+m=n∧v= .int .i64 (i:Nat)∧sp.length=m*3∧St M w0 ((b,.cells (Qab (Qcu i 0)++sp).toArray 104)::H) F w') (fun m=>m) (n) ?_ Yb ?_
 ·exact ⟨0,cs,by omega,rfl,hcl,hS⟩
 clear hS;rintro m _ w3 jv ⟨i,sp,him,rfl,hsp,hS⟩ ih
 cases m with
 |zero=>
  obtain rfl:i=n:=by omega
  obtain rfl:sp=[]:=List.eq_nil_of_length_eq_zero Ya;refine Zcp ?_;refine Qg Tryz.func87 rfl Yb ?_;by_cases h0:i=0
  ·subst h0;exact ⟨_,_,[],rfl,Rw.zero_,hS.drop⟩
  ·refine ⟨_,_,[(b,Obj.cells (Qab (Qcu i 0)++([]:List Value)).toArray 104)],rfl,Rw.own_ (xs:=Qab (Qcu i 0)) (sp:=[]) ?_ ?_ (Nat.le_refl _) Ya,hS⟩
   ·rw [Qad,Qdg]
   ·rw [List.append_nil,Qad,Qdg]
 |succ m=>
  obtain ⟨a0,a1,a2,sp,rfl⟩:∃a0 a1 a2 r,sp=a0::a1::a2::r:=by
   match sp,hsp with
   |a0::a1::a2::r,_=>exact ⟨a0,a1,a2,r,rfl⟩
   |[],h=>simp at h
   |[_],h=>simp at h;omega
   |[_,_],h=>simp at h;omega
  refine Zax ?_;refine ZT ?_;refine ZK ?_;refine Zs ?_;refine Calls.mono (QlI ((i:Nat):Int) _ hS) ?_;rintro _ w4 ⟨rfl,hS'⟩;refine Za ?_;replace hS:=hS';clear hS';refine Z6 ?_;have hlen:=Qad (Qcu i 0);have hvl:=Qdg i 0;refine QdQ hS rfl Yi rfl rfl .head (Qga (Qab (Qcu i 0)) [a0,a1,a2] (hcs ⟨0,((i:Nat):Int),eS⟩) sp _ Ya rfl) .head ?_;clear hS;intro w5 hS;refine Zay ?_;refine ih (m) _ _ _ ?_ ?_ Yb Yc
  ·omega
  ·refine ⟨i+1,sp,by omega,by simp,by simp only [List.length_cons] at hsp;omega,?_⟩;rw [QhW,QbC,Nat.zero_add];have e1:Qab (Qcu i 0)++Qab [⟨0,((i:Nat):Int),eS⟩]++sp=Qab (Qcu i 0)++(hcs ⟨0,((i:Nat):Int),eS⟩++sp):=by simp [Qab,hcs]
   rw [e1];exact hS
end
theorem QsN {α:Type} (P Q:List α) (z c:α):(P++z::Q).set P.length c=P++c::Q:=by
 induction P with
 |nil=>rfl
 |cons p P ih=>simp only [List.cons_append,List.length_cons,List.set_cons_succ,ih]
def Qdb (cs:List HC) (s:ByteArray) (l:Nat) (D:Ts) (m:Nat):List HC:=cs++(⟨3,(l:Nat),s⟩::((Qbp D (cs.length+1+l)).1++(List.replicate m zC++(Qbp D (cs.length+1+l)).2)))
theorem Qi7 (cs:List HC) (s:ByteArray) (l:Nat) (D:Ts) (m:Nat):(Qdb cs s l D m).length=cs.length+1+D.length+m+(Qbp D (cs.length+1+l)).2.length:=by
 simp only [Qdb,List.length_append,List.length_cons,List.length_replicate,QbV];omega
theorem Qm0 (cs:List HC) (s:ByteArray) (l:Nat) (D:Ts) (m:Nat) (c:HC):(Qdb cs s l D (m+1)).set (cs.length+1+D.length) c=cs++(⟨3,(l:Nat),s⟩::((Qbp D (cs.length+1+l)).1++(c::(List.replicate m zC++(Qbp D (cs.length+1+l)).2)))):=by
 have h:=QsN (cs++(⟨3,(l:Nat),s⟩::(Qbp D (cs.length+1+l)).1)) (List.replicate m zC++(Qbp D (cs.length+1+l)).2) zC c
 have hl:(cs++(⟨3,(l:Nat),s⟩::(Qbp D (cs.length+1+l)).1)).length=cs.length+1+D.length:=by simp only [List.length_append,List.length_cons,QbV];omega
 rw [hl] at h
 have e1:Qdb cs s l D (m+1)=(cs++(⟨3,(l:Nat),s⟩::(Qbp D (cs.length+1+l)).1))++zC::(List.replicate m zC++(Qbp D (cs.length+1+l)).2):=by
  simp only [Qdb,List.replicate_succ,List.append_assoc,List.cons_append]
 rw [e1,h];simp only [List.append_assoc,List.cons_append]
theorem Qrq (cs:List HC) (s1:ByteArray) (l:Nat) (D:Ts) (m:Nat) {k:Int} (n:Int) (s:ByteArray) (ar:Ts) (hk:k≠3):(Qdb cs s1 l D (m+1)).set (cs.length+1+D.length) (Qc3 k n s)=Qdb cs s1 l (D.app (.cons k n s ar .nil)) m:=by
 rw [Qm0];unfold Qdb;rw [Qna,Qbj _ _ _ _ _ hk];simp [Qbp]
theorem QpS (cs:List HC) (s1:ByteArray) (l:Nat) (D:Ts) (m:Nat) (n:Int) (s:ByteArray) (ar:Ts) (hl:l=D.length+(m+1)):(Qdb cs s1 l D (m+1)).set (cs.length+1+D.length) ⟨0,((Qdb cs s1 l D (m+1)).length:Nat),eS⟩++QbR 3 n s ar (Qdb cs s1 l D (m+1)).length=Qdb cs s1 l (D.app (.cons 3 n s ar .nil)) m:=by
 have hp:(Qdb cs s1 l D (m+1)).length=cs.length+1+l+(Qbp D (cs.length+1+l)).2.length:=by rw [Qi7];omega
 rw [Qm0,hp];unfold Qdb QbR;rw [Qna,Qcc,if_pos rfl];simp [Qbp]
theorem Qof (cs:List HC) (s:ByteArray) (l:Nat):Qdb cs s l .nil l=(cs++[⟨3,(l:Nat),s⟩])++List.replicate l zC:=by simp [Qdb,Qbp]
theorem Qrr (cs:List HC) (n:Int) (s:ByteArray) (T:Ts):Qdb cs s T.length T 0=cs++QbR 3 n s T cs.length:=by
 unfold Qdb QbR QkE;rw [if_pos rfl];simp
def Qe8 (T:TA):Prop:=∀(M:List Nat) (w0:World) (H:List (Nat×Obj)) (F:List (World→Prop)) (vars k n:Int) (s:ByteArray) (A:Option Addr) (c:Nat) (cs:List HC) (v:Value) (O:List (Nat×Obj)) (w:World),
 Und F (ArA A c T)→(Ts.cons k n s T.ts .nil).good vars=true→cs.length+2*T.ts.nodes+2≤1000000→Rw 104 3 v cs.length (Qab cs) O→St M w0 (O++H) F w→
  Calls Tryz.prog 88 #[v,.agg #[.int .i64 k,.int .i64 n,.string s,.slice A T.len c]] w fun e w'=>∃(A':Option Addr) (c':Nat) (O':List (Nat×Obj)),e= .returned (.slice A' (cs++QbR k n s T.ts cs.length).length c')∧
   Rw 104 3 (.slice A' (cs++QbR k n s T.ts cs.length).length c') (cs++QbR k n s T.ts cs.length).length (Qab (cs++QbR k n s T.ts cs.length)) O'∧St M w0 (O'++H) F w'
theorem QmG (T:TA) (ihT:∀U:TA,U.ts.nodes<T.ts.nodes→Qe8 U):Qe8 T:=by
 intro M w0 H F vars k n s A c cs v O w hA hg hb hrow hS;obtain ⟨A1,c1,rfl,hc1⟩:=hrow.form;have hln:=Ts.length_le T.ts;rw [TA.len_ts] at hln;refine Qo Tryz.func88 rfl Tryz.ntmps88 rfl ?_;by_cases hk:k=3
 ·subst hk
  have hTl:1≤T.len:=by
   rcases QdN (QbI hg).1 with h|h|h|h
   ·omega
   ·omega
   ·omega
   ·rw [←TA.len_ts];omega
  refine Zg ?_;clear hS;intro b1 wx1 hS;refine Zb6 ?_;refine Zo ?_;refine Zz ?_;refine Zv ?_;refine ZbE ?_;refine ZO ?_;refine Zam ?_;refine Zm ?_;refine Qa (QB (cells:=[_,_,_]) (.cons Yb (.cons Yb (.cons Yb .nil))) rfl) rfl ?_;refine Zdl ?_;clear hS;intro b2 wx2 hS;refine QdR (L:=[⟨3,(T.len:Nat),s⟩]) hS Yb Yi rfl rfl rfl (Qz.own (sp:=[]) (hS.own (_,_) (.head _)) rfl (Nat.le_refl _)) hrow (List.perm_append_comm_assoc [_,_] O _) Yh rfl ?_;clear hS;intro v7 O7 w7 hrow7 hS;change Rw _ _ _ (cs.length+1) _ _ at hrow7;obtain ⟨B7,d7,rfl,_⟩:=hrow7.form;replace hS:=(hS.perm (List.perm_append_comm_assoc O7 [_,_] _)).drop;refine Zau ?_;refine ZO ?_;refine Zau ?_;refine ZbE ?_;refine ZO ?_;obtain ⟨i,z,i2,i3,i4,i5,i6⟩:=QaG (P:=Tryz.prog) (el:=104) (sz:=3) (bts:=32) rfl
  have hzc:z.cells= #[.int .i64 0,.int .i64 0,.string eS]:=by
   have:QiJ Tryz.prog 104=some (.agg #[.int .i64 0,.int .i64 0,.string eS]):=by kernel_rfl
   unfold QiJ at this;rw [i2] at this;simp only [Option.bind_some] at this;rw [i3] at this;rw [Option.some.inj this];rfl
  refine Qrw (k:=T.len) (zs:=Qab (List.replicate T.len zC)) (ki:= .i64) hS Yb Yi rfl rfl i2 i3 i4 Ya (by rw [hzc];exact Qmp _) (fun u hu=>List.all_eq_true.1 (Qgg _) u hu) (by rw [i5];exact hrow7) Ya hTl (List.perm_append_comm_assoc [_] O7 _) (by rw [i6];omega) Ya rfl ?_;rw [i5];clear hS;intro v8 O8 w8 hrow8 hS;obtain ⟨B8,d8,rfl,_⟩:=hrow8.form;replace hS:=hS.perm (List.perm_append_comm_assoc O8 [_] _);clear i2 i3 i4 i5 i6 hzc
  have e8:(Qdb cs s T.len .nil T.len).length=cs.length+1+T.len:=by rw [Qi7];simp [Ts.length,Qbp]
  have hrow9:Rw 104 3 (.slice B8 (Qdb cs s T.len .nil T.len).length d8) (Qdb cs s T.len .nil T.len).length (Qab (Qdb cs s T.len .nil T.len)) O8:=by
   rw [e8,Qof,QbC,QbC];exact hrow8
  refine Zav ?_;refine Zf ?_;refine ZbE ?_;refine ZN ?_;refine Qy 35 0 (36::37::38::39::7::6::40::41::42::43::44::45::46::47::48::49::50::51::52::53::54::55::56::57::58::59::60::61::[]) (fun (R:TA) y u w'=>∃(D:TA) (Au:Option Addr) (cu:Nat) (Ou:List (Nat×Obj)),T=D.app R∧y= .int .i64 (D.len:Nat)∧u= .slice Au (Qdb cs s T.len D.ts R.len).length cu∧Rw 104 3 (.slice Au (Qdb cs s T.len D.ts R.len).length cu) (Qdb cs s T.len D.ts R.len).length (Qab (Qdb cs s T.len D.ts R.len)) Ou∧St M w0 ((b1,.cells [.int .i64 3,.int .i64 n,.string s,.slice A T.len c].toArray 63)::(Ou++H)) F w') (fun R=>R.len) (T) ?_ Yb Yb ?_
  ·exact ⟨.nil,B8,d8,O8,rfl,rfl,by rw [show TA.nil.ts=Ts.nil from rfl,e8],hrow9,hS⟩
  clear hS hrow7 hrow8 hrow9 e8;rintro R _ _ w3 jv ⟨D,Au,cu,Ou,hD,rfl,rfl,hrow,hS⟩ ih;have hlen:T.len=D.len+R.len:=by rw [hD,TA.len_app]
  have hml:=Qi7 cs s T.len D.ts R.len;rw [TA.len_ts] at hml;have hTn:T.ts.nodes=D.ts.nodes+R.ts.nodes:=by rw [hD,TA.app_ts,Ts.nodes_app]
  have hle:=Qp8 D.ts (cs.length+1+T.len)
  cases R with
  |nil=>
   have hTD:T=D:=by rw [hD,TA.app_nil]
   subst hTD;refine Zcp ?_;refine Qg Tryz.func88 rfl Yb ?_
   have em:Qdb cs s T.len T.ts TA.nil.len=cs++QbR 3 n s T.ts cs.length:=by rw [←TA.len_ts];exact Qrr cs n s T.ts
   rw [em] at hrow;rw [em];exact ⟨Au,cu,Ou,rfl,hrow,hS.drop⟩
  |cons k1 n1 s1 Aa ca a1 r=>
   have hRl:(TA.cons k1 n1 s1 Aa ca a1 r).len=r.len+1:=rfl;have hDl:=TA.len_ts D;have hrl:=Ts.length_le r.ts;rw [TA.len_ts] at hrl;have hR1:(TA.cons k1 n1 s1 Aa ca a1 r).ts.nodes=a1.ts.nodes+r.ts.nodes+1:=rfl
   have hg1:(Ts.cons k1 n1 s1 a1.ts .nil).good vars=true:=by
    have:=(QbI hg).2.1;rw [hD,TA.app_ts,Ts.good_ap] at this;simp only [Bool.and_eq_true] at this;obtain ⟨x1,x2,_⟩:=QbI this.2;simp only [Ts.good,Bool.and_eq_true,and_true];exact ⟨x1,x2⟩
   have hA':Und F (ArA A c (D.app (.cons k1 n1 s1 Aa ca a1 r))):=by rw [←hD];exact hA
   obtain ⟨bk,ok,rfl⟩:=(hS.und hA').some_ YH;have hcc:∀{H'} w',St M w0 H' F w'→_:=fun w' hS=>(hS.und hA').cells;have hsub:Und F (ArA Aa ca a1):=fun w hw=>(hA' w hw).sub;obtain ⟨g,sp,rfl,rfl,hcap,hlc,_⟩:=hrow.some_ Ya
   have hcr:∀(X:List HC) (sp2:List Value),X.length=(Qdb cs s T.len D.ts (TA.cons k1 n1 s1 Aa ca a1 r).len).length→sp2=sp→Rw 104 3 (.slice (some ⟨g,0,none⟩) X.length cu) X.length (Qab X) [(g,.cells (Qab X++sp2).toArray 104)]:=by
    rintro X _ hX rfl;refine Rw.own_ (Qad X) ?_ Ya Ya;rw [←hcap];simp only [List.length_append,Qad,hX]
   have hput:=fun c=>Qqd (Qdb cs s T.len D.ts (TA.cons k1 n1 s1 Aa ca a1 r).len) sp (((cs.length+1:Nat):Int)+((D.len:Nat):Int)).toNat c Ya
   have hin:(((cs.length+1:Nat):Int)+((D.len:Nat):Int)).toNat=cs.length+1+D.ts.length:=by rw [TA.len_ts];omega
   by_cases hk1:k1=3
   ·subst hk1;refine Zb7 ?_;refine ZdI ?_;clear hS;intro b3 wx3 hS;refine ZcZ ?_;clear hS;intro wx4 hS;refine ZbI ?_;refine ZcI ?_;refine Zz ?_;refine Zd6 ?_;refine ZbQ ?_;refine Zs ?_;refine Calls.mono (QlI ((Qdb cs s T.len D.ts (TA.cons 3 n1 s1 Aa ca a1 r).len).length:Nat) _ hS) ?_;rintro _ w4 ⟨rfl,hS'⟩;refine Za ?_;replace hS:=hS';clear hS';refine Z6 ?_;refine Zg2 ?_;clear hS;intro w5 hS;refine Zd2 ?_;refine ZaZ ?_;have hX:((Qdb cs s T.len D.ts (TA.cons 3 n1 s1 Aa ca a1 r).len).set (((cs.length+1:Nat):Int)+((D.len:Nat):Int)).toNat ⟨0,((Qdb cs s T.len D.ts (TA.cons 3 n1 s1 Aa ca a1 r).len).length:Nat),eS⟩).length=(Qdb cs s T.len D.ts (TA.cons 3 n1 s1 Aa ca a1 r).len).length:=by rw [List.length_set]
    have hcomp:=QpS cs s T.len D.ts r.len n1 s1 a1.ts (by rw [TA.len_ts];omega);rw [←hin,←hRl] at hcomp;have hrowX:=hcr _ sp hX rfl;have hcall:=ihT a1 Ya M w0 ((b3,.cells [.int .i64 3,.int .i64 n1,.string s1,.slice Aa a1.len ca].toArray 63)::(b1,.cells [.int .i64 3,.int .i64 n,.string s,.slice (some ⟨bk,ok,none⟩) T.len c].toArray 63)::H) F vars 3 n1 s1 Aa ca _ _ _ _ hsub hg1 (by rw [hX];omega) hrowX (hS.perm (List.perm_append_comm_assoc [_,_] [_] _));rw [hX,hcomp] at hcall;refine Zj ?_;refine Calls.mono (hcall) ?_;rintro _ w6 ⟨A6,c6,O6,rfl,hrow6,hS'⟩;refine Za ?_;replace hS:=hS';clear hS';replace hS:=(hS.perm (List.perm_append_comm_assoc O6 [_,_] _)).drop;refine Zap ?_;refine ih (r) _ _ _ _ ?_ ?_ Yb Yb Yc
    ·omega
    ·exact ⟨D.app (.cons 3 n1 s1 Aa ca a1 .nil),A6,c6,O6,by rw [hD,TA.app_assoc];rfl,by rw [TA.len_app];rfl,by rw [TA.app_ts];rfl,by rw [TA.app_ts];exact hrow6,hS⟩
   ·refine Zb7 ?_;refine ZdI ?_;clear hS;intro b3 wx3 hS;refine ZcZ ?_;clear hS;intro wx4 hS;refine ZbI ?_;refine ZcI ?_;refine ZF ?_;refine Zd6 ?_;refine ZaZ ?_;refine Zs ?_;refine Calls.mono (QhZ k1 n1 s1 Aa a1.len ca _ hS) ?_;rintro _ w4 ⟨rfl,hS'⟩;refine Za ?_;replace hS:=hS';clear hS';refine Z6 ?_;refine Zg2 ?_;clear hS;intro w5 hS;refine Zc ?_;refine ZaW ?_;refine Zaz ?_;refine ZeF ?_;have hX:((Qdb cs s T.len D.ts (TA.cons k1 n1 s1 Aa ca a1 r).len).set (((cs.length+1:Nat):Int)+((D.len:Nat):Int)).toNat (Qc3 k1 n1 s1)).length=(Qdb cs s T.len D.ts (TA.cons k1 n1 s1 Aa ca a1 r).len).length:=by rw [List.length_set]
    have hone:=Qrq cs s T.len D.ts r.len n1 s1 a1.ts hk1;rw [←hin] at hone;have hrowX:=hcr _ sp hX rfl;rw [show (TA.cons k1 n1 s1 Aa ca a1 r).len=r.len+1 from rfl,hone] at hrowX hS hX;refine ih (r) _ _ _ _ ?_ ?_ Yb Yb Yc
    ·omega
    ·refine ⟨D.app (.cons k1 n1 s1 Aa ca a1 .nil),some ⟨g,0,none⟩,cu,_,by rw [hD,TA.app_assoc];rfl,by rw [TA.len_app];rfl,?_,by rw [TA.app_ts];exact hrowX,hS.drop⟩;rw [TA.app_ts];show _=Value.slice _ (Qdb cs s T.len (D.ts.app (.cons k1 n1 s1 a1.ts .nil)) r.len).length _;rw [hX];rfl
 ·refine Zg ?_;clear hS;intro b1 wx1 hS;refine Zd ?_;refine Zb1 ?_;refine Zo ?_;refine ZF ?_;refine Zv ?_;refine ZaZ ?_;refine Zs ?_;refine Calls.mono (QhZ k n s A T.len c _ hS) ?_;rintro _ w2 ⟨rfl,hS'⟩;refine Za ?_;replace hS:=hS';clear hS';refine Zdl ?_;clear hS;intro b2 wx2 hS
  have e:QbR k n s T.ts cs.length=[Qc3 k n s]:=by unfold QbR;rw [if_neg hk]
  refine QdR (L:=[Qc3 k n s]) hS Yb Yi rfl rfl rfl (Qz.own (sp:=[]) (hS.own (_,_) (.head _)) rfl (Nat.le_refl _)) hrow (List.perm_append_comm_assoc [_,_] O _) Yh rfl ?_;clear hS;intro v7 O7 w7 hrow7 hS;obtain ⟨B7,d7,rfl,_⟩:=hrow7.form;replace hS:=hS.perm (List.perm_append_comm_assoc O7 [_,_] _);refine Zd ?_;refine Qg Tryz.func88 rfl Yb ?_;rw [e];refine ⟨B7,d7,O7,by simp,?_,hS.drop.drop⟩;rw [List.length_append,QbC];exact hrow7
theorem QhY (T:TA):Qe8 T:=by
 have key:∀m,∀U:TA,U.ts.nodes≤m→Qe8 U:=by
  intro m
  induction m with
  |zero=>exact fun U hU=>QmG U fun V hV=>by omega
  |succ m ih=>exact fun U hU=>QmG U fun V hV=>ih V Ya
 exact key _ T (Nat.le_refl _)
theorem QtE {α:Type} (L O O2 H:List α):(L++(O++(O2++H))).Perm (O2++(L++(O++H))):=
 (List.Perm.append_left L (List.perm_append_comm_assoc O O2 H)).trans (List.perm_append_comm_assoc L O2 _)
section
variable {M:List Nat} {w0:World} {H:List (Nat×Obj)} {F:List (World→Prop)}
theorem QfL (T:TA) (vars:Int) (A:Option Addr) (c:Nat) (cs:List HC) (v:Value) (O:List (Nat×Obj)) (w:World) (hA:Und F (ArA A c T)) (hg:T.ts.goals vars=true) (hb:cs.length+2*T.ts.nodes+2≤1000000) (hrow:Rw 104 3 v cs.length (Qab cs) O) (hS:St M w0 (O++H) F w):
  Calls Tryz.prog 89 #[v,.slice A T.len c] w fun e w'=>∃(A' B':Option Addr) (c' d':Nat) (O' O2:List (Nat×Obj)),e= .returned (.tuple #[.slice A' (cs++(QaC T.ts cs.length).1).length c',.slice B' (QaC T.ts cs.length).2.length d'])∧
   Rw 104 3 (.slice A' (cs++(QaC T.ts cs.length).1).length c') (cs++(QaC T.ts cs.length).1).length (Qab (cs++(QaC T.ts cs.length).1)) O'∧Rw 3 1 (.slice B' (QaC T.ts cs.length).2.length d') (QaC T.ts cs.length).2.length (Qn (QaC T.ts cs.length).2) O2∧St M w0 (O'++(O2++H)) F w':=by
 obtain ⟨A1,c1,rfl,hc1⟩:=hrow.form;have hln:=Ts.length_le T.ts;rw [TA.len_ts] at hln;refine Qo Tryz.func89 rfl Tryz.ntmps89 rfl ?_;refine Zf ?_;refine Zn ?_;refine Zx ?_;refine ZN ?_;refine Qfw 11 0 6 (12::13::14::8::15::16::17::18::19::20::21::22::23::[]) (fun (R:TA) y u z w'=>∃(D:TA) (Au Bu:Option Addr) (cu du:Nat) (Ou Og:List (Nat×Obj)),T=D.app R∧y= .int .i64 (D.len:Nat)∧u= .slice Au (cs++(QaC D.ts cs.length).1).length cu∧z= .slice Bu (QaC D.ts cs.length).2.length du∧Rw 104 3 (.slice Au (cs++(QaC D.ts cs.length).1).length cu) (cs++(QaC D.ts cs.length).1).length (Qab (cs++(QaC D.ts cs.length).1)) Ou∧Rw 3 1 (.slice Bu (QaC D.ts cs.length).2.length du) (QaC D.ts cs.length).2.length (Qn (QaC D.ts cs.length).2) Og∧St M w0 (Ou++(Og++H)) F w') (fun R=>R.len) (T) ?_ Yb Yb Yb ?_
 ·exact ⟨.nil,A1,none,c1,0,O,[],rfl,rfl,by simp [TA.ts,QaC],rfl,by simpa [TA.ts,QaC] using hrow,Rw.zero_,hS⟩
 clear hS hrow;rintro R _ _ _ w3 jv ⟨D,Au,Bu,cu,du,Ou,Og,hD,rfl,rfl,rfl,hrow,hrowg,hS⟩ ih;have hlen:T.len=D.len+R.len:=by rw [hD,TA.len_app]
 have hTn:T.ts.nodes=D.ts.nodes+R.ts.nodes:=by rw [hD,TA.app_ts,Ts.nodes_app]
 have hle:=Qje D.ts cs.length;have hgl:=Qjd D.ts cs.length;have hDl:=TA.len_ts D;have hXl:(cs++(QaC D.ts cs.length).1).length=cs.length+(QaC D.ts cs.length).1.length:=List.length_append
 cases R with
 |nil=>
  have hTD:T=D:=by rw [hD,TA.app_nil]
  subst hTD;refine ZL ?_;refine Zt ?_;refine Zn ?_;refine QbK Tryz.func89 rfl Yb Yb ?_;exact ⟨Au,Bu,cu,du,Ou,Og,rfl,hrow,hrowg,hS⟩
 |cons k1 n1 s1 Aa ca a1 r=>
  have hRl:(TA.cons k1 n1 s1 Aa ca a1 r).len=r.len+1:=rfl;have hR1:(TA.cons k1 n1 s1 Aa ca a1 r).ts.nodes=a1.ts.nodes+r.ts.nodes+1:=rfl
  have hg1:(Ts.cons k1 n1 s1 a1.ts .nil).good vars=true:=by
   have:=hg;rw [hD,TA.app_ts,Ts.goals_app] at this;simp only [TA.ts,Ts.goals,gB,Bool.and_eq_true] at this;exact this.2.1.1.2
  have hA':Und F (ArA A c (D.app (.cons k1 n1 s1 Aa ca a1 r))):=by rw [←hD];exact hA
  obtain ⟨bk,ok,rfl⟩:=(hS.und hA').some_ YH;have hcc:∀{H'} w',St M w0 H' F w'→_:=fun w' hS=>(hS.und hA').cells;have hsub:Und F (ArA Aa ca a1):=fun w hw=>(hA' w hw).sub;refine Zb2 ?_;refine ZdI ?_;clear hS;intro b1 wx1 hS;refine Zb ?_;clear hS;intro wx2 hS;refine Zb8 ?_;refine ZO ?_;refine Zby ?_;clear hS;intro b2 wx3 hS;refine Qgd (L:=[(((cs++(QaC D.ts cs.length).1).length:Nat):Int)]) hS Yb Yi rfl rfl rfl (Qz.own (sp:=[]) (hS.own (_,_) (.head _)) rfl (Nat.le_refl _)) hrowg (QtE [_,_] Ou Og _) Yh rfl ?_;clear hS;intro v7 O7 w7 hrow7 hS;obtain ⟨B7,d7,rfl,_⟩:=hrow7.form;replace hS:=(hS.perm (QtE [_,_] Ou O7 _).symm).drop;refine Zd ?_;refine ZT ?_;refine ZaZ ?_;refine Zj ?_;refine Calls.mono (QhY a1 M w0 _ F vars k1 n1 s1 Aa ca _ _ _ _ hsub hg1 Ya hrow (hS.perm (List.perm_append_comm_assoc [_] Ou _))) ?_;rintro _ w6 ⟨A6,c6,O6,rfl,hrow6,hS'⟩;refine Za ?_;replace hS:=hS';clear hS';replace hS:=(hS.perm (List.perm_append_comm_assoc O6 [_] _)).drop
  have e1:cs++(QaC (D.ts.app (.cons k1 n1 s1 a1.ts .nil)) cs.length).1=cs++(QaC D.ts cs.length).1++QbR k1 n1 s1 a1.ts (cs++(QaC D.ts cs.length).1).length:=by
   rw [Qm9,List.length_append];simp [QaC]
  have e2:(QaC (D.ts.app (.cons k1 n1 s1 a1.ts .nil)) cs.length).2=(QaC D.ts cs.length).2++[(((cs++(QaC D.ts cs.length).1).length:Nat):Int)]:=by
   rw [Qm9,List.length_append];simp [QaC]
  refine Zap ?_;refine ih (r) _ _ _ _ _ ?_ ?_ Yb Yb Yb Yc
  ·omega
  ·refine ⟨D.app (.cons k1 n1 s1 Aa ca a1 .nil),A6,B7,c6,d7,O6,O7,by rw [hD,TA.app_assoc];rfl,by rw [TA.len_app];rfl,?_,?_,?_,?_,hS⟩
   ·rw [TA.app_ts];show _=Value.slice _ (cs++(QaC (D.ts.app (.cons k1 n1 s1 a1.ts .nil)) cs.length).1).length _;rw [e1]
   ·rw [TA.app_ts];show _=Value.slice _ (QaC (D.ts.app (.cons k1 n1 s1 a1.ts .nil)) cs.length).2.length _;rw [e2];simp
   ·rw [TA.app_ts];show Rw _ _ (Value.slice _ (cs++(QaC (D.ts.app (.cons k1 n1 s1 a1.ts .nil)) cs.length).1).length _) (cs++(QaC (D.ts.app (.cons k1 n1 s1 a1.ts .nil)) cs.length).1).length (Qab (cs++(QaC (D.ts.app (.cons k1 n1 s1 a1.ts .nil)) cs.length).1)) _;rw [e1];exact hrow6
   ·rw [TA.app_ts];show Rw _ _ (Value.slice _ (QaC (D.ts.app (.cons k1 n1 s1 a1.ts .nil)) cs.length).2.length _) (QaC (D.ts.app (.cons k1 n1 s1 a1.ts .nil)) cs.length).2.length (Qn (QaC (D.ts.app (.cons k1 n1 s1 a1.ts .nil)) cs.length).2) _;rw [e2,List.length_append];have:Qn ((QaC D.ts cs.length).2++[(((cs++(QaC D.ts cs.length).1).length:Nat):Int)])=Qn (QaC D.ts cs.length).2++Qn [(((cs++(QaC D.ts cs.length).1).length:Nat):Int)]:=by simp [Qn]
    rw [this];exact hrow7
abbrev bv (A:Option Addr) (n c:Nat) (vars hd:Int) (B:Option Addr) (m d:Nat):Value:= .agg #[.slice A n c,.int .i64 vars,.int .i64 hd,.slice B m d]
theorem Qoz (k n vars:Int) (s:ByteArray) (hd bd:TA) (A1 A2:Option Addr) (c1 c2:Nat) (w:World) (h1:Und F (ArA A1 c1 hd)) (h2:Und F (ArA A2 c2 bd)) (h1n:hd.len≤9223372036854775807) (h1w:hd.ts.wide) (h2n:bd.len≤9223372036854775807) (h2w:bd.ts.wide)
  (hc:cB ⟨k,n,s,hd.ts,bd.ts,vars⟩=true) (hS:St M w0 H F w):
  Calls Tryz.prog 51 #[.agg #[.int .i64 k,.int .i64 n,.string s,.slice A1 hd.len c1,.slice A2 bd.len c2,.int .i64 vars]] w fun e w'=>∃(A' B':Option Addr) (c' d':Nat) (O O2:List (Nat×Obj)),e= .returned (.tuple #[bv A' (Qt ⟨k,n,s,hd.ts,bd.ts,vars⟩).length c' vars vars B' (Qar ⟨k,n,s,hd.ts,bd.ts,vars⟩).length d',.int .i64 0])∧
   Rw 104 3 (.slice A' (Qt ⟨k,n,s,hd.ts,bd.ts,vars⟩).length c') (Qt ⟨k,n,s,hd.ts,bd.ts,vars⟩).length (Qab (Qt ⟨k,n,s,hd.ts,bd.ts,vars⟩)) O∧Rw 3 1 (.slice B' (Qar ⟨k,n,s,hd.ts,bd.ts,vars⟩).length d') (Qar ⟨k,n,s,hd.ts,bd.ts,vars⟩).length (Qn (Qar ⟨k,n,s,hd.ts,bd.ts,vars⟩)) O2∧St M w0 (O++(O2++H)) F w':=by
 have hgc:=fun w (hS:Sl w (fun _=>True) (.slice A1 hd.len c1) hd.ts∧Sl w (fun _=>True) (.slice A2 bd.len c2) bd.ts)=>QdA ⟨k,n,s,hd.ts,bd.ts,vars⟩ (.slice A1 hd.len c1) (.slice A2 bd.len c2) w hS.1 hS.2 (by rw [TA.len_ts];exact h1n) h1w (by rw [TA.len_ts];exact h2n) h2w;rw [hc] at hgc;obtain ⟨g0,g1,g2,g3,g4⟩:=QfV hc;dsimp only at g0 g1 g2 g3 g4;have g5:=Qnl g4;have g6:=Ts.goals_nodes _ _ g3
 have g7:(Ts.cons k n s hd.ts .nil).good vars=true:=by
  simp only [gB,Bool.and_eq_true] at g4;exact g4.1.2
 obtain ⟨v,rfl⟩:∃v:Nat,vars=(v:Nat):=⟨vars.toNat,by omega⟩
 have e1:Qt ⟨k,n,s,hd.ts,bd.ts,((v:Nat):Int)⟩=(QbM v++QbR k n s hd.ts (QbM v).length)++(QaC bd.ts (QbM v++QbR k n s hd.ts (QbM v).length).length).1:=by
  simp only [Qt,Int.toNat_natCast,Qae,List.length_append,List.append_assoc]
 have e2:Qar ⟨k,n,s,hd.ts,bd.ts,((v:Nat):Int)⟩=(QaC bd.ts (QbM v++QbR k n s hd.ts (QbM v).length).length).2:=by
  simp only [Qar,Int.toNat_natCast,Qae,List.length_append]
 rw [e1,e2];have hle:=QlY k n s hd.ts (QbM v).length;have hvl:=Qae v;have hal:(QbM v++QbR k n s hd.ts (QbM v).length).length=v+(QbR k n s hd.ts (QbM v).length).length:=by rw [List.length_append,hvl]
 refine Qu Tryz.func51 rfl Tryz.ntmps51 rfl ?_;refine Zg ?_;clear hS;intro b1 wx1 hS;refine ZG ?_;clear hS;intro b2 wx2 hS;refine Zav ?_;refine Zf ?_
 first
  |refine Qa (Qb (k:=6) hS rfl rfl rfl Ym Yf) rfl ?_
  |refine Qa (Qb (k:=6) hS rfl rfl rfl Ym Ye) rfl ?_
  |refine Qa (QeI rfl rfl rfl Yu Yu Yu Yu Yu Yu) rfl ?_
 refine Zs ?_;refine Calls.mono (hgc _ ⟨(hS.und h1).sl,(hS.und h2).sl⟩) ?_;rintro _ w2 ⟨rfl,hb2⟩;refine Za ?_;replace hS:=hS.grow hb2;refine ZP ?_;refine Zf ?_;refine Zc8 ?_;refine ZaA ?_;refine Zs ?_;refine Calls.mono (Qey v Ya _ hS) ?_;rintro _ w3 ⟨A3,c3,O3,rfl,hrow3,hS'⟩;refine Za ?_;replace hS:=hS';clear hS';replace hS:=hS.perm (List.perm_append_comm_assoc O3 [_,_] _);refine Zau ?_;refine ZO ?_;refine Zau ?_;refine Z3 ?_;refine ZaZ ?_;refine Zj ?_;refine Calls.mono (QhY hd M w0 _ F ((v:Nat):Int) k n s A1 c1 _ _ _ _ h1 g7 Ya hrow3 (hS.perm (List.perm_append_comm_assoc [_,_] O3 _))) ?_;rintro _ w4 ⟨A4,c4,O4,rfl,hrow4,hS'⟩;refine Za ?_;replace hS:=hS';clear hS';replace hS:=hS.perm (List.perm_append_comm_assoc O4 [_,_] _);refine Zau ?_;refine ZaC ?_;refine ZaA ?_;refine Zj ?_;refine Calls.mono (QfL bd ((v:Nat):Int) A2 c2 _ _ O4 _ h2 g3 Ya hrow4 (hS.perm (List.perm_append_comm_assoc [_,_] O4 _))) ?_;rintro _ w5 ⟨A5,B5,c5,d5,O5,O6,rfl,hrow5,hrow6,hS'⟩;refine Za ?_;replace hS:=hS';clear hS';replace hS:=hS.perm ((List.Perm.append_left O5 (List.perm_append_comm_assoc O6 [_,_] H)).trans (List.perm_append_comm_assoc O5 [_,_] _));refine Zbe ?_;refine Zn ?_;refine Zv ?_;refine Zc8 ?_;refine ZaA ?_;refine ZK ?_;refine Zg3 ?_;refine Zb ?_;clear hS;intro wx3 hS;refine Zd ?_;refine QcM (sz:=4) hS Tryz.func51 rfl rfl Yb rfl rfl Ym Yf ?_;refine ⟨A5,B5,c5,d5,O5,O6,?_,hrow5,hrow6,hS.drop.drop⟩;rw [hvl]
theorem QtD {vars:Int} {T:Ts} (h:qB vars T=true):0≤vars∧vars≤8∧T.length≤5∧T.goals vars=true:=by
 simp only [qB,Bool.and_eq_true,decide_eq_true_eq] at h;exact ⟨h.1.1.1,h.1.1.2,h.1.2,h.2⟩
theorem QpA (vars:Int) (T:TA) (A1:Option Addr) (c1:Nat) (w:World) (h1:Und F (ArA A1 c1 T)) (h1n:T.len≤9223372036854775807) (h1w:T.ts.wide) (hc:qB vars T.ts=true) (hS:St M w0 H F w):
  Calls Tryz.prog 52 #[.slice A1 T.len c1,.int .i64 vars] w fun e w'=>∃(A' B':Option Addr) (c' d':Nat) (O O2:List (Nat×Obj)),e= .returned (.tuple #[bv A' (Qaf vars T.ts).length c' vars (-1) B' (Qa9 vars T.ts).length d',.int .i64 0])∧
   Rw 104 3 (.slice A' (Qaf vars T.ts).length c') (Qaf vars T.ts).length (Qab (Qaf vars T.ts)) O∧Rw 3 1 (.slice B' (Qa9 vars T.ts).length d') (Qa9 vars T.ts).length (Qn (Qa9 vars T.ts)) O2∧St M w0 (O++(O2++H)) F w':=by
 have hgc:=fun w hS=>QaK vars T.ts (.slice A1 T.len c1) w hS (by rw [TA.len_ts];exact h1n) h1w;rw [hc] at hgc;obtain ⟨g0,g1,g2,g3⟩:=QtD hc;have g6:=Ts.goals_nodes _ _ g3
 obtain ⟨v,rfl⟩:∃v:Nat,vars=(v:Nat):=⟨vars.toNat,by omega⟩
 have hvl:=Qae v;have e1:Qaf ((v:Nat):Int) T.ts=QbM v++(QaC T.ts (QbM v).length).1:=by simp only [Qaf,Int.toNat_natCast,Qae]
 have e2:Qa9 ((v:Nat):Int) T.ts=(QaC T.ts (QbM v).length).2:=by simp only [Qa9,Int.toNat_natCast,Qae]
 rw [e1,e2];refine Qo Tryz.func52 rfl Tryz.ntmps52 rfl ?_;refine Zf ?_;refine ZG ?_;clear hS;intro b1 wx1 hS;refine Zw ?_;refine Zal ?_;refine Calls.mono (hgc _ (hS.und h1).sl) ?_;rintro _ w2 ⟨rfl,hb2⟩;refine Za ?_;replace hS:=hS.grow hb2;refine ZP ?_;refine Za8 ?_;refine Calls.mono (Qey v Ya _ hS) ?_;rintro _ w3 ⟨A3,c3,O3,rfl,hrow3,hS'⟩;refine Za ?_;replace hS:=hS';clear hS';replace hS:=hS.perm (List.perm_append_comm_assoc O3 [_] _);refine Zal ?_;refine Calls.mono (QfL T ((v:Nat):Int) A1 c1 _ _ O3 _ h1 g3 Ya hrow3 (hS.perm (List.perm_append_comm_assoc [_] O3 _))) ?_;rintro _ w5 ⟨A5,B5,c5,d5,O5,O6,rfl,hrow5,hrow6,hS'⟩;refine Za ?_;replace hS:=hS';clear hS';replace hS:=hS.perm ((List.Perm.append_left O5 (List.perm_append_comm_assoc O6 [_] H)).trans (List.perm_append_comm_assoc O5 [_] _));refine Zbe ?_;refine Zn ?_;refine Zt ?_;refine Ze ?_;refine Zg3 ?_;refine Zb ?_;clear hS;intro wx2 hS;refine Zd ?_;refine QcM (sz:=4) hS Tryz.func52 rfl rfl Yb rfl rfl Ym Yf ?_;exact ⟨A5,B5,c5,d5,O5,O6,rfl,hrow5,hrow6,hS.drop⟩
end
structure LB where
 cl:Cl
 A:Option Addr
 c:Nat
 B:Option Addr
 d:Nat
abbrev Qsd (b:LB):List Value:=[.slice b.A (Qt b.cl).length b.c,.int .i64 b.cl.vars,.int .i64 b.cl.vars,.slice b.B (Qar b.cl).length b.d]
def lbL:List LB→List Value
 |[]=>[]
 |b::r=>Qsd b++lbL r
theorem Qjc (a b:List LB):lbL (a++b)=lbL a++lbL b:=by
 induction a with
 |nil=>rfl
 |cons c r ih=>simp [lbL,ih]
theorem Qhe (a:List LB):(lbL a).length=a.length*4:=by
 induction a with
 |nil=>rfl
 |cons c r ih=>simp [lbL,ih];omega
def QtX (b:LB) (w:World):Prop:=Qz 3 (Qab (Qt b.cl)) b.A (Qt b.cl).length b.c w∧Qz 1 (Qn (Qar b.cl)) b.B (Qar b.cl).length b.d w
def LBR (L:List LB) (A:Option Addr) (c:Nat) (w:World):Prop:=Qz 4 (lbL L) A L.length c w∧∀x∈L,QtX x w
theorem LBR.cells {D R:List LB} {x:LB} {b o c:Nat} {w:World} (h:LBR (D++x::R) (some ⟨b,o,none⟩) c w):w.cell? ⟨b,o+D.length*4,none⟩=some (.slice x.A (Qt x.cl).length x.c)∧w.cell? ⟨b,o+D.length*4+1,none⟩=some (.int .i64 x.cl.vars)∧w.cell? ⟨b,o+D.length*4+2,none⟩=some (.int .i64 x.cl.vars)∧w.cell? ⟨b,o+D.length*4+3,none⟩=some (.slice x.B (Qar x.cl).length x.d):=by
 have key:∀j v,(Qsd x)[j]?=some v→(lbL (D++x::R))[D.length*4+j]?=some v:=by
  intro j v hj;rw [Qjc,List.getElem?_append_right (by rw [Qhe];omega),Qhe,show D.length*4+j-D.length*4=j by omega];show (Qsd x++lbL R)[j]?=some v
  have hjl:j<(Qsd x).length:=by
   rcases Nat.lt_or_ge j (Qsd x).length with h|h
   ·exact h
   ·rw [List.getElem?_eq_none h] at hj;cases hj
  rw [List.getElem?_append_left hjl];exact hj
 have g:=fun j v hj=>h.1.get (key j v hj);exact ⟨g 0 _ rfl,g 1 _ rfl,g 2 _ rfl,g 3 _ rfl⟩
theorem LBR.some_ {L:List LB} {A:Option Addr} {c:Nat} {w:World} (h:LBR L A c w) (hl:0<L.length):∃b o,A=some ⟨b,o,none⟩:=h.1.some_ hl
theorem LBR.drop {L:List LB} {b o c:Nat} {w:World} (h:LBR L (some ⟨b,o,none⟩) c w) (k:Nat) (hk:k≤L.length):LBR (L.drop k) (some ⟨b,o+k*4,none⟩) (c-k) w:=by
 obtain ⟨⟨h1,h2,h3⟩,h4⟩:=h
 have e:lbL (L.drop k)=(lbL L).drop (k*4):=by
  conv=>rhs;rw [←List.take_append_drop k L]
  rw [Qjc,List.drop_left' (by rw [Qhe,List.length_take];omega)]
 refine ⟨⟨by rw [Qhe],by rw [List.length_drop];omega,fun hl=> ?_⟩,fun x hx=>h4 x (List.mem_of_mem_drop hx)⟩;rw [List.length_drop] at hl;obtain ⟨b',o',e1,hs⟩:=h3 Ya;simp only [Option.some.injEq,Addr.mk.injEq,and_true] at e1;obtain ⟨rfl,rfl⟩:=e1;refine ⟨b,o+k*4,rfl,fun j u hj=> ?_⟩;rw [e,List.getElem?_drop] at hj;have:=hs _ _ hj
 rwa [show o+(k*4+j)=o+k*4+j by omega] at this
structure LX where
 at_:Nat
 cls:List LB
 A:Option Addr
 c:Nat
 cells:Nat
 bound:Nat
def LX.xc (x:LX):XC:=⟨x.at_,x.cls.map LB.cl,x.cells,x.bound⟩
abbrev xcs (x:LX):List Value:=[.int .i64 (x.at_:Nat),.slice x.A x.cls.length x.c,.int .i64 (x.cells:Nat),.int .i64 (x.bound:Nat)]
def xcL:List LX→List Value
 |[]=>[]
 |b::r=>xcs b++xcL r
theorem Qlo (a b:List LX):xcL (a++b)=xcL a++xcL b:=by
 induction a with
 |nil=>rfl
 |cons c r ih=>simp [xcL,ih]
theorem Qct (a:List LX):(xcL a).length=a.length*4:=by
 induction a with
 |nil=>rfl
 |cons c r ih=>simp [xcL,ih];omega
abbrev Qty (l:XL):List Value:=[.int .i64 l.g,.int .i64 (l.o:Nat),.int .i64 l.nx]
def xlL:List XL→List Value
 |[]=>[]
 |b::r=>Qty b++xlL r
theorem QsC (a b:List XL):xlL (a++b)=xlL a++xlL b:=by
 induction a with
 |nil=>rfl
 |cons c r ih=>simp [xlL,ih]
theorem Qgq (a:List XL):(xlL a).length=a.length*3:=by
 induction a with
 |nil=>rfl
 |cons c r ih=>simp [xlL,ih];omega
theorem Qfa:∀(L:List XL) (i:Nat) (l:XL),L[i]?=some l→(xlL L)[i*3]?=some (.int .i64 l.g)∧(xlL L)[i*3+1]?=some (.int .i64 (l.o:Nat))∧(xlL L)[i*3+2]?=some (.int .i64 l.nx)
 |[],i,l,h=>by simp at h
 |x::r,0,l,h=>by
  simp at h;subst h;exact ⟨rfl,rfl,rfl⟩
 |x::r,i+1,l,h=>by
  have:=Qfa r i l YY;rw [show (i+1)*3=i*3+3 by omega];exact this
theorem QiL:∀(L:List LX) (i:Nat) (l:LX),L[i]?=some l→(xcL L)[i*4]?=some (.int .i64 (l.at_:Nat))∧(xcL L)[i*4+1]?=some (.slice l.A l.cls.length l.c)∧(xcL L)[i*4+2]?=some (.int .i64 (l.cells:Nat))∧(xcL L)[i*4+3]?=some (.int .i64 (l.bound:Nat))
 |[],i,l,h=>by simp at h
 |x::r,0,l,h=>by
  simp at h;subst h;exact ⟨rfl,rfl,rfl,rfl⟩
 |x::r,i+1,l,h=>by
  have:=QiL r i l YY;rw [show (i+1)*4=i*4+4 by omega];exact this
theorem Row.cell {el sz len:Nat} {A:Option Addr} {c:Nat} {xs:List Value} {O H:List (Nat×Obj)} {M:List Nat} {w0 w:World} {F:List (World→Prop)} {b o:Nat} {v:Value} {j:Nat} (h:Row el sz (.slice A len c) len xs O) (hS:St M w0 H F w) (hm:∀p∈O,p∈H) (e:A=some ⟨b,o,none⟩) (hj:xs[j]?=some v):w.cell? ⟨b,o+j,none⟩=some v:=by
 cases h with
 |nil_=>simp at hj
 |own_ hx hc hle hcp=>
  cases e
  have:=hS.own _ (hm _ (List.mem_singleton.2 rfl));rw [Qv this,Nat.zero_add,List.getElem?_append_left]
  ·exact hj
  ·rcases Nat.lt_or_ge j xs.length with h|h
   ·exact h
   ·rw [List.getElem?_eq_none h] at hj;cases hj
structure XD where
 hA:Option Addr
 hc:Nat
 hB:Option Addr
 hd:Nat
 LA:Option Addr
 lc:Nat
 O1:List (Nat×Obj)
 cs:List LX
 CA:Option Addr
 cc:Nat
 O2:List (Nat×Obj)
 evs:List LE
 EA:Option Addr
 ec:Nat
 O3:List (Nat×Obj)
structure XOk (P:List LB) (pA:Option Addr) (pc:Nat) (x:XS) (d:XD) (F:List (World→Prop)):Prop where
 hh:Und F (HFl x.h d.hA d.hc d.hB d.hd)
 row1:Row 101 3 (.slice d.LA x.ln.length d.lc) x.ln.length (xlL x.ln) d.O1
 hc:d.cs.map LX.xc=x.ch
 rc:∀c∈d.cs,Und F (LBR c.cls c.A c.c)
 row2:Row 151 4 (.slice d.CA d.cs.length d.cc) d.cs.length (xcL d.cs.reverse) d.O2
 he:d.evs.map (fun e=>e.T.ts)=x.ev
 re:∀e∈d.evs,Und F (ArA e.A e.c e.T)
 row3:Row 34 2 (.slice d.EA d.evs.length d.ec) d.evs.length (evL d.evs) d.O3
 rp:Und F (LBR P pA pc)
theorem XOk.mono {P:List LB} {pA:Option Addr} {pc:Nat} {x:XS} {d:XD} {F F':List (World→Prop)} (h:XOk P pA pc x d F) (hs:∀φ∈F,φ∈F'):XOk P pA pc x d F':=
 ⟨h.hh.mono hs,h.row1,h.hc,fun c hc=>(h.rc c hc).mono hs,h.row2,h.he,fun e he=>(h.re e he).mono hs,h.row3,h.rp.mono hs⟩
abbrev mcs (P:List LB) (pA:Option Addr) (pc vars fuel every:Nat) (x:XS) (d:XD):List Value:=
 [.slice d.hA x.h.cs.length d.hc,.slice d.hB x.h.tr.length d.hd,.slice pA P.length pc,.int .i64 (vars:Nat),.int .i64 (fuel:Nat),.int .i64 (x.goals:Nat),.int .i64 (every:Nat),.slice d.LA x.ln.length d.lc,.int .i64 x.first,.slice d.CA d.cs.length d.cc,.slice d.EA d.evs.length d.ec]
abbrev mob (P:List LB) (pA:Option Addr) (pc vars fuel every:Nat) (x:XS) (d:XD):Obj:= .cells (mcs P pA pc vars fuel every x d).toArray 61
def XSt (M:List Nat) (w0:World) (H:List (Nat×Obj)) (F0:List (World→Prop)) (b:Nat) (P:List LB) (pA:Option Addr) (pc vars fuel every:Nat) (x:XS) (w:World):Prop:=
 ∃(d:XD) (F:List (World→Prop)),(∀φ∈F0,φ∈F)∧XOk P pA pc x d F∧St M w0 ((b,mob P pA pc vars fuel every x d)::(d.O1++(d.O2++(d.O3++H)))) F w
end Go.Proofs.YthliapbflkfdiacGreatDoor
