/- Steps of the proof. -/
import Derived.Test.YthliapbflkfdiacGreatDoorG24
namespace Go.Proofs.YthliapbflkfdiacGreatDoor
open Go.RowKit
set_option linter.unusedVariables false
set_option linter.unusedSimpArgs false
set_option maxRecDepth 100000
set_option maxHeartbeats 1000000
abbrev QtK (M:List Bool):Obj:= .cells (QU M).toArray 4
abbrev svb (rb n:Nat):Obj:= .cells [.slice (some ⟨rb,0,none⟩) n n].toArray 202
abbrev svi (B:Option Addr) (n c:Nat):Obj:= .cells [.slice B n c].toArray 54
abbrev Quc (b:Nat):Value:= .pointer (some ⟨b,0,none⟩)
def MSt (M:List Nat) (w0:World) (H:List (Nat×Obj)) (F:List (World→Prop)) (b2 b3 rb:Nat) (s:DS) (w:World):Prop:=
 ∃(B:Option Addr) (d:Nat) (O:List (Nat×Obj)),Rw 3 1 (.slice B s.2.length d) s.2.length (Qn s.2) O∧St M w0 ((b2,svb rb s.1.length)::(b3,svi B s.2.length d)::(rb,QtK s.1)::(O++H)) F w
theorem QfC (P:List Bool) (i:Nat) (x:Bool) (h:i<P.length):Put (QU P) i (.bool x) (QU (P.set i x)):=by
 have:=Qg2 (l:=QU P) (v:= .bool x) (i:=i) (by simpa [QU] using h)
 rwa [show (QU P).set i (.bool x)=QU (P.set i x) by simp [QU,List.map_set]] at this
section
variable {M:List Nat} {w0:World} {H:List (Nat×Obj)} {F:List (World→Prop)} {b2 b3 rb:Nat}
theorem Qg1 (a:Int) (s:DS) (w:World) (h0:0≤a) (h1:a<s.1.length) (hw:s.2.length≤1000000) (hs:MSt M w0 H F b2 b3 rb s w):
  Calls Tryz.prog 191 #[.int .i64 a,Quc b2,Quc b3] w fun e w'=>e= .returned (.tuple #[])∧MSt M w0 H F b2 b3 rb (Qbh a s) w':=by
 obtain ⟨B,d,O,hrow,hS⟩:=hs
 obtain ⟨v,hv⟩:∃v,s.1[a.toNat]?=some v:=⟨s.1[a.toNat]'Ya,List.getElem?_eq_getElem _⟩
 have hpa:∀{o o' H' F'} w',St M w0 ((b2,o)::(b3,o')::(rb,QtK s.1)::H') F' w'→w'.cell? ⟨rb,0+a.toNat*1,none⟩=some (.bool v):=fun w' hS=>by
  rw [Qv (hS.own (rb,_) (.tail _ (.tail _ (.head _))))];simp [QU,hv]
 refine QE Tryz.func191 rfl Tryz.ntmps191 rfl ?_
 cases v with
 |true=>
  have e:Qbh a s=s:=by unfold Qbh;rw [if_pos (Qap.2 hv)]
  rw [e];refine Zf ?_;refine Zd0 ?_;refine ZP ?_;refine Qbl Tryz.func191 rfl ?_;exact ⟨rfl,B,d,O,hrow,hS⟩
 |false=>
  have e:Qbh a s=(s.1.set a.toNat true,s.2++[a]):=by unfold Qbh;rw [if_neg (by rw [Qap,hv];simp)]
  rw [e];have hput:=QfC s.1 a.toNat true Ya;refine Zf ?_;refine Zd0 ?_;refine ZaV ?_;refine Zhx ?_;refine Qaq hS rfl Yb rfl rfl (.tail (.tail .head)) (by rw [Nat.zero_add,Nat.mul_one];exact hput) (.tail (.tail .head)) ?_;clear hS;intro w6 hS;refine Zc ?_;refine Zaz ?_;refine Zeg ?_;refine Ze ?_;refine Zby ?_;clear hS;intro b1 wx1 hS;refine Qgd (L:=[a]) hS Yb Yi rfl rfl rfl (Qz.own (sp:=[]) (hS.own (_,_) (.head _)) rfl (Nat.le_refl _)) hrow (List.perm_append_comm_assoc [_,_,_,_] O _) Yh rfl ?_;clear hS;intro v7 O7 w7 hrow7 hS;obtain ⟨B7,d7,rfl,_⟩:=hrow7.form;replace hS:=hS.perm (List.perm_append_comm_assoc O7 [_,_,_,_] _);refine Zy ?_;clear hS;intro wx2 hS;refine Zc ?_;refine Qbl Tryz.func191 rfl ?_;refine ⟨rfl,B7,d7,O7,?_,?_⟩
  ·show Rw _ _ (.slice B7 (s.2++[a]).length d7) (s.2++[a]).length (Qn (s.2++[a])) _;rw [List.length_append,show Qn (s.2++[a])=Qn s.2++Qn [a] by simp [Qn]];exact hrow7
  ·show St M w0 ((b2,svb rb (s.1.set a.toNat true).length)::(b3,svi B7 (s.2++[a]).length d7)::_) F _;rw [List.length_append,List.length_set];exact hS.drop
theorem Qkx (h:HH) (R:List Int) (A B RA:Option Addr) (c d rc:Nat) (w:World) (hH:Und F (HFl h A c B d)) (hR:Und F (Qz 1 (Qn R) RA R.length rc)) (hRl:R.length≤9223372036854775807) (hS:St M w0 H F w):
  Calls Tryz.prog 148 #[hv h A c B d,.slice RA R.length rc] w fun e w'=>∃(A':Option Addr) (c':Nat) (F':List (World→Prop)),e= .returned (.tuple #[.slice A' (Qc5 h R).1.length c',.int .i64 (Qc5 h R).2])∧(∀φ∈F,φ∈F')∧Und F' (Qz 1 (QU (Qc5 h R).1) A' (Qc5 h R).1.length c')∧St M w0 H F' w':=by
 have hL:Und F (Qz 3 (Qab h.cs) A h.cs.length c):=hH.imp fun _ h=>h.1;refine Qo Tryz.func148 rfl Tryz.ntmps148 rfl ?_;refine Zg ?_;clear hS;intro b1 wx1 hS;refine Zn ?_;refine ZaI ?_;refine ZgL ?_;refine Zd1 ?_;rintro _ w2 ⟨rfl,hb2⟩;refine Za ?_;replace hS:=hS.grow hb2
 cases hg:QG h with
 |false=>
  have e0:Qc5 h R=([],1):=by unfold Qc5;rw [if_pos hg]
  rw [e0];refine ZaV ?_;refine Zn ?_;refine QbK Tryz.func148 rfl Yb Yb ?_;exact ⟨none,0,F,rfl,fun _ h=>h,fun w _=>Qz.nil_ _ _ _,hS.drop⟩
 |true=>
 have e0:Qc5 h R=(QK h.cs R,0):=by unfold Qc5;rw [if_neg YR]
 obtain ⟨hl1,hl2⟩:=QcY hg
 have hgl:QN h.cs.length h.cs=true:=by
  unfold QG Q9 at hg;simp only [Bool.and_eq_true] at hg;exact hg.1.2
 rw [e0];refine ZP ?_;refine Zbz ?_;refine Zeg ?_;refine ZO ?_;refine QcG (k:=h.cs.length) (bts:=1) (z:= .bool false) hS Yb Yb rfl rfl rfl rfl Ya Ya rfl ?_;clear hS;intro rb w3 hS;rw [show List.replicate h.cs.length (Value.bool false)=QU (List.replicate h.cs.length false) by simp [QU]] at hS;refine Zen ?_;clear hS;intro b2 wx2 hS;refine Zy ?_;clear hS;intro wx3 hS;refine ZcM ?_;refine Zen ?_;clear hS;intro b3 wx4 hS;refine ZcM ?_;refine Qa (QfN Qjy (Qsm Yb Yb)) rfl ?_;refine ZbO ?_
 have hs:MSt M w0 ((b1,hob A h.cs.length c B h.tr.length d)::H) F b2 b3 rb (List.replicate h.cs.length false,[]) _:=⟨none,0,[],Rw.zero_,by rw [show (List.replicate h.cs.length false).length=h.cs.length by simp];exact hS.swap⟩
 clear hS
 have hpot:∀{s:DS},s.1.length=h.cs.length→pot s≤2*h.cs.length→s.2.length≤1000000:=fun {s} e hp=>by unfold pot at hp;omega
 refine Qr 25 (26::27::28::10::29::30::31::32::33::34::35::[]) (fun (Q:List Int) v w'=>∃(D:List Int) (s:DS),R=D++Q∧v= .int .i64 (D.length:Nat)∧Qlh h.cs R (fun _=>False) s∧(∀r∈D,Ql h.cs r=true→Qq s.1 r=true)∧pot s≤2*h.cs.length∧MSt M w0 ((b1,hob A h.cs.length c B h.tr.length d)::H) F b2 b3 rb s w') (fun Q=>Q.length) (R) ?_ Yb ?_
 ·exact ⟨[],_,rfl,rfl,Qlh.start,fun r hr=>by simp at hr,by unfold pot;simp,hs⟩
 clear hs;rintro Q _ w4 jv ⟨D,s,hD,rfl,hI,hrt,hp,hs⟩ ih
 have hlen:R.length=D.length+Q.length:=by rw [hD];simp
 have hsl:=hpot hI.len hp
 cases Q with
 |cons x Q=>
  simp only [List.length_cons] at hlen
  have hxi:R[D.length]?=some x:=by rw [hD];simp
  obtain ⟨B5,d5,O5,hrow5,hS⟩:=hs;obtain ⟨bt,ot,rfl⟩:=(hS.und hR).some_ Ya
  have hct:∀{H'} w',St M w0 H' F w'→w'.cell? ⟨bt,ot+((D.length:Nat):Int).toNat*1,none⟩=some (.int .i64 x):=fun w' hS=>by
   have:=(hS.und hR).int hxi;rw [show ((D.length:Nat):Int).toNat=D.length by omega];exact this
  replace hS:=hS.perm (.cons _ (.cons _ (.cons _ (List.perm_append_comm_assoc O5 [_] _))));refine ZbR ?_;refine Zbc ?_;refine ZdL ?_;refine Zda ?_;refine Zal ?_;refine Calls.mono (Qa8 h.cs.length c A B h.tr.length d x _) ?_;rintro _ w5 ⟨rfl,hb5⟩;refine Za ?_;replace hS:=hS.grow hb5
  have hs:MSt M w0 ((b1,hob A h.cs.length c B h.tr.length d)::H) F b2 b3 rb s _:=⟨B5,d5,O5,hrow5,hS.perm (.cons _ (.cons _ (.cons _ (List.perm_append_comm_assoc [_] O5 _))))⟩
  clear hS
  cases hx:Ql h.cs x with
  |true=>
   rw [show (decide (0≤x)&&decide (x<(h.cs.length:Nat)))=true from hx];have hxx:=Qm.1 hx;have hrc:Rc h.cs R x:=Rc.root (by rw [hD];simp) hx;refine Zaw ?_;refine Ze ?_;refine Zet ?_;refine Calls.mono (Qg1 x s _ hxx.1 (by rw [hI.len];exact hxx.2) hsl hs) ?_;rintro _ w6 ⟨rfl,hs6⟩;refine Za ?_;refine Zay ?_;refine ih Q _ _ _ ?_ ?_ Yb Yc
   ·simp
   ·refine ⟨D++[x],Qbh x s,by rw [hD];simp,by simp,Qfj hI hx hrc,fun r hr hr2=> ?_,Nat.le_trans (Qfi hI.len hx) hp,hs6⟩;rcases List.mem_append.1 hr with hr|hr
    ·exact Qbv (hrt r hr hr2)
    ·rw [List.mem_singleton.1 hr];exact QcV hI.len hx
  |false=>
   rw [show (decide (0≤x)&&decide (x<(h.cs.length:Nat)))=false from hx];refine ZaK ?_;refine ih Q _ _ _ ?_ ?_ Yb Yc
   ·simp
   ·refine ⟨D++[x],s,by rw [hD];simp,by simp,hI,fun r hr hr2=> ?_,hp,hs⟩;rcases List.mem_append.1 hr with hr|hr
    ·exact hrt r hr hr2
    ·rw [List.mem_singleton.1 hr,hx] at hr2;cases hr2
 |nil=>
  simp only [List.length_nil] at hlen;have hRD:R=D:=by simpa using hD
  rw [←hRD] at hrt;clear hD;refine ZL ?_;refine ZaE ?_;refine Qop  (36::37::38::39::40::41::11::42::43::44::45::12::46::47::48::49::50::51::52::53::13::54::55::56::57::58::59::60::61::62::63::64::65::14::66::67::68::69::70::71::72::[]) (fun (s:DS) w'=>Qlh h.cs R (fun _=>False) s∧(∀r∈R,Ql h.cs r=true→Qq s.1 r=true)∧pot s≤2*h.cs.length∧MSt M w0 ((b1,hob A h.cs.length c B h.tr.length d)::H) F b2 b3 rb s w') (fun s=>pot s) (s) ?_ ?_
  ·exact ⟨hI,hrt,hp,hs⟩
  clear hs hI hrt hp hsl;rintro s w5 jv2 ⟨hI,hrt,hp,hs⟩ ih2;have hsl:=hpot hI.len hp;obtain ⟨Mk,W⟩:=s;dsimp only at hsl;rcases List.eq_nil_or_concat W with rfl|⟨W',a,hW⟩
  ·obtain ⟨B5,d5,O5,hrow5,hS⟩:=hs;dsimp only at hS hrow5;refine ZaI ?_;refine Zbc ?_;refine ZbD ?_;refine ZaR ?_;refine Zf ?_;refine Zbc ?_;refine Zn ?_;refine QbK Tryz.func148 rfl Yb Yb ?_;have hM:=hI.fin hgl hrt;have hS2:=hS.drop.drop
   have hS3:St M w0 (O5++(b1,hob A h.cs.length c B h.tr.length d)::H) (Qz 1 (QU Mk) (some ⟨rb,0,none⟩) Mk.length Mk.length::F) w5:=by
    have ho:=hS2.own (rb,_) (.head _);refine hS2.drop.learn fun w' hw=>Qz.own (sp:=[]) (el:=4) ?_ (QiD Mk) (Nat.le_refl _);rw [hw.block rb (Qd8 ho) fun hm=> ?_,List.append_nil]
    ·exact ho
    ·obtain ⟨p,hp,e⟩:=List.mem_map.1 hm;exact (List.pairwise_cons.1 hS2.apart).1 p hp e.symm
   refine ⟨some ⟨rb,0,none⟩,Mk.length,_,?_,fun φ h=> .tail _ h,?_,(St.dropL (L:=O5) hS3).drop⟩
   ·rw [←hM]
   ·rw [←hM];exact Und.head
  ·rw [List.concat_eq_append] at hW;subst hW;have hwa:=hI.wt a (List.mem_append_right W' (List.mem_singleton.2 rfl));have haa:=Qm.1 hwa.1;obtain ⟨x,hx,hgx⟩:=Qgh haa.1 haa.2
   have hrca:Rc h.cs R a:=by
    have:=hI.snd a.toNat (Qap.1 hwa.2)
    rwa [show ((a.toNat:Nat):Int)=a by omega] at this
   have hgc:=QO (Qam hgl hx);have hI1:=hI.pop
   have hp1:pot (Mk,W')+1=pot (Mk,W'++[a]):=by unfold pot;simp;omega
   obtain ⟨B5,d5,O5,hrow5,hS⟩:=hs;dsimp only at hS hrow5
   have hWl:(W'++[a]).length=W'.length+1:=by rw [List.length_append];rfl
   rw [hWl] at hS hrow5;obtain ⟨g5,sp5,rfl,rfl,hcap5,hle5,_⟩:=hrow5.some_ Ya
   have hwl:∀{o o' o'' H' F'} w',St M w0 ((b2,o)::(b3,o')::(rb,o'')::([(g5,.cells (Qn (W'++[a])++sp5).toArray 3)]++H')) F' w'→w'.cell? ⟨g5,0+(((W'.length+1:Nat):Int)-1).toNat*1,none⟩=some (.int .i64 a):=fun w' hS=>by
    rw [Qv (hS.own (g5,_) (.tail _ (.tail _ (.tail _ (.head _)))))];rw [show 0+(((W'.length+1:Nat):Int)-1).toNat*1=W'.length by omega];simp [Qn]
   obtain ⟨bh,oh,rfl⟩:=(hS.und hL).some_ Ya;have hcc:∀{H'} w',St M w0 H' F w'→_:=fun w' hS=>(hS.und hL).cell hgx
   have hfin:∀{w':World} {o:Obj} {bn:Nat},St M w0 ((bn,o)::(b2,svb rb Mk.length)::(b3,svi (some ⟨g5,0,none⟩) W'.length d5)::(rb,QtK Mk)::([(g5,.cells (Qn (W'++[a])++sp5).toArray 3)]++(b1,hob (some ⟨bh,oh,none⟩) h.cs.length c B h.tr.length d)::H)) F w'→MSt M w0 ((bn,o)::(b1,hob (some ⟨bh,oh,none⟩) h.cs.length c B h.tr.length d)::H) F b2 b3 rb (Mk,W') w':=fun {w' o bn} hS=>by
    have e1:Qn (W'++[a])++sp5=Qn W'++(.int .i64 a::sp5):=by simp [Qn]
    refine ⟨some ⟨g5,0,none⟩,d5,[(g5,.cells (Qn (W'++[a])++sp5).toArray 3)],?_,hS.perm (List.perm_append_comm_assoc [_] [_,_,_,_] _)⟩;rw [e1];exact Rw.own_ (len:=W'.length) (by simp [Qn]) (by rw [←e1];exact hcap5) Ya Ya
   have hxkn:x.k=0→Ql h.cs x.n=true:=fun hk=>Qm.2 (Qgi hgl hx hk)
   obtain ⟨k,hk⟩:∃k:Nat,QI x=(k:Nat):=⟨(QI x).toNat,by have:=QdV (Qam hgl hx);omega⟩
   have hk4:k≤4∧(k=0∨a+k<h.cs.length):=by
    have:=QdV (Qam hgl hx);omega
   refine ZaI ?_;refine ZbV ?_;refine ZbD ?_;refine ZF ?_;refine Zcu ?_;refine Zhr ?_;refine ZbV ?_;refine Zgf ?_;refine Zf ?_;refine ZbV ?_;refine ZcG ?_;refine ZbV ?_;refine ZdL ?_;refine ZbV ?_;refine Ze ?_;refine Qa (QP (sz:=1) rfl rfl rfl rfl Ya Ya) rfl ?_;refine Zy ?_;clear hS;intro wx5 hS;refine Zbj ?_;refine ZbV ?_;refine Ze ?_;refine Z6 ?_;refine ZgM ?_;refine Z7 ?_;clear hS;intro b4 wx6 hS;refine Zb ?_;clear hS;intro wx7 hS;refine ZbI ?_;refine ZbV ?_;refine Zk ?_;refine Zc ?_;rw [show (((W'.length+1:Nat):Int)-1).toNat=W'.length by omega] at hS;refine Ql9 (57::58::59::60::[]) (fun w'=>∃s2:DS,Qlh h.cs R (fun i=>i=a) s2∧(x.k=0→Qq s2.1 x.n=true)∧(∀r∈R,Ql h.cs r=true→Qq s2.1 r=true)∧pot s2≤pot (Mk,W')∧MSt M w0 ((b4,.cells (hcs x).toArray 104)::(b1,hob (some ⟨bh,oh,none⟩) h.cs.length c B h.tr.length d)::H) F b2 b3 rb s2 w') ?_ ?_
   ·intro hjoin;refine Qta rfl (fun hq=> ?_) (fun hq=> ?_)
    ·have hk0:x.k=0:=by simpa using hq
     refine ZT ?_;refine ZV ?_;refine ZbV ?_;have hs:=hfin hS;clear hS;refine Zet ?_;refine Calls.mono (Qg1 x.n (Mk,W') _ (Qm.1 (hxkn hk0)).1 (by rw [hI1.len];exact (Qm.1 (hxkn hk0)).2) (by simp at hsl;show W'.length≤_;omega) hs) ?_;rintro _ w6 ⟨rfl,hs6⟩;refine Za ?_;refine Zc ?_;exact hjoin _ _ ⟨Qbh x.n (Mk,W'),Qfj hI1 (hxkn hk0) (Rc.ref hrca hx hk0),fun _=>QcV hI1.len (hxkn hk0),fun r h1 h2=>Qbv (hrt r h1 h2),Qfi hI1.len (hxkn hk0),hs6⟩ Yc
    ·have hk0:x.k≠0:=by simpa using hq
     refine Zcu ?_;exact hjoin _ _ ⟨(Mk,W'),hI1,fun e=>absurd e hk0,hrt,Nat.le_refl _,hfin hS⟩ Yc
   clear hS;rintro jv3 w6 ⟨s2,hI2,hm2,hrt2,hp2,hs2⟩;obtain ⟨B6,d6,O6,hrow6,hS⟩:=hs2;replace hS:=hS.perm (.cons _ (.cons _ (.cons _ (List.perm_append_comm_assoc O6 [_,_] _))));refine Zf ?_;refine ZgM ?_;refine Zs ?_;refine Calls.mono (Qnx x _) ?_;rintro _ w7 ⟨rfl,hb7⟩;refine Za ?_;replace hS:=hS.grow hb7;rw [hk]
   have hs2:MSt M w0 ((b4,.cells (hcs x).toArray 104)::(b1,hob (some ⟨bh,oh,none⟩) h.cs.length c B h.tr.length d)::H) F b2 b3 rb s2 _:=⟨B6,d6,O6,hrow6,hS.perm (.cons _ (.cons _ (.cons _ (List.perm_append_comm_assoc [_,_] O6 _))))⟩
   clear hS hrow6;refine Zdt ?_;refine Qr 63 (64::65::14::66::67::68::69::70::71::72::[]) (fun (j:Nat) v w'=>∃(s3:DS) (i:Nat),i+j=k∧v= .int .i64 (i:Nat)∧Qlh h.cs R (fun i=>i=a) s3∧(x.k=0→Qq s3.1 x.n=true)∧(∀q:Int,0≤q→q<i→Qq s3.1 (a+1+q)=true)∧(∀r∈R,Ql h.cs r=true→Qq s3.1 r=true)∧pot s3≤pot (Mk,W')∧MSt M w0 ((b4,.cells (hcs x).toArray 104)::(b1,hob (some ⟨bh,oh,none⟩) h.cs.length c B h.tr.length d)::H) F b2 b3 rb s3 w') (fun j=>j) (k) ?_ Yb ?_
   ·exact ⟨s2,0,by omega,rfl,hI2,hm2,fun q h1 h2=>by omega,hrt2,hp2,hs2⟩
   clear hs2 hI2 hm2 hrt2 hp2;rintro j _ w8 jv4 ⟨s3,i,hi,rfl,hI3,hm3,ha3,hrt3,hp3,hs3⟩ ih3
   cases j with
   |zero=>
    refine ZL ?_;refine ZaL ?_;refine ih2 s3 _ _ ?_ ?_ Yc
    ·omega
    ·refine ⟨hI3.done hx hm3 fun q q0 q1=>ha3 q q0 Ya,hrt3,by omega,?_⟩;obtain ⟨B9,d9,O9,hrow9,hS⟩:=hs3;exact ⟨B9,d9,O9,hrow9,(hS.perm (.cons _ (.cons _ (.cons _ (List.perm_append_comm_assoc O9 [_] _))))|>.perm (List.perm_append_comm_assoc [_,_,_] [_] _)).drop⟩
   |succ j=>
    have hadr:Ql h.cs (a+1+(i:Nat))=true:=Qm.2 Ya;have hrc3:Rc h.cs R (a+1+(i:Nat)):=Rc.arg hrca hx Ya Ya;have hsl3:=hpot hI3.len Ya;refine Zax ?_;refine ZT ?_;refine ZaS ?_;refine ZaS ?_;refine Zet ?_;refine Calls.mono (Qg1 (a+1+(i:Nat)) s3 _ Ya (by rw [hI3.len];omega) hsl3 hs3) ?_;rintro _ w9 ⟨rfl,hs9⟩;refine Za ?_;refine Zay ?_;refine ih3 j _ _ _ ?_ ?_ Yb Yc
    ·omega
    ·refine ⟨Qbh (a+1+(i:Nat)) s3,i+1,by omega,by simp,Qfj hI3 hadr hrc3,fun e=>Qbv (hm3 e),fun q q0 q1=> ?_,fun r h1 h2=>Qbv (hrt3 r h1 h2),Nat.le_trans (Qfi hI3.len hadr) hp3,hs9⟩;by_cases e:q=i
     ·subst e;exact QcV hI3.len hadr
     ·exact Qbv (ha3 q q0 Ya)
end
def Qcl (M:List Bool):List Int:=(List.range (M.length+1)).map fun i=>((rk M i:Nat):Int)
theorem Qdk (M:List Bool):(Qcl M).length=M.length+1:=by simp [Qcl]
theorem QeD {M:List Bool} {i:Nat} (h:i≤M.length):(Qcl M)[i]?=some ((rk M i:Nat):Int):=by
 unfold Qcl;rw [List.getElem?_map,List.getElem?_range Ya];rfl
theorem Qt6 (M:List Bool) (n:Nat):rk M n≤n:=by
 unfold rk;exact Nat.le_trans List.count_le_length Yh
abbrev Qtv (P:List Int):Obj:= .cells (Qn P).toArray 3
theorem Qfq (P:List Int) (i:Nat) (x:Int) (h:i<P.length):Put (Qn P) i (.int .i64 x) (Qn (P.set i x)):=by
 have:=Qg2 (l:=Qn P) (v:= .int .i64 x) (i:=i) (by simpa [Qn] using h)
 rwa [show (Qn P).set i (.int .i64 x)=Qn (P.set i x) by simp [Qn,List.map_set]] at this
section
variable {M:List Nat} {w0:World} {H:List (Nat×Obj)} {F:List (World→Prop)}
theorem QpM {P:List Int} {g:Nat} {H':List (Nat×Obj)} {F':List (World→Prop)} {w':World} (hS:St M w0 ((g,Qtv P)::H') F' w') {i:Nat} {v:Int} (hv:P[i]?=some v):w'.cell? ⟨g,i,none⟩=some (.int .i64 v):=by
 rw [Qv (hS.own (g,_) (.head _))];simp [Qn,hv]
theorem St.freezeI {P:List Int} {g:Nat} {w:World} (hS:St M w0 ((g,Qtv P)::H) F w):St M w0 H (Qz 1 (Qn P) (some ⟨g,0,none⟩) P.length P.length::F) w:=by
 have ho:=hS.own (g,_) (.head _);refine hS.drop.learn fun w' hw=>Qz.own (sp:=[]) (el:=3) ?_ (Qhh P) (Nat.le_refl _);rw [hw.block g (Qd8 ho) fun hm=> ?_,List.append_nil]
 ·exact ho
 ·obtain ⟨p,hp,e⟩:=List.mem_map.1 hm;exact (List.pairwise_cons.1 hS.apart).1 p hp e.symm
theorem QmE (Mk:List Bool) (A:Option Addr) (c:Nat) (w:World) (hM:Und F (Qz 1 (QU Mk) A Mk.length c)) (hl:Mk.length≤1048576) (hS:St M w0 H F w):
  Calls Tryz.prog 149 #[.slice A Mk.length c] w fun e w'=>∃(A':Option Addr) (c':Nat) (F':List (World→Prop)),e= .returned (.slice A' (Mk.length+1) c')∧(∀φ∈F,φ∈F')∧Und F' (Qz 1 (Qn (Qcl Mk)) A' (Qcl Mk).length c')∧St M w0 H F' w':=by
 refine Qu Tryz.func149 rfl Tryz.ntmps149 rfl ?_;refine Zl ?_;refine Zv ?_;refine ZO ?_;refine ZQ ?_;refine QcG (k:=Mk.length+1) (bts:=8) (z:= .int .i64 0) hS Yah Yah rfl rfl rfl rfl Ya Ya rfl ?_;clear hS;intro g w3 hS;rw [show List.replicate (Mk.length+1) (Value.int .i64 0)=Qn (List.replicate (Mk.length+1) 0) by simp [Qn]] at hS;refine ZbO ?_;refine Qr 12 (13::14::15::16::4::5::17::18::19::20::21::22::23::24::25::26::27::28::29::30::31::32::33::[]) (fun (R:List Bool) v w'=>∃(D:List Bool) (P:List Int),Mk=D++R∧v= .int .i64 (D.length:Nat)∧P.length=Mk.length+1∧(∀q:Nat,q≤D.length→P[q]?=some ((rk Mk q:Nat):Int))∧St M w0 ((g,Qtv P)::H) F w') (fun R=>R.length) (Mk) ?_ Yb ?_
 ·refine ⟨[],List.replicate (Mk.length+1) 0,rfl,rfl,by simp,fun q hq=> ?_,hS⟩;obtain rfl:q=0:=by simpa using hq
  rw [QlF];simp
 clear hS;rintro R _ w4 jv ⟨D,P,hD,rfl,hPl,hP,hS⟩ ih
 have hlen:Mk.length=D.length+R.length:=by rw [hD];simp
 cases R with
 |nil=>
  simp only [List.length_nil] at hlen;refine Zcp ?_;refine Qg Tryz.func149 rfl Yb ?_
  have hPe:P=Qcl Mk:=by
   refine List.ext_getElem? fun q=> ?_;by_cases hq:q≤Mk.length
   ·rw [hP q Ya,QeD hq]
   ·rw [List.getElem?_eq_none Ya,List.getElem?_eq_none (by rw [Qdk];omega)]
  replace hS:=St.freezeI hS;rw [hPl,hPe] at hS;exact ⟨some ⟨g,0,none⟩,Mk.length+1,_,rfl,fun φ h=> .tail _ h,by rw [Qdk];exact Und.head,hS⟩
 |cons x R=>
  simp only [List.length_cons] at hlen
  have hxi:Mk[D.length]?=some x:=by rw [hD];simp
  obtain ⟨bt,ot,rfl⟩:=(hS.und hM).some_ Ya
  have hct:∀{H'} w',St M w0 H' F w'→w'.cell? ⟨bt,ot+((D.length:Nat):Int).toNat*1,none⟩=some (.bool x):=fun w' hS=>by
   have:=(hS.und hM).bool hxi;rw [show ((D.length:Nat):Int).toNat=D.length by omega];exact this
  have hpa:∀{H' F'} w',St M w0 ((g,Qtv P)::H') F' w'→w'.cell? ⟨g,0+((D.length:Nat):Int).toNat*1,none⟩=some (.int .i64 ((rk Mk D.length:Nat):Int)):=fun w' hS=>by
   rw [show 0+((D.length:Nat):Int).toNat*1=D.length by omega];exact QpM hS (hP D.length (Nat.le_refl _))
  have hi1:(((D.length:Nat):Int)+1).toNat=D.length+1:=by omega
  have hput:=Qfq P (D.length+1) ((rk Mk D.length:Nat):Int) Ya;have hrk:=QgZ hxi;have hrl:=Qt6 Mk D.length;have hP2l:(P.set (D.length+1) ((rk Mk D.length:Nat):Int)).length=Mk.length+1:=by simpa using hPl
  have hpb:∀{H' F'} w',St M w0 ((g,Qtv (P.set (D.length+1) ((rk Mk D.length:Nat):Int)))::H') F' w'→w'.cell? ⟨g,0+(((D.length:Nat):Int)+1).toNat*1,none⟩=some (.int .i64 ((rk Mk D.length:Nat):Int)):=fun w' hS=>by
   rw [show 0+(((D.length:Nat):Int)+1).toNat*1=D.length+1 by omega];exact QpM hS (List.getElem?_set_self Ya)
  have hput2:=Qfq (P.set (D.length+1) ((rk Mk D.length:Nat):Int)) (D.length+1) (((rk Mk D.length:Nat):Int)+1) (by rw [hP2l];omega)
  cases x with
  |false=>
   simp only [Bool.false_eq_true,if_false,Nat.add_zero] at hrk;refine Zc1 ?_;refine Zeu ?_;refine Zn ?_;refine Zbp ?_;refine ZK ?_;refine ZS ?_;refine Zeu ?_;refine ZS ?_;refine ZgN ?_;clear hS;intro w6 hS;refine Zc2 ?_;refine ZaK ?_;refine ih (R) _ _ _ ?_ ?_ Yb Yc
   ·simp
   ·refine ⟨D++[false],_,by rw [hD];simp,by simp,hP2l,fun q hq=> ?_,hS⟩;rw [List.length_append] at hq;simp only [List.length_cons,List.length_nil] at hq;rw [List.getElem?_set];split
    ·rename_i e;rw [if_pos Ya,←e,hrk]
    ·exact hP q Ya
  |true=>
   simp only [if_true] at hrk;refine Zc1 ?_;refine Zeu ?_;refine Zn ?_;refine Zbp ?_;refine ZK ?_;refine ZS ?_;refine Zeu ?_;refine ZS ?_;refine ZgN ?_;clear hS;intro w6 hS;refine Zc2 ?_;refine Zaw ?_;refine ZaS ?_;refine ZS ?_;refine Zeu ?_;refine ZQ ?_;refine ZS ?_;refine Qaq hS rfl Yb rfl rfl .head (by rw [hi1,Nat.zero_add,Nat.mul_one];exact hput2) .head ?_;clear hS;intro w7 hS;refine Zay ?_;refine ih (R) _ _ _ ?_ ?_ Yb Yc
   ·simp
   ·refine ⟨D++[true],_,by rw [hD];simp,by simp,by simpa using hPl,fun q hq=> ?_,hS⟩;rw [List.length_append] at hq;simp only [List.length_cons,List.length_nil] at hq;rw [List.set_set,List.getElem?_set];split
    ·rename_i e;rw [if_pos Ya,←e,hrk];simp
    ·exact hP q Ya
theorem Qfz (Mk:List Bool) (I:List Int) (A B:Option Addr) (c d:Nat) (w:World) (hM:Und F (Qz 1 (Qn (Qcl Mk)) A (Qcl Mk).length c)) (hI:Und F (Qz 1 (Qn I) B I.length d)) (hl:Mk.length≤1048576) (hl2:I.length≤1048576) (hS:St M w0 H F w):
  Calls Tryz.prog 152 #[.slice A (Mk.length+1) c,.slice B I.length d] w fun e w'=>∃(A':Option Addr) (c':Nat) (F':List (World→Prop)),e= .returned (.slice A' (I.map (rkI Mk)).length c')∧(∀φ∈F,φ∈F')∧Und F' (Qz 1 (Qn (I.map (rkI Mk))) A' (I.map (rkI Mk)).length c')∧St M w0 H F' w':=by
 refine Qo Tryz.func152 rfl Tryz.ntmps152 rfl ?_;refine Zl ?_;refine Zv ?_;refine ZO ?_;refine QcG (k:=I.length) (bts:=8) (z:= .int .i64 0) hS Yb Yb rfl rfl rfl rfl Ya Ya rfl ?_;clear hS;intro g w3 hS;rw [show List.replicate I.length (Value.int .i64 0)=Qn (List.replicate I.length 0) by simp [Qn]] at hS;refine ZbO ?_;refine Qr 13 (14::15::16::17::6::7::18::19::20::21::22::23::24::25::26::27::28::29::30::[]) (fun (R:List Int) v w'=>∃(D:List Int) (P:List Int),I=D++R∧v= .int .i64 (D.length:Nat)∧P.length=I.length∧(∀(q:Nat) (x:Int),q<D.length→I[q]?=some x→P[q]?=some (rkI Mk x))∧St M w0 ((g,Qtv P)::H) F w') (fun R=>R.length) (I) ?_ Yb ?_
 ·exact ⟨[],List.replicate I.length 0,rfl,rfl,by simp,fun q x hq=>by simp at hq,hS⟩
 clear hS;rintro R _ w4 jv ⟨D,P,hD,rfl,hPl,hP,hS⟩ ih
 have hlen:I.length=D.length+R.length:=by rw [hD];simp
 cases R with
 |nil=>
  simp only [List.length_nil] at hlen;refine Zcp ?_;refine Qg Tryz.func152 rfl Yb ?_
  have hPe:P=I.map (rkI Mk):=by
   refine List.ext_getElem? fun q=> ?_;rw [List.getElem?_map]
   cases hq:I[q]? with
   |none=>
    have:I.length≤q:=by
     rcases Nat.lt_or_ge q I.length with g|g
     ·rw [List.getElem?_eq_getElem g] at hq;cases hq
     ·exact g
    rw [List.getElem?_eq_none Ya];rfl
   |some x=>
    have:q<I.length:=by
     rcases Nat.lt_or_ge q I.length with g|g
     ·exact g
     ·rw [List.getElem?_eq_none g] at hq;cases hq
    rw [hP q x Ya hq];rfl
  replace hS:=St.freezeI hS;rw [hPe] at hS;refine ⟨some ⟨g,0,none⟩,I.length,_,by rw [List.length_map],fun φ h=> .tail _ h,?_,hS⟩;have:=Und.head (F:=F) (φ:=Qz 1 (Qn (I.map (rkI Mk))) (some ⟨g,0,none⟩) (I.map (rkI Mk)).length (I.map (rkI Mk)).length);rw [show I.length=(I.map (rkI Mk)).length by simp];exact this
 |cons x R=>
  simp only [List.length_cons] at hlen
  have hxi:I[D.length]?=some x:=by rw [hD];simp
  obtain ⟨bt,ot,rfl⟩:=(hS.und hI).some_ Ya;obtain ⟨bs,os,rfl⟩:=(hS.und hM).some_ (by rw [Qdk];omega)
  obtain ⟨mx,hmx⟩:∃mx:Int,mx=if x<(0:Int) then 0 else x:=⟨_,rfl⟩
  obtain ⟨mn,hmn⟩:∃mn:Int,mn=if ((Mk.length+1:Nat):Int)-1<mx then ((Mk.length+1:Nat):Int)-1 else mx:=⟨_,rfl⟩
  have hmb:0≤mn∧mn≤Mk.length∧rk Mk mn.toNat=rk Mk x.toNat:=by
   refine ⟨by rw [hmn,hmx];split<;>split<;>omega,by rw [hmn,hmx];split<;>split<;>omega,?_⟩;by_cases hx:(Mk.length:Int)≤x
   ·rw [show mn.toNat=Mk.length by rw [hmn,hmx];split<;>split<;>omega];exact (Qpx Ya).symm
   ·rw [show mn.toNat=x.toNat by rw [hmn,hmx];split<;>split<;>omega]
  have hct:∀{H'} w',St M w0 H' F w'→w'.cell? ⟨bt,ot+((D.length:Nat):Int).toNat*1,none⟩=some (.int .i64 x):=fun w' hS=>by
   have:=(hS.und hI).int hxi;rw [show ((D.length:Nat):Int).toNat=D.length by omega];exact this
  have hcs:∀{H'} w',St M w0 H' F w'→w'.cell? ⟨bs,os+mn.toNat*1,none⟩=some (.int .i64 (rkI Mk x)):=fun w' hS=>by
   have h1:(Qcl Mk)[mn.toNat]?=some (rkI Mk x):=by rw [QeD Ya,hmb.2.2]
   exact (hS.und hM).int h1
  have hput:=Qfq P D.length (rkI Mk x) Ya;refine Zc1 ?_;refine ZgO ?_;refine Zn ?_;refine ZT ?_;refine ZK ?_;refine Ze ?_;refine Qa (QiU rfl rfl Ye) rfl ?_;refine Ze ?_;refine ZbZ ?_;refine Qa (Qf7 rfl rfl Ye) rfl ?_;refine ZS ?_;refine ZgO ?_;refine ZS ?_;refine Qaq hS rfl Yb rfl rfl .head (by rw [show ((D.length:Nat):Int).toNat=D.length by omega,Nat.zero_add,Nat.mul_one];exact hput) .head ?_;clear hS;intro w6 hS;refine Zay ?_;refine ih (R) _ _ _ ?_ ?_ Yb Yc
  ·simp
  ·refine ⟨D++[x],_,by rw [hD];simp,by simp,by simpa using hPl,fun q y hq hy=> ?_,hS⟩;rw [List.length_append] at hq;simp only [List.length_cons,List.length_nil] at hq;rw [List.getElem?_set];split
   ·rename_i e;rw [if_pos Ya];rw [←e,hxi] at hy;rw [Option.some.inj hy]
   ·exact hP q y Ya hy
theorem Qji (L:List HC) (Mk:List Bool) (A B S:Option Addr) (c d e:Nat) (w:World) (hL:Und F (Qz 3 (Qab L) A L.length c)) (hM:Und F (Qz 1 (QU Mk) B Mk.length d)) (hs:Und F (Qz 1 (Qn (Qcl Mk)) S (Qcl Mk).length e)) (hg:QN L.length L=true) (hl:L.length≤65536) (hml:Mk.length=L.length) (hS:St M w0 H F w):
  Calls Tryz.prog 150 #[.slice A L.length c,.slice B Mk.length d,.slice S (Mk.length+1) e] w fun e w'=>∃(A':Option Addr) (c':Nat) (F':List (World→Prop)),e= .returned (.slice A' (QaZ Mk L).length c')∧(∀φ∈F,φ∈F')∧Und F' (Qz 3 (Qab (QaZ Mk L)) A' (QaZ Mk L).length c')∧St M w0 H F' w':=by
 refine QE Tryz.func150 rfl Tryz.ntmps150 rfl ?_;refine Zl ?_;refine Zx ?_;refine ZN ?_;refine Qy 12 7 (13::14::15::16::9::8::17::18::19::20::21::22::23::24::25::26::27::28::29::30::31::32::33::34::35::[]) (fun (R:List HC) v u w'=>∃(D:List HC) (m1 m2:List Bool) (X:List HC) (Aa:Option Addr) (ca:Nat) (O:List (Nat×Obj)),L=D++R∧Mk=m1++m2∧m1.length=D.length∧v= .int .i64 (D.length:Nat)∧u= .slice Aa X.length ca∧X.length≤D.length∧QaZ Mk L=X++(kept R m2).map (QbN Mk)∧Rw 104 3 (.slice Aa X.length ca) X.length (Qab X) O∧St M w0 (O++H) F w') (fun R=>R.length) (L) ?_ Yb Yb ?_
 ·exact ⟨[],[],Mk,[],none,0,[],rfl,rfl,rfl,rfl,rfl,by simp,rfl,Rw.zero_,hS⟩
 clear hS;rintro R _ _ w4 jv ⟨D,m1,m2,X,Aa,ca,O,hD,hm,hml1,rfl,rfl,hXl,hcol,hrow,hS⟩ ih
 have hlen:L.length=D.length+R.length:=by rw [hD];simp
 have hlm:m2.length=R.length:=by
  have:Mk.length=m1.length+m2.length:=by rw [hm];simp
  omega
 cases R with
 |nil=>
  simp only [List.length_nil] at hlen
  have hX:QaZ Mk L=X:=by rw [hcol];simp [kept]
  refine Zcp ?_;refine Qg Tryz.func150 rfl Yb ?_;rw [hX];exact ⟨Aa,ca,_,rfl,fun φ h=> .tail _ h,Und.head,St.freezeR hrow hS⟩
 |cons x R=>
  simp only [List.length_cons] at hlen hlm
  obtain ⟨b,m2,rfl⟩:∃b m2',m2=b::m2':=by
   cases m2 with
   |nil=>simp at hlm
   |cons b m2=>exact ⟨b,m2,rfl⟩
  have hxi:L[D.length]?=some x:=by rw [hD];simp
  have hbi:Mk[D.length]?=some b:=by rw [hm,←hml1];simp
  obtain ⟨bt,ot,rfl⟩:=(hS.und hL).some_ Ya;obtain ⟨bm,om,rfl⟩:=(hS.und hM).some_ Ya;obtain ⟨bs,os,rfl⟩:=(hS.und hs).some_ (by rw [Qdk];omega);have hcc:∀{H'} w',St M w0 H' F w'→_:=fun w' hS=>(hS.und hL).cell hxi
  have hcb:∀{H'} w',St M w0 H' F w'→w'.cell? ⟨bm,om+((D.length:Nat):Int).toNat*1,none⟩=some (.bool b):=fun w' hS=>by
   have:=(hS.und hM).bool hbi;rw [show ((D.length:Nat):Int).toNat=D.length by omega];exact this
  rw [show D.length=((D.length:Nat):Int).toNat by omega] at hcc
  cases b with
  |false=>
   refine Zb7 ?_;refine Z6 ?_
   first
    |refine Qa (Qb (k:=3) hS rfl rfl rfl Ym Yf) rfl ?_
    |refine Qa (Qb (k:=3) hS rfl rfl rfl Ym Ye) rfl ?_
    |refine Qa (QaV rfl rfl rfl Y0 Y0 Y0) rfl ?_
   refine Z7 ?_;clear hS;intro b1 wx1 hS;refine ZcZ ?_;clear hS;intro wx2 hS;refine Zao ?_;refine ZcG ?_
   first
    |refine Qa (Qe hS rfl rfl Ym Yf) rfl ?_
    |refine Qa (Qi rfl rfl (by first|assumption|exact (hcc _ hS).1|exact (hcc _ hS).2.1|exact (hcc _ hS).2.2|exact hcb _ hS|exact hS.cell0 Ye|exact lv_next hS|exact lv_list hS)) rfl ?_
   refine ZE ?_;refine ZF ?_;refine ZaW ?_;refine Zaz ?_;refine ZeF ?_;refine ih R _ _ _ _ ?_ ?_ Yb Yb Yc
   ·simp
   ·refine ⟨D++[x],m1++[false],m2,X,Aa,ca,O,by rw [hD];simp,by rw [hm];simp,by simp [hml1],by simp,rfl,by simp;omega,?_,hrow,hS.drop⟩;rw [hcol];simp [kept]
  |true=>
   have hgx:Qaa L.length x R.length=true:=by
    cases hq:Qaa L.length x R.length with
    |true=>rfl
    |false=>have:=Qel (D:=D) hq;rw [←hD,hg] at this;cases this
   have hgc:=QO hgx;by_cases hk:x.k=0
   ·have hxn:0≤x.n∧x.n<L.length:=by omega
    have hcs:∀{H'} w',St M w0 H' F w'→w'.cell? ⟨bs,os+x.n.toNat*1,none⟩=some (.int .i64 (rkI Mk x.n)):=fun w' hS=>by
     have h1:(Qcl Mk)[x.n.toNat]?=some (rkI Mk x.n):=by rw [QeD Ya]
     exact (hS.und hs).int h1
    have hrn:QbN Mk x=⟨x.k,rkI Mk x.n,x.s⟩:=by unfold QbN;rw [if_pos hk]
    refine Zb7 ?_;refine Z6 ?_;refine Ze8 ?_;refine Z7 ?_;clear hS;intro b1 wx1 hS;refine ZcZ ?_;clear hS;intro wx2 hS;refine Zao ?_;refine ZcG ?_;refine Zdk ?_;refine ZP ?_;refine Zat ?_;refine Zdk ?_;refine Zk ?_;refine Zaw ?_;refine ZV ?_;refine Zdk ?_;refine ZS ?_;refine Zdk ?_;refine ZV ?_;refine Zy ?_;clear hS;intro wx3 hS;refine Zd2 ?_;refine Ze8 ?_;refine Zdl ?_;clear hS;intro b2 wx4 hS;refine QdR (L:=[⟨x.k,rkI Mk x.n,x.s⟩]) hS Yb Yi rfl rfl rfl (Qz.own (sp:=[]) (hS.own (_,_) (.head _)) rfl (Nat.le_refl _)) hrow (List.perm_append_comm_assoc [_,_] O _) Yh rfl ?_;clear hS;intro v7 O7 w7 hrow7 hS;obtain ⟨B7,d7,rfl,_⟩:=hrow7.form;refine Zap ?_;refine ih R _ _ _ _ ?_ ?_ Yb Yb Yc
    ·simp
    ·refine ⟨D++[x],m1++[true],m2,X++[⟨x.k,rkI Mk x.n,x.s⟩],B7,d7,O7,by rw [hD];simp,by rw [hm];simp,by simp [hml1],by simp,by rw [List.length_append],by simp;omega,?_,?_,(hS.perm (List.perm_append_comm_assoc O7 [_,_] _)).drop.drop⟩
     ·rw [hcol];simp [kept,hrn]
     ·rw [List.length_append,QbC];exact hrow7
   ·have hrn:QbN Mk x=x:=by unfold QbN;rw [if_neg hk]
    refine Zb7 ?_;refine Z6 ?_;refine Ze8 ?_;refine Z7 ?_;clear hS;intro b1 wx1 hS;refine ZcZ ?_;clear hS;intro wx2 hS;refine Zao ?_;refine ZcG ?_;refine Zdk ?_;refine ZP ?_;refine Zat ?_;refine Zdk ?_;refine Zak ?_;refine ZT ?_;refine Ze8 ?_;refine Zdl ?_;clear hS;intro b2 wx3 hS;refine QdR (L:=[x]) hS Yb Yi rfl rfl rfl (Qz.own (sp:=[]) (hS.own (_,_) (.head _)) rfl (Nat.le_refl _)) hrow (List.perm_append_comm_assoc [_,_] O _) Yh rfl ?_;clear hS;intro v7 O7 w7 hrow7 hS;obtain ⟨B7,d7,rfl,_⟩:=hrow7.form;refine Zap ?_;refine ih R _ _ _ _ ?_ ?_ Yb Yb Yc
    ·simp
    ·refine ⟨D++[x],m1++[true],m2,X++[x],B7,d7,O7,by rw [hD];simp,by rw [hm];simp,by simp [hml1],by simp,by rw [List.length_append],by simp;omega,?_,?_,(hS.perm (List.perm_append_comm_assoc O7 [_,_] _)).drop.drop⟩
     ·rw [hcol];simp [kept,hrn]
     ·rw [List.length_append,QbC];exact hrow7
theorem Qjh (T:List Int) (N Mk:List Bool) (A B S:Option Addr) (c d e:Nat) (w:World) (hT:Und F (Qz 1 (Qn T) A T.length c)) (hM:Und F (Qz 1 (QU N) B N.length d)) (hs:Und F (Qz 1 (Qn (Qcl Mk)) S (Qcl Mk).length e)) (hg:∀a∈T,0≤a∧a<Mk.length) (hl:T.length≤65536) (hml:N.length=T.length) (hS:St M w0 H F w):
  Calls Tryz.prog 151 #[.slice A T.length c,.slice B N.length d,.slice S (Mk.length+1) e] w fun e w'=>∃(A':Option Addr) (c':Nat) (F':List (World→Prop)),e= .returned (.slice A' ((kept T N).map (rkI Mk)).length c')∧(∀φ∈F,φ∈F')∧Und F' (Qz 1 (Qn ((kept T N).map (rkI Mk))) A' ((kept T N).map (rkI Mk)).length c')∧St M w0 H F' w':=by
 refine QE Tryz.func151 rfl Tryz.ntmps151 rfl ?_;refine Zl ?_;refine Zx ?_;refine ZN ?_;refine Qy 12 7 (13::14::15::16::8::9::17::18::19::20::21::22::23::24::25::26::27::28::[]) (fun (R:List Int) v u w'=>∃(D:List Int) (m1 m2:List Bool) (X:List Int) (Aa:Option Addr) (ca:Nat) (O:List (Nat×Obj)),T=D++R∧N=m1++m2∧m1.length=D.length∧v= .int .i64 (D.length:Nat)∧u= .slice Aa X.length ca∧X.length≤D.length∧(kept T N).map (rkI Mk)=X++(kept R m2).map (rkI Mk)∧Rw 3 1 (.slice Aa X.length ca) X.length (Qn X) O∧St M w0 (O++H) F w') (fun R=>R.length) (T) ?_ Yb Yb ?_
 ·exact ⟨[],[],N,[],none,0,[],rfl,rfl,rfl,rfl,rfl,by simp,rfl,Rw.zero_,hS⟩
 clear hS;rintro R _ _ w4 jv ⟨D,m1,m2,X,Aa,ca,O,hD,hm,hml1,rfl,rfl,hXl,hcol,hrow,hS⟩ ih
 have hlen:T.length=D.length+R.length:=by rw [hD];simp
 have hlm:m2.length=R.length:=by
  have:N.length=m1.length+m2.length:=by rw [hm];simp
  omega
 cases R with
 |nil=>
  simp only [List.length_nil] at hlen
  have hX:(kept T N).map (rkI Mk)=X:=by rw [hcol];simp [kept]
  refine Zcp ?_;refine Qg Tryz.func151 rfl Yb ?_;rw [hX];exact ⟨Aa,ca,_,rfl,fun φ h=> .tail _ h,Und.head,St.freezeR hrow hS⟩
 |cons x R=>
  simp only [List.length_cons] at hlen hlm
  obtain ⟨b,m2,rfl⟩:∃b m2',m2=b::m2':=by
   cases m2 with
   |nil=>simp at hlm
   |cons b m2=>exact ⟨b,m2,rfl⟩
  have hxi:T[D.length]?=some x:=by rw [hD];simp
  have hbi:N[D.length]?=some b:=by rw [hm,←hml1];simp
  obtain ⟨hx0,hx1⟩:=hg x (by rw [hD];simp);obtain ⟨bt,ot,rfl⟩:=(hS.und hT).some_ Ya;obtain ⟨bm,om,rfl⟩:=(hS.und hM).some_ Ya;obtain ⟨bs,os,rfl⟩:=(hS.und hs).some_ (by rw [Qdk];omega)
  have hcc:∀{H'} w',St M w0 H' F w'→w'.cell? ⟨bt,ot+((D.length:Nat):Int).toNat*1,none⟩=some (.int .i64 x):=fun w' hS=>by
   have:=(hS.und hT).int hxi;rw [show ((D.length:Nat):Int).toNat=D.length by omega];exact this
  have hcb:∀{H'} w',St M w0 H' F w'→w'.cell? ⟨bm,om+((D.length:Nat):Int).toNat*1,none⟩=some (.bool b):=fun w' hS=>by
   have:=(hS.und hM).bool hbi;rw [show ((D.length:Nat):Int).toNat=D.length by omega];exact this
  have hcs:∀{H'} w',St M w0 H' F w'→w'.cell? ⟨bs,os+x.toNat*1,none⟩=some (.int .i64 (rkI Mk x)):=fun w' hS=>by
   have h1:(Qcl Mk)[x.toNat]?=some (rkI Mk x):=by rw [QeD Ya]
   exact (hS.und hs).int h1
  cases b with
  |false=>
   refine Zc1 ?_;refine Zev ?_;refine Zn ?_;refine Zt ?_;refine ZS ?_;refine Zev ?_;refine ZaK ?_;refine ih R _ _ _ _ ?_ ?_ Yb Yb Yc
   ·simp
   ·refine ⟨D++[x],m1++[false],m2,X,Aa,ca,O,by rw [hD];simp,by rw [hm];simp,by simp [hml1],by simp,rfl,by simp;omega,?_,hrow,hS⟩;rw [hcol];simp [kept]
  |true=>
   refine Zc1 ?_;refine Zev ?_;refine Zn ?_;refine Zt ?_;refine ZS ?_;refine Zev ?_;refine Zaw ?_;refine ZK ?_;refine ZS ?_;refine Zev ?_;refine Zby ?_;clear hS;intro b1 wx1 hS;refine Qgd (L:=[rkI Mk x]) hS Yb Yi rfl rfl rfl (Qz.own (sp:=[]) (hS.own (_,_) (.head _)) rfl (Nat.le_refl _)) hrow (List.perm_append_comm_assoc [_] O _) Yh rfl ?_;clear hS;intro v7 O7 w7 hrow7 hS;obtain ⟨B7,d7,rfl,_⟩:=hrow7.form;refine Zap ?_;refine ih R _ _ _ _ ?_ ?_ Yb Yb Yc
   ·simp
   ·refine ⟨D++[x],m1++[true],m2,X++[rkI Mk x],B7,d7,O7,by rw [hD];simp,by rw [hm];simp,by simp [hml1],by simp,by rw [List.length_append],by simp;omega,?_,?_,(hS.perm (List.perm_append_comm_assoc O7 [_] _)).drop⟩
    ·rw [hcol];simp [kept]
    ·rw [List.length_append,show Qn (X++[rkI Mk x])=Qn X++Qn [rkI Mk x] by simp [Qn]];exact hrow7
end
end Go.Proofs.YthliapbflkfdiacGreatDoor
