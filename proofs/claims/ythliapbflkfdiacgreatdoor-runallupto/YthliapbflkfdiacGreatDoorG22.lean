/- Steps of the proof. -/
import Derived.Test.YthliapbflkfdiacGreatDoorG21
namespace Go.Proofs.YthliapbflkfdiacGreatDoor
open Go.RowKit
set_option linter.unusedVariables false
set_option linter.unusedSimpArgs false
set_option maxRecDepth 4000
structure Qtq (q F:Nat) (s:SS) (x:XS) (R:Tm→Int→Prop):Prop where
 i:XIn q F s x
 g:QfG q s.fresh s.B x.h R
 c:Qag (GR R x.h) x.ln x.first s.goals
 cs:x.h.cs.length≤300*(x.goals+1)
 ts:x.h.tr.length+400≤400*x.goals
theorem XIn.setB {q F:Nat} {s:SS} {x:XS} (h:XIn q F s x) {N:Bnd} (hi:Qd4 (s.setB (N++s.B))):XIn q F (s.setB (N++s.B)) x:=
 ⟨h.ev,h.fuel,h.f150,h.q8,QW.up h.ho.nn (Bk.self h.ho) h.ch,hi,h.gd,h.ho,h.csz,h.lsz,h.lnx⟩
theorem QkX {q F:Nat} {s:SS} {x:XS} {R:Tm→Int→Prop} (M:Qtq q F s x R) {t t':Tm} {a a':Int} (ht:R t a) (ht':R t' a') (hsl:s.B.length+10100*(mu s+1)≤1000000000) (gt:tgd t) (gt':tgd t') (hgo:(Qbm t t' s).1=0→Inv (Qbm t t' s).2):
  QqR q F (Qbm t t' s) (QeZ a a' x):=by
 have hi:=QcO M.i.inv hsl gt gt';have hup:=Qdj 401 t t' s.B 0 gt.small gt'.small M.i.inv.bok M.i.inv.sm Ya;obtain ⟨N,hN⟩:=hup.ext;have hfu:=M.i.fuel;have hf150:=M.i.f150;have hun:=QjT M.g M.i.gd (by have:=M.ts;omega) ht ht';unfold Qbm at hgo⊢;unfold QeZ;simp only at hgo⊢;generalize Qbs 401 t t' s.B 0=r at*;obtain ⟨u1,u2,u3⟩:=hun;by_cases hw:400<r.w
 ·rw [if_pos hw,u1 hw,if_pos (by show (3:Int)≠0;decide)];exact ⟨rfl,M.i.ev,fun h=>by cases h⟩
 rw [if_neg hw] at hgo⊢
 cases hok:r.ok with
 |false=>
  rw [if_neg Yg,u2 Ya hok,if_neg Yae,if_pos rfl];rw [hN] at hi⊢;exact Qe6 (M.i.setB hi)
 |true=>
  rw [hok] at hgo;rw [if_pos rfl] at hgo⊢;obtain ⟨h2,m1,m2,m3,m4,m5,m6⟩:=u3 Ya hok;rw [m1,if_neg Yae,if_neg (by show¬(true=false);decide)];refine ⟨rfl,M.i.ev,fun _=>⟨⟨M.i.ev,M.i.fuel,M.i.f150,M.i.q8,?_,hi,m3,m2.bm.okb,M.i.csz,M.i.lsz,M.i.lnx⟩,⟨R,m2,M.c.mono fun t a h=>⟨h.1,Dr.up m2.bm.okb m6 h.2.1,h.2.2⟩⟩,hgo rfl,?_,?_⟩⟩
  ·show QW q s.fresh x.ln r.B h2 s.ch x.ch;rw [hN];exact QW.up m2.bm.okb.nn m6 M.i.ch
  ·show h2.cs.length≤300*(x.goals+1);rw [m4];exact M.cs
  ·show h2.tr.length≤400*x.goals;have:=M.ts;omega
theorem Qdv {q f:Nat} {B:Bnd} {h:HH} {R:Tm→Int→Prop} (H:QfG q f B h R) {t:Tm} {a:Int} (ht:R t a):(QZ h a).k=(Qc B t).k∧((Qc B t).k=2→(QZ h a).n=(Qc B t).n):=by
 have da:Ql h.cs a=true:=H.bm.db ht;have ho:HOk h:=H.bm.okb;obtain ⟨y,c,h1,h2,h3,h4⟩:=ho.view da
 have hc:QZ h a=c:=by unfold QZ;rw [h1.look,h2];rfl
 rw [hc];rcases H.bm.cases ht with ⟨u,v,e1,e2⟩|⟨k,n,s,ar,ar',e1,e2,_⟩
 ·have e2:Q2 h a= .var v:=e2;have e1:QaL B t= .var u:=e1;have hk:=(Q6.1 e1).1;rw [h4] at e2;split at e2
  ·rename_i h0;rw [hk];exact ⟨h0,fun h=>absurd h Yg⟩
  ·cases e2
 ·have e2:Q2 h a= .node k n s ar':=e2;obtain ⟨a1,a2,a3,_⟩:=Qbt (B:=B) e1;rw [h4] at e2;split at e2
  ·cases e2
  ·cases e2
   refine ⟨a1.symm,fun hk=> ?_⟩;rw [a3];unfold ctl;rw [if_neg Ya]
theorem Qr0 {R:Tm→Int→Prop}:∀{T:Ts} {x:Int} {m:Nat},Al R T.tms (ups x m)→∀{i:Nat},i<T.length→R (T.at_ i) (x+(i:Nat))
 | .nil,x,m,_,i,hi=>by simp [Ts.length] at hi
 | .cons k n s ar r,x,0,h,i,hi=>by cases h
 | .cons k n s ar r,x,m+1,h,i,hi=>by
  cases h with
  |cons h1 h2=>
   cases i with
   |zero=>rw [show x+((0:Nat):Int)=x by omega];exact h1
   |succ i=>
    have:=Qr0 h2 (i:=i) (by simpa [Ts.length] using hi);rw [show x+((i+1:Nat):Int)=x+1+(i:Nat) by omega];exact this
theorem QeY {q f:Nat} {B:Bnd} {h:HH} {R:Tm→Int→Prop} (H:QfG q f B h R) {t:Tm} {a:Int} (ht:GR R h t a):
  (Qbc h a).s=t.s∧(Qbc h a).n.toNat=t.ar.length∧(Qbc h a).k=t.k∧((Qbc h a).k=1∨(Qbc h a).k=3)∧0≤(Qbc h a).n∧((Qbc h a).k=1→t.ar.length=0)∧(∀{i:Nat},i<t.ar.length→R (t.ar.at_ i) (a+1+(i:Nat)))∧hat h.cs a=some (Qbc h a):=by
 obtain ⟨hr,⟨c,hc,hk⟩,hne⟩:=ht;have ho:HOk h:=H.bm.okb
 have hgc:Qbc h a=c:=by unfold Qbc;rw [hc];rfl
 rw [hgc];have hv:Q2 h a= .node c.k (ctl c) c.s (ups (a+1) (QI c).toNat):=by rw [Qaj (Qa2 hc (by rintro ⟨h,_⟩;omega)) hc,if_neg Ya]
 have hg:=QO (Qam ho.gl hc);rcases H.bm.cases hr with ⟨u,v,e1,e2⟩|⟨k,n,s,ar,ar',e1,e2,hal⟩
 ·have e2:Q2 h a= .var v:=e2;rw [hv] at e2;cases e2
 ·have e2:Q2 h a= .node k n s ar':=e2;rw [hv] at e2;have e1:tvw (Qc B t)= .node k n s ar:=e1;rw [Q1 hne] at e1;unfold tvw at e1;rw [if_neg hne] at e1;injection e1 with p1 p2 p3 p4;injection e2 with q1 q2 q3 q4;rw [←p4,←q4] at hal;have hal: @Al Tm Int R t.ar.tms (ups (a+1) (QI c).toNat):=hal;have hl:t.ar.tms.length=(ups (a+1) (QI c).toNat).length:=hal.len;rw [Ts.tms_len,Qlr] at hl;refine ⟨q3.trans p3.symm,?_,q1.trans p1.symm,hk,?_,fun h1=> ?_,fun {i} hi=>Qr0 hal hi,hc⟩
  ·rw [hl];unfold QI;split
   ·rfl
   ·omega
  ·omega
  ·rw [hl];unfold QI;rw [if_neg Ya];rfl
theorem Qrz {q F:Nat} {s:SS} {x:XS} {R:Tm→Int→Prop} (M:Qtq q F s x R) {T:Ts} {a:Int} (h0:R (T.at_ 0) a) (h1:R (T.at_ 1) (a+1)) (hgo:(QhM T s).1=0→Inv (QhM T s).2):QqR q F (QhM T s) (QlX a x):=by
 obtain ⟨a1,a2⟩:=Qdv M.g h0;obtain ⟨b1,b2⟩:=Qdv M.g h1;unfold QhM at hgo⊢;unfold QlX;simp only at hgo⊢;rw [a1,b1];by_cases hk:(Qc s.B (T.at_ 0)).k≠2∨(Qc s.B (T.at_ 1)).k≠2
 ·rw [if_pos hk,if_pos hk];exact ⟨rfl,M.i.ev,fun h=>by cases h⟩
 rw [if_neg hk] at hgo⊢;rw [if_neg hk,a2 Ya,b2 Ya];by_cases hl:(Qc s.B (T.at_ 1)).n≤(Qc s.B (T.at_ 0)).n
 ·rw [if_pos hl,if_pos hl];exact Qe6 M.i
 ·rw [if_neg hl] at hgo⊢;rw [if_neg hl];exact ⟨rfl,M.i.ev,fun _=>⟨M.i,⟨R,M.g,M.c⟩,hgo rfl,M.cs,Nat.le_trans (Nat.le_add_right _ 400) M.ts⟩⟩
theorem Qs2 {h:HH} (hg:QG h=true) (n:Int) (hl:h.cs.length+1≤65536):Q8 h [⟨2,n,eS⟩]=(⟨h.cs++[⟨2,n,eS⟩].map (Q0 h.cs.length),h.tr⟩,h.cs.length,0)∧QG ⟨h.cs++[⟨2,n,eS⟩].map (Q0 h.cs.length),h.tr⟩=true∧Blk h [⟨2,n,eS⟩] ⟨h.cs++[⟨2,n,eS⟩].map (Q0 h.cs.length),h.tr⟩:=by
 have hk:Q9 [⟨2,n,eS⟩]=true:=by
  unfold Q9;simp only [Bool.and_eq_true,decide_eq_true_eq,QN];exact ⟨by show 1≤65536;omega,QkQ,trivial⟩
 have hX:=Qfp hg hk YaD;refine ⟨QlW hg hk YaD,hX,rfl,?_,fun i hi=> ?_⟩
 ·simp only [QG,Q9,Bool.and_eq_true] at hX;exact hX.1.2
 ·obtain rfl:i=0:=by simpa using hi
  have:=QeQ h [⟨2,n,eS⟩] 0 _ rfl;exact ⟨_,Qa2 (c:=⟨2,n,eS⟩) this (by rintro ⟨h,_⟩;exact absurd h (by show¬(2:Int)=0;decide))⟩
theorem Qto {q F:Nat} {s:SS} {x:XS} {R:Tm→Int→Prop} (M:Qtq q F s x R) (hcs:x.h.cs.length+1≤300*(x.goals+1)) {T:Ts} {a:Int} (h0:R (T.at_ 0) a) (h1:R (T.at_ 1) (a+1)) (h2:R (T.at_ 2) (a+2)) (hsl:s.B.length+10100*(mu s+1)≤1000000000) (g2:tgd (T.at_ 2)) (hgo:(QqZ T s).1=0→Inv (QqZ T s).2):
  QqR q F (QqZ T s) (Qtp a x):=by
 obtain ⟨a1,a2⟩:=Qdv M.g h0;obtain ⟨b1,b2⟩:=Qdv M.g h1;unfold QqZ at hgo⊢;unfold Qtp;simp only at hgo⊢;rw [a1,b1];by_cases hk:(Qc s.B (T.at_ 0)).k≠2∨(Qc s.B (T.at_ 1)).k≠2
 ·rw [if_pos hk,if_pos hk];exact ⟨rfl,M.i.ev,fun h=>by cases h⟩
 rw [if_neg hk] at hgo⊢;rw [if_neg hk,a2 Ya,b2 Ya];by_cases hl:(Qc s.B (T.at_ 0)).n+(Qc s.B (T.at_ 1)).n< -1099511627776∨1099511627776<(Qc s.B (T.at_ 0)).n+(Qc s.B (T.at_ 1)).n
 ·rw [if_pos hl,if_pos hl];exact ⟨rfl,M.i.ev,fun h=>by cases h⟩
 rw [if_neg hl] at hgo⊢;rw [if_neg hl];generalize (Qc s.B (T.at_ 0)).n+(Qc s.B (T.at_ 1)).n=n at*;have hfu:=M.i.fuel;have hf150:=M.i.f150;obtain ⟨l1,l2,l3⟩:=Qs2 M.i.gd n Ya;rw [l1];have hG:=M.g.num l3
 have gn:tgd ⟨2,n,⟨#[]⟩,.nil⟩:=by
  refine ⟨?_,by simp [Ts.nodes]⟩;simp only [Ts.good,Bool.and_eq_true,and_true];unfold Qai;rw [if_neg Yg,if_neg Yg,if_pos rfl];simp only [Bool.and_eq_true,decide_eq_true_eq];exact ⟨⟨⟨by omega,by omega⟩,Q7 []⟩,rfl⟩
 have hbk:=Bk.load M.i.ho l3
 have M':Qtq q F s (x.setH ⟨x.h.cs++[⟨2,n,eS⟩].map (Q0 x.h.cs.length),x.h.tr⟩) (fun t a=>R t a∨(t=⟨2,n,⟨#[]⟩,.nil⟩∧a=x.h.cs.length)):=by
  refine ⟨⟨M.i.ev,M.i.fuel,M.i.f150,M.i.q8,?_,M.i.inv,l2,hG.bm.okb,M.i.csz,M.i.lsz,M.i.lnx⟩,hG,M.c.mono fun t a h=>⟨.inl h.1,Dr.up hG.bm.okb hbk h.2.1,h.2.2⟩,?_,M.ts⟩
  ·have:=QW.up (X:=[]) (h':=⟨x.h.cs++[⟨2,n,eS⟩].map (Q0 x.h.cs.length),x.h.tr⟩) (show∀a∈x.h.tr,0≤a from M.i.ho.nn) hbk M.i.ch
   rwa [List.nil_append] at this
  ·show (x.h.cs++_).length≤300*(x.goals+1);simp;omega
 exact QkX M' (.inl h2) (.inr ⟨rfl,rfl⟩) hsl g2 gn hgo
theorem Qqq {q F:Nat} {s:SS} {x:XS} {R:Tm→Int→Prop} (M:Qtq q F s x R) (hcs:x.h.cs.length+1≤300*(x.goals+1)) {g:Gl} {l:XL} (hg:GR R x.h g.1 l.g) (hlo:l.o=g.2) (hgd:tgd g.1) (hb:QM g.1.s.toList g.1.ar.length=true) (hsl:s.B.length+10100*(mu s+1)≤1000000000) (hgo:(Qcq g s).1=0→Inv (Qcq g s).2):
  QqR q F (Qcq g s) (Qe3 l x):=by
 obtain ⟨c1,c2,c3,c4,c5,c6,c7,c8⟩:=QeY M.g hg;have hd:=Qac _ hgd;have hchl:=M.i.ch.len;unfold Qcq at hgo⊢;unfold Qe3;rw [c1];unfold QM at hb;have hb0:=hb;by_cases h1:g.1.s.toList=[33]
 ·rw [if_pos h1] at hgo ⊢;rw [if_pos h1];have hInv:=hgo rfl;refine ⟨rfl,M.i.ev,fun _=>⟨⟨M.i.ev,M.i.fuel,M.i.f150,M.i.q8,?_,hInv.c,M.i.gd,M.i.ho,fun d hd=>M.i.csz d (List.mem_of_mem_drop hd),?_,M.i.lnx⟩,⟨R,M.g,M.c⟩,hInv,M.cs,Nat.le_trans (Nat.le_add_right _ 400) M.ts⟩⟩
  ·show QW q s.fresh x.ln s.B x.h (s.ch.drop (s.ch.length-g.2)) (x.ch.drop (x.ch.length-l.o));rw [hlo,←hchl]
   have key:∀(k:Nat) (cs:List Ch) (ds:List XC) (B:Bnd) (h:HH),HOk h→QW q s.fresh x.ln B h cs ds→QW q s.fresh x.ln B h (cs.drop k) (ds.drop k):=by
    intro k
    induction k with
    |zero=>intro cs ds B h _ hc;simpa using hc
    |succ k ih=>
     intro cs ds B h ho hc
     cases cs with
     |nil=>
      cases ds with
      |nil=>exact hc
      |cons _ _=>exact hc.elim
     |cons c cs=>
      cases ds with
      |nil=>exact hc.elim
      |cons d ds=>
       obtain ⟨R',g',b1,b2,b3,b4,b5,b6,b7⟩:=hc;have:=ih cs ds _ _ b3.bm.okb b7;simp only [List.drop_succ_cons];have e:B=B.take (B.length-c.bound)++Qaz B c.bound:=(List.take_append_drop _ _).symm;rw [e];exact QW.up ho.nn b1 this
   exact key _ _ _ _ _ M.i.ho M.i.ch
  ·show x.ln.length+5*mu ⟨s.B,s.fresh,s.fuel,s.goals,s.ch.drop (s.ch.length-g.2),s.ev⟩≤30000;have h1:=Qgk s.ch (s.ch.length-g.2);have h2:=M.i.lsz;unfold mu at*;simp only;omega
 rw [if_neg h1] at hgo⊢;rw [if_neg h1];by_cases h2:g.1.s.toList=[116,114,117,101]
 ·rw [if_pos h2] at hgo⊢;rw [if_pos h2];exact ⟨rfl,M.i.ev,fun _=>⟨M.i,⟨R,M.g,M.c⟩,hgo rfl,M.cs,Nat.le_trans (Nat.le_add_right _ 400) M.ts⟩⟩
 rw [if_neg h2] at hgo⊢;rw [if_neg h2];have at0:∀{i:Nat},i<g.1.ar.length→R (g.1.ar.at_ i) (l.g+1+(i:Nat)):=fun hi=>c7 hi;by_cases h3:g.1.s.toList=[101,113]
 ·rw [if_pos h3] at hgo⊢;rw [if_pos h3];rw [h3] at hb0;have hl:g.1.ar.length=2:=by simpa using hb0
  have r0:=at0 (i:=0) Ya;have r1:=at0 (i:=1) Ya;rw [show l.g+1+((0:Nat):Int)=l.g+1 by omega] at r0;rw [show l.g+1+((1:Nat):Int)=l.g+1+1 by omega] at r1;exact QkX M r0 r1 hsl (hd _ (Ts.at_mem Ya)) (hd _ (Ts.at_mem Ya)) hgo
 rw [if_neg h3] at hgo⊢;rw [if_neg h3];by_cases h4:g.1.s.toList=[108,101,115,115]
 ·rw [if_pos h4] at hgo⊢;rw [if_pos h4];rw [h4] at hb0;have hl:g.1.ar.length=2:=by simpa using hb0
  have r0:=at0 (i:=0) Ya;have r1:=at0 (i:=1) Ya;rw [show l.g+1+((0:Nat):Int)=l.g+1 by omega] at r0;rw [show l.g+1+((1:Nat):Int)=l.g+1+1 by omega] at r1;exact Qrz M r0 r1 hgo
 rw [if_neg h4] at hgo⊢;rw [if_neg h4];by_cases h5:g.1.s.toList=[97,100,100]
 ·rw [if_pos h5] at hgo⊢;rw [if_pos h5];rw [h5] at hb0;have hl:g.1.ar.length=3:=by simpa using hb0
  have r0:=at0 (i:=0) Ya;have r1:=at0 (i:=1) Ya;have r2:=at0 (i:=2) Ya;rw [show l.g+1+((0:Nat):Int)=l.g+1 by omega] at r0;rw [show l.g+1+((1:Nat):Int)=l.g+1+1 by omega] at r1;rw [show l.g+1+((2:Nat):Int)=l.g+1+2 by omega] at r2;exact Qto M hcs r0 r1 r2 hsl (hd _ (Ts.at_mem Ya)) hgo
 rw [if_neg h5] at hgo⊢;rw [if_neg h5];exact Qe6 M.i
theorem QpW {X:Type} {g:X→Nat→Option (Tm×Nat)} (hg:∀x m p,g x m=some p→p.2≤m):∀(l:List X) (m:Nat) (p:Ts×Nat),Qcm g l m=some p→p.2≤m
 |[],m,p,h=>by simp only [Qcm,Option.some.injEq] at h;subst h;exact Nat.le_refl _
 |x::r,m,p,h=>by
  simp only [Qcm] at h
  cases h1:g x m with
  |none=>rw [h1] at h;cases h
  |some q=>
   rw [h1] at h;obtain ⟨t,l'⟩:=q;dsimp only at h;have e1:=hg x m _ h1
   cases h2:Qcm g r l' with
   |none=>rw [h2] at h;cases h
   |some z=>
    rw [h2] at h;have e2:=QpW hg r l' z h2;obtain ⟨T,l''⟩:=z;simp only [Option.some.injEq] at h;subst h;dsimp only at*;omega
theorem QpX {X:Type} {g g':X→Nat→Option (Tm×Nat)} {n:Nat} (hle:∀x m p,g x m=some p→p.2≤m) (hg:∀x m,m≤n→g x m=g' x m):∀(l:List X) (m:Nat),m≤n→Qcm g l m=Qcm g' l m
 |[],m,_=>rfl
 |x::r,m,hm=>by
  simp only [Qcm];rw [←hg x m hm]
  cases h1:g x m with
  |none=>rfl
  |some q=>
   have e1:=hle x m _ h1;obtain ⟨t,l'⟩:=q;dsimp only at e1⊢;rw [QpX hle hg r l' Ya]
theorem QqD {A:Sy} {σ:A.S}:∀(f:Nat) (x:A.X) (l:Nat) (p:Tm×Nat),QcE A σ f x l=some p→p.2<l
 |0,x,l,p,h=>by cases h
 |f+1,x,l,p,h=>by
  by_cases hl:l=0
  ·subst hl;rw [Qlc] at h;cases h
  cases hv:A.view σ x with
  |var u=>rw [Qgn hl hv] at h;cases h;show l-1<l;omega
  |node k n s ar=>
   rw [Qe5 hl hv] at h
   cases h2:Qcm (QcE A σ f) ar (l-1) with
   |none=>rw [h2] at h;cases h
   |some z=>
    rw [h2] at h;have:=QpW (fun x m p hp=>Nat.le_of_lt (QqD f x m p hp)) ar (l-1) z h2;simp only [Option.map_some,Option.some.injEq] at h;subst h;show z.2<l;omega
theorem Qnz {A:Sy} {σ:A.S}:∀(f g:Nat) (x:A.X) (l:Nat),l≤f→l≤g→QcE A σ f x l=QcE A σ g x l
 |f,g,x,l,hf,hg=>by
  by_cases hl:l=0
  ·subst hl;cases f<;>cases g<;>simp [QcE]
  obtain ⟨f,rfl⟩:∃f',f=f'+1:=⟨f-1,by omega⟩
  obtain ⟨g,rfl⟩:∃g',g=g'+1:=⟨g-1,by omega⟩
  cases hv:A.view σ x with
  |var u=>rw [Qgn hl hv,Qgn hl hv]
  |node k n s ar=>
   rw [Qe5 hl hv,Qe5 hl hv,QpX (n:=l-1) (fun x m p hp=>Nat.le_of_lt (QqD f x m p hp)) (fun y m hm=>Qnz f g y m Ya Ya) ar (l-1) (Nat.le_refl _)]
 termination_by f=>f
theorem Qq8 {h:HH} (hg:QG h=true) (ho:HOk h) {a:Int} (ha:Ql h.cs a=true) {l:Nat} (hl:l≤200):Qbb h a (l:Nat)=match Qhw h 201 a l with
  |none=>(Qd5,0,3)
  |some p=>(p.1,l-p.2,0):=by
 unfold Qbb;rw [if_neg YR,if_neg (by rw [ha];decide)]
 have e:Qi5 (l:Nat)=l:=by unfold Qi5;omega
 rw [e,Qr2 ho l a l ha,show Qhw h l a l=Qhw h 201 a l from Qnz (A:=Qeu) l 201 a l (Nat.le_refl _) Ya];cases Qhw h 201 a l<;>rfl
theorem QhT {q f:Nat} {B:Bnd} {h:HH} {R:Tm→Int→Prop} (H:QfG q f B h R) (hB:∀x∈B,tgd x.2) (hg:QG h=true) (hq:q≤8):∀(m v l:Nat),v+m≤q→l≤200→
  Qtx (fun (p:Ts×Nat) (r:Ts×Int)=>(p.2:Int)=r.2∧TsR (Bm.rho Qet Qeu R B h) p.1 r.1) (QbL B m v l) (Qb3 h m v (l:Nat))
 |0,v,l,_,_=>⟨rfl,.nil⟩
 | m + 1, v, l, hv, hl => by
  have hr:=H.qv v Ya;have da:Ql h.cs (v:Nat)=true:=H.bm.db hr;simp only [QbL,Qb3];rw [QqE hB 201 _ l (QsK Ya),Qq8 hg H.bm.okb da hl];have h1:Qtx (TmR (Bm.rho Qet Qeu R B h)) (QcE Qet B 201 ⟨0,(v:Nat),⟨#[]⟩,.nil⟩ l) (Qhw h 201 (v:Nat) l):=Qmi H.bm (fun {x k n s ar} hx _=>(Qbt (B:=B) hx).2.1) 201 ⟨0,(v:Nat),⟨#[]⟩,.nil⟩ ((v:Nat):Int) l hr
  cases e1:QcE Qet B 201 ⟨0,(v:Nat),⟨#[]⟩,.nil⟩ l with
  |none=>
   cases e2:Qhw h 201 (v:Nat) l with
   |none=>dsimp only;rw [if_pos (by show (3:Int)≠0;decide)];trivial
   |some p=>rw [e1,e2] at h1;exact h1.elim
  |some p=>
   cases e2:Qhw h 201 (v:Nat) l with
   |none=>rw [e1,e2] at h1;exact h1.elim
   |some r=>
    rw [e1,e2] at h1;have hlt:=QqD (A:=Qeu) 201 ((v:Nat):Int) l r e2;obtain ⟨p1,p2⟩:=p;obtain ⟨r1,r2⟩:=r;obtain ⟨rfl,h3⟩:p2=r2∧_:=h1;dsimp only at hlt⊢;have h4:=QhT H hB hg hq m (v+1) p2 Ya Ya;rw [if_neg Yae,show ((l:Nat):Int)-((l-p2:Nat):Int)=(p2:Nat) by omega]
    cases e3:QbL B m (v+1) p2 with
    |none=>
     cases e4:Qb3 h m (v+1) (p2:Nat) with
     |none=>trivial
     |some q=>rw [e3,e4] at h4;exact h4.elim
    |some p'=>
     cases e4:Qb3 h m (v+1) (p2:Nat) with
     |none=>rw [e3,e4] at h4;exact h4.elim
     |some q'=>
      rw [e3,e4] at h4;exact ⟨h4.1,h3.put h4.2⟩
theorem QoF {q F:Nat} {s:SS} {x:XS} (H:QhD q F s x):QqR q F (QcC q s) (QcB q x):=by
 obtain ⟨R,hG,hC⟩:=H.cur;have hv:=QhT hG H.i.inv.gb H.i.gd H.i.q8 q 0 200 Ya Ya;unfold QcC QcB;rw [show ((200:Nat):Int)=200 from rfl] at hv
 cases e1:QbL s.B q 0 200 with
 |none=>
  cases e2:Qb3 x.h q 0 200 with
  |some y=>rw [e1,e2] at hv;exact hv.elim
  |none=>exact ⟨rfl,H.i.ev,fun h=>by cases h⟩
 |some y=>
  cases e2:Qb3 x.h q 0 200 with
  |none=>rw [e1,e2] at hv;exact hv.elim
  |some z=>
   obtain ⟨T,l⟩:=y;obtain ⟨U,l'⟩:=z;rw [e1,e2] at hv;have ht:U.tidy=T.tidy:=(QmA (fun u v u' v' a b=>hG.bm.inj a b) hv.2 [] [] .nil).1.symm;dsimp only
   have hev:(x.tell U).ev=s.ev++[T.tidy]:=by show x.ev++[U.tidy]=_;rw [ht,H.i.ev]
   have hlen:x.ev.length+1=(s.ev++[T.tidy]).length:=by rw [H.i.ev];simp
   rw [hlen];by_cases h12:(s.ev++[T.tidy]).length=12
   ·rw [if_pos h12,if_pos h12];exact ⟨rfl,hev,fun h=>by cases h⟩
   ·rw [if_neg h12,if_neg h12];exact Qe6 ⟨hev,H.i.fuel,H.i.f150,H.i.q8,H.i.ch,⟨H.i.inv.bok,H.i.inv.gb,H.i.inv.ch,H.i.inv.fr,H.i.inv.bl⟩,H.i.gd,H.i.ho,H.i.csz,H.i.lsz,H.i.lnx⟩
theorem Qtc {q f:Nat} {B:Bnd} {h:HH} {R:Tm→Int→Prop} (H:QfG q f B h R) {t:Tm} {a:Int} (ht:GR R h t a) (P:List Cl) (hP:∀c∈P,cB c=true):P.filter (fun c=>decide (Qhi c=Qbc h a))=P.filter (QbX t):=by
 obtain ⟨c1,c2,c3,c4,c5,c6,_,c8⟩:=QeY H ht;have hgc:=QO (Qam H.bm.okb.gl c8);refine List.filter_congr fun c hc=> ?_;obtain ⟨_,_,_,_,h4⟩:=QfV (hP c hc);simp only [gB,Qfx,Bool.and_eq_true,Bool.or_eq_true,decide_eq_true_eq] at h4;obtain ⟨hn,_,_⟩:=QbI h4.1.2;unfold QbX;rw [←c1,←c2];generalize Qbc h a=g at*;obtain ⟨gk,gn,gs⟩:=g;dsimp only at*
 have key:Qhi c=⟨gk,gn,gs⟩↔c.s=gs∧c.hd.length=gn.toNat:=by
  unfold Qhi Qc3;rcases QdN hn with ⟨k0,_⟩|⟨k0,h0,h1,h2⟩|⟨k0,_⟩|⟨k0,h0,h1,h2,h3⟩
  ·rcases h4.1.1 with h|h<;>omega
  ·rw [if_neg Ya,if_neg Ya,if_neg Ya];simp only [HC.mk.injEq];constructor
   ·rintro ⟨e1,e2,e3⟩;exact ⟨e3,by omega⟩
   ·rintro ⟨e1,e2⟩;rcases c4 with e|e
    ·exact ⟨e.symm,by omega,e1⟩
    ·omega
  ·rcases h4.1.1 with h|h<;>omega
  ·rw [if_pos k0];simp only [HC.mk.injEq];constructor
   ·rintro ⟨e1,e2,e3⟩;exact ⟨e3,by omega⟩
   ·rintro ⟨e1,e2⟩;rcases c4 with e|e
    ·have:=c6 e;omega
    ·exact ⟨e.symm,by omega,e1⟩
 by_cases hh:Qhi c=⟨gk,gn,gs⟩
 ·obtain ⟨e1,e2⟩:=key.1 hh;rw [decide_eq_true hh,decide_eq_true e1,decide_eq_true e2];rfl
 ·rw [decide_eq_false hh];by_cases e1:c.s=gs
  ·rw [decide_eq_true e1,decide_eq_false fun e2=>hh (key.2 ⟨e1,e2⟩)];rfl
  ·rw [decide_eq_false e1];rfl
theorem QrS {q F:Nat} {P:List Cl} {s:SS} {x:XS} {R:Tm→Int→Prop} {g:Gl} {a:Nat} (M:Qtq q F s x R) (hcs:x.h.cs.length≤300*x.goals) (hP:∀c∈P,cB c=true) (hC:Qag (GR R x.h) x.ln (a:Nat) (g::s.goals))
  (hpush:∀c cs,P.filter (QbX g.1)=c::cs→Qd4 ⟨s.B,s.fresh,s.fuel,s.goals,⟨g,s.goals,c::cs,s.B.length⟩::s.ch,s.ev⟩∧x.ln.length+5*mu ⟨s.B,s.fresh,s.fuel,s.goals,⟨g,s.goals,c::cs,s.B.length⟩::s.ch,s.ev⟩≤30000):
  QqR q F (match P.filter (QbX g.1) with
   |[]=>(5,s)
   |c::cs=>QV ⟨s.B,s.fresh,s.fuel,s.goals,⟨g,s.goals,c::cs,s.B.length⟩::s.ch,s.ev⟩) (Qju P a x):=by
 obtain ⟨l,k1,k2,k3,k4,k5,k6⟩:=hC.first;unfold Qju;rw [k2,Qtc M.g k3 P hP]
 cases hf:P.filter (QbX g.1) with
 |nil=>exact ⟨rfl,M.i.ev,fun h=>by cases h⟩
 |cons c cs=>
  obtain ⟨p1,p2⟩:=hpush c cs hf;dsimp only
  have hub:Qaz s.B s.B.length=s.B:=by unfold Qaz;rw [Nat.sub_self];rfl
  refine Qmg (cs:=s.ch) (fun n s x h1 h2 h3 h4=>QlG _ _ n s x h1 h2 h3 h4) (bd:=s.B.length) (cg:=g) (next:=s.goals) (c::cs) _ _ x rfl rfl p1 M.i.ev M.i.fuel M.i.f150 M.i.q8 M.i.gd M.i.csz p2 M.i.lnx (Nat.le_refl _) ?_ ?_ rfl rfl hcs M.ts (Nat.lt_succ_self _)
  ·dsimp only;rw [hub];exact M.i.ch
  ·dsimp only;rw [hub];exact ⟨R,M.g,hC⟩
structure Sn (L:List XL) (e:Int) (p:List Bool×List Nat):Prop where
 len:p.1.length=L.length
 mem:∀k:Nat,p.1[k]?=some true↔k∈p.2
 lt:∀k∈p.2,k<L.length
 clo:∀k∈p.2,(lnk L k).nx= -1∨(lnk L k).nx.toNat∈p.2∨(lnk L k).nx=e
theorem Sn.any {L:List XL} {p:List Bool×List Nat} (h:Sn L (-1) p) (e:Int):Sn L e p:=⟨h.len,h.mem,h.lt,fun k hk=>by
 rcases h.clo k hk with h|h|h
 ·exact .inl h
 ·exact .inr (.inl h)
 ·exact .inl h⟩
theorem Qjt {L:List XL} (hL:∀(i:Nat) (l:XL),L[i]?=some l→-1≤l.nx∧l.nx<(i:Int)):∀(f:Nat) (i:Int) (p:List Bool×List Nat), -1≤i→i<L.length→i<(f:Int)→Sn L i p→
  Sn L (-1) (Qav L f i p)∧(∀k∈p.2,k∈(Qav L f i p).2)∧(i= -1∨i.toNat∈(Qav L f i p).2)
 |0,i,p,h0,h1,hf,hs=>by
  obtain rfl:i= -1:=by omega
  exact ⟨hs,fun k hk=>hk,.inl rfl⟩
 | f + 1, i, p, h0, h1, hf, hs => by
  simp only [Qav];by_cases hi:i= -1
  ·rw [if_pos hi];subst hi;exact ⟨hs,fun k hk=>hk,.inl rfl⟩
  rw [if_neg hi];by_cases hse:p.1[i.toNat]?=some true
  ·rw [if_pos hse];have hm:=(hs.mem _).1 hse;refine ⟨⟨hs.len,hs.mem,hs.lt,fun k hk=> ?_⟩,fun k hk=>hk,.inr hm⟩;rcases hs.clo k hk with h|h|h
   ·exact .inl h
   ·exact .inr (.inl h)
   ·exact .inr (.inl (by rw [h];exact hm))
  rw [if_neg hse];have hil:i.toNat<L.length:=by omega
  obtain ⟨n0,n1⟩:=hL i.toNat _ (List.getElem?_eq_getElem hil);have hlk:lnk L i.toNat=L[i.toNat]:=Qir (List.getElem?_eq_getElem hil)
  have hs':Sn L (lnk L i.toNat).nx (p.1.set i.toNat true,p.2++[i.toNat]):=by
   refine ⟨by simp [hs.len],fun k=> ?_,fun k hk=> ?_,fun k hk=> ?_⟩
   ·rw [List.getElem?_set];by_cases e:i.toNat=k
    ·subst e;rw [if_pos rfl,if_pos (by rw [hs.len];exact hil)];simp
    ·rw [if_neg e,hs.mem];simp only [List.mem_append,List.mem_singleton];constructor
     ·exact .inl
     ·rintro (h|h)
      ·exact h
      ·exact absurd h.symm e
   ·rcases List.mem_append.1 hk with hk|hk
    ·exact hs.lt k hk
    ·rw [List.mem_singleton.1 hk];exact hil
   ·rcases List.mem_append.1 hk with hk|hk
    ·rcases hs.clo k hk with h|h|h
     ·exact .inl h
     ·exact .inr (.inl (List.mem_append_left _ h))
     ·exact .inr (.inl (by rw [h];exact List.mem_append_right _ (List.mem_singleton.2 rfl)))
    ·rw [List.mem_singleton.1 hk];exact .inr (.inr rfl)
  obtain ⟨a1,a2,a3⟩:=Qjt hL f (lnk L i.toNat).nx _ (by rw [hlk];exact n0) (by rw [hlk];omega) (by rw [hlk];omega) hs';exact ⟨a1,fun k hk=>a2 k (List.mem_append_left _ hk),.inr (a2 _ (List.mem_append_right _ (List.mem_singleton.2 rfl)))⟩
theorem Qk2 {L:List XL} (hL:∀(i:Nat) (l:XL),L[i]?=some l→-1≤l.nx∧l.nx<(i:Int)):∀(C:List XC) (p:List Bool×List Nat),(∀c∈C,c.at_<L.length)→Sn L (-1) p→
  Sn L (-1) (QbP L C p)∧(∀k∈p.2,k∈(QbP L C p).2)∧∀c∈C,c.at_∈(QbP L C p).2
 |[],p,_,hs=>⟨hs,fun k hk=>hk,fun c hc=>by cases hc⟩
 |c::r,p,hC,hs=>by
  have hc:=hC c (List.mem_cons_self ..);obtain ⟨a1,a2,a3⟩:=Qjt hL (L.length+1) (c.at_:Nat) p Ya Ya Ya (hs.any _);obtain ⟨b1,b2,b3⟩:=Qk2 hL r _ (fun c hc=>hC c (List.mem_cons_of_mem _ hc)) a1;refine ⟨b1,fun k hk=>b2 k (a2 k hk),fun d hd=> ?_⟩;rcases List.mem_cons.1 hd with rfl|hd
  ·rcases a3 with h|h
   ·omega
   ·rw [Int.toNat_natCast] at h;exact b2 _ h
  ·exact b3 d hd
theorem QgE (f:Nat→Int):∀(I:List Nat) (L:List XL) (k:Nat),(Qc8 I (I.map f) L)[k]?=if k∈I then (L[k]?).map (fun l=>⟨f k,l.o,l.nx⟩) else L[k]?
 |[],L,k=>by simp [Qc8]
 |i::r,L,k=>by
  simp only [List.map_cons,Qc8];rw [QgE f r (QoJ L i (f i)) k]
  have e:(QoJ L i (f i))[k]?=if i=k then (L[k]?).map (fun l=>⟨f i,l.o,l.nx⟩) else L[k]?:=by
   unfold QoJ;rw [List.getElem?_modify];split<;>simp
  rw [e];by_cases hk:k∈r
  ·rw [if_pos hk,if_pos (List.mem_cons_of_mem _ hk)];by_cases he:i=k
   ·subst he;rw [if_pos rfl,Option.map_map];rfl
   ·rw [if_neg he]
  ·rw [if_neg hk];by_cases he:i=k
   ·subst he;rw [if_pos rfl,if_pos (List.mem_cons_self ..)]
   ·rw [if_neg he,if_neg (by rintro h;rcases List.mem_cons.1 h with h|h;exact he h.symm;exact hk h)]
theorem QgF (f g:XC→Int):∀C:List XC,Qrf C (C.map f) (C.map g)=C.map fun c=>⟨c.at_,c.cls,(f c).toNat,(g c).toNat⟩
 |[]=>rfl
 |c::r=>by simp only [List.map_cons,Qrf,QgF f g r]
theorem Sn.start (L:List XL) (e:Int):Sn L e (List.replicate L.length false,[]):=by
 refine ⟨by simp,fun k=> ?_,fun k hk=>(by cases hk),fun k hk=>(by cases hk)⟩;constructor
 ·intro h;rw [List.getElem?_replicate] at h;split at h<;>cases h
 ·intro h;cases h
structure Qt3 (L:List XL) (I:List Nat):Prop where
 lt:∀k∈I,k<L.length
 clo:∀k∈I,(lnk L k).nx= -1∨(lnk L k).nx.toNat∈I
theorem Qp6 {x:XS} (hL:∀(i:Nat) (l:XL),x.ln[i]?=some l→-1≤l.nx∧l.nx<(i:Int)) (h0: -1≤x.first) (h1:x.first<x.ln.length) (hC:∀c∈x.ch,c.at_<x.ln.length):
  Qt3 x.ln (QbH x)∧(x.first= -1∨x.first.toNat∈QbH x)∧∀c∈x.ch,c.at_∈QbH x:=by
 obtain ⟨a1,a2,a3⟩:=Qjt hL (x.ln.length+1) x.first (List.replicate x.ln.length false,[]) h0 h1 Ya (Sn.start _ _);obtain ⟨b1,b2,b3⟩:=Qk2 hL x.ch.reverse _ (fun c hc=>hC c (List.mem_reverse.1 hc)) a1;refine ⟨⟨b1.lt,fun k hk=> ?_⟩,a3.imp id fun h=>b2 _ h,fun c hc=>b3 c (List.mem_reverse.2 hc)⟩;rcases b1.clo k hk with h|h|h
 ·exact .inl h
 ·exact .inr h
 ·exact .inl h
theorem Qag.coll {R R':Tm→Int→Prop} {L:List XL} {I:List Nat} {f:Nat→Int} (hI:Qt3 L I) (hR:∀k∈I,∀t,R t (lnk L k).g→R' t (f k)):∀{i:Int} {G:List Gl},Qag R L i G→(i= -1∨i.toNat∈I)→Qag R' (Qc8 I (I.map f) L) i G
 |_,[],hc,_=>hc
 |_,g::r,⟨k,l,h1,h2,h3,h4,h5,h6⟩,hi=>by
  have hk:k∈I:=by
   rcases hi with h|h
   ·omega
   ·rw [h1,Int.toNat_natCast] at h;exact h
  have hl:=Qir h2;refine ⟨k,⟨f k,l.o,l.nx⟩,h1,by rw [QgE,if_pos hk,h2];rfl,hR k hk _ (by rw [hl];exact h3),h4,h5,Qag.coll hI hR h6 ?_⟩;have:=hI.clo k hk
  rwa [hl] at this
theorem Qag.all {R:Tm→Int→Prop} {L:List XL} {I:List Nat} (hI:Qt3 L I):∀{i:Int} {G:List Gl},Qag R L i G→-1≤i∧i<L.length
 |_,[],hc=>by
  have hc:_=(-1:Int):=hc;subst hc;omega
 |_,g::r,⟨k,l,h1,h2,_⟩=>by
  subst h1
  have:k<L.length:=by
   rcases Nat.lt_or_ge k L.length with h|h
   ·exact h
   ·rw [List.getElem?_eq_none h] at h2;cases h2
  omega
theorem Qag.bd {R:Tm→Int→Prop} {L:List XL} {i:Int} {G:List Gl} (h:Qag R L i G): -1≤i∧i<L.length:=h.all (I:=[]) ⟨fun k hk=>(by cases hk),fun k hk=>(by cases hk)⟩
theorem QW.at_lt {q f:Nat} {L:List XL}:∀{B:Bnd} {h:HH} {cs:List Ch} {ds:List XC},QW q f L B h cs ds→∀d∈ds,d.at_<L.length
 |_,_,[],[],_,d,hd=>by cases hd
 |_,_,c::cs,e::ds,⟨R,g,_,_,_,h4,_,_,h6⟩,d,hd=>by
  rcases List.mem_cons.1 hd with rfl|hd
  ·have:=h4.bd;omega
  ·exact h6.at_lt d hd
theorem Qpw (M:List Bool) (n:Nat):rk M n≤n:=by
 unfold rk;exact Nat.le_trans List.count_le_length (by rw [List.length_take];omega)
theorem QmO {M:List Bool} {q:Nat}:(∀v,v<q→M[v]?=some true)→∀v,v≤q→rk M v=v:=by
 intro h v
 induction v with
 |zero=>intro _;exact QlF M
 |succ v ih=>
  intro hv;rw [QgZ (h v Ya),ih Ya];rfl
section
variable {h:HH} {Q:List Int} {M:List Bool}
theorem QW.coll {q f:Nat} {L:List XL} {I:List Nat} {rb:Nat→Nat} (hI:Qt3 L I) (hq:∀v,v<q→M[v]?=some true):∀{B:Bnd} {h:HH} {Q:List Int} {cs:List Ch} {ds:List XC} {M':List Bool},Cx h Q M'→HOk h→(∀a:Int,0≤a→a<h.cs.length→(M'[a.toNat]?=M[a.toNat]?)∧rkI M' a=rkI M a)→(∀n,n≤h.cs.length→rk M' n=rk M n)→(∀n,n≤h.tr.length→rk (h.tr.map (Qq M')) n=rb n)→
  (∀k∈I,∀a,a=(lnk L k).g→Ql h.cs a=true→M[a.toNat]?=some true)→(∀d∈ds,d.at_∈I)→QW q f L B h cs ds→
  QW q f (Qc8 I (I.map fun k=>rkI M (lnk L k).g) L) B (Qda M' h) cs (ds.map fun d=>⟨d.at_,d.cls,rk M d.cells,rb d.bound⟩)
 |_,_,_,[],[],_,_,_,_,_,_,_,_,_=>trivial
 |B,h,Q,c::cs,d::ds,M',C,ho,hM,hM2,hM5,hg,hat,⟨R,g,b1,b2,b3,b4,b5,b6,b7⟩=>by
  have S:=Qsg C ho b1 b2;have bc:=Bk.coll C ho b1 b2;obtain ⟨l1,l2⟩:=b1.len;have ht:=b1.ht;have hn:=b1.hn
  have hM3:∀a:Int,0≤a→a<g.cs.length→((M'.take d.cells)[a.toNat]?=M[a.toNat]?)∧rkI (M'.take d.cells) a=rkI M a:=fun a a0 a1=>by
   obtain ⟨e1,e2⟩:=hM a a0 Ya;rw [List.getElem?_take,if_pos Ya,Qf8 Ya];exact ⟨e1,e2⟩
  have hM4:∀n,n≤g.cs.length→rk (M'.take d.cells) n=rk M n:=fun n hn=>by rw [QiY Ya];exact hM2 n Ya
  have root:∀a:Int,Ql g.cs a=true→M[a.toNat]?=some true→Rc g.cs (QgY M' d.cells) a:=fun a ha hm=>by
   obtain ⟨a0,a1⟩:=Qm.1 ha;exact .root (Qeh.2 ⟨a0,by omega,by rw [(hM a a0 Ya).1];exact hm⟩) ha
  have hg3:=b3.coll S (fun v hv=>by
   have da:Ql g.cs ((v:Nat):Int)=true:=b3.bm.db (b3.qv v hv);obtain ⟨a0,a1⟩:=Qm.1 da;refine ⟨root _ da (by rw [Int.toNat_natCast];exact hq v hv),?_⟩;rw [hM4 v Ya]
   exact QmO hq v Ya)
  have hgtr:g.tr=h.tr.take d.bound:=by rw [b1.eq]
  have hM6:∀n,n≤g.tr.length→rk (g.tr.map (Qq (M'.take d.cells))) n=rb n:=fun n hn'=>by
   rw [←hM5 n Ya,Qdq,Qdq];have e2:g.tr.take n=h.tr.take n:=by rw [hgtr,List.take_take,Nat.min_eq_left Ya]
   rw [e2];congr 1;refine List.filter_congr fun a ha=> ?_;obtain ⟨x,hx,_⟩:=b3.bm.okb.pos (a:=a) (by rw [hgtr];exact (List.take_sublist_take_left Ya).subset ha);obtain ⟨a0,a1,_⟩:=Qa7.1 hx;unfold Qq;rw [List.getElem?_take,if_pos Ya]
  simp only [List.map_cons];refine ⟨_,Qda (M'.take d.cells) g,by rw [←hM2 d.cells Ya,←hM5 d.bound hn];exact bc,S.kept_good,hg3,?_,b5,b6,?_⟩
  ·refine Qag.coll hI (fun k hk t ht=> ?_) b4 (.inr (by rw [Int.toNat_natCast];exact hat d (List.mem_cons_self ..)));have da:Ql g.cs (lnk L k).g=true:=b3.bm.db ht.1;obtain ⟨a0,a1⟩:=Qm.1 da;have hm:=hg k hk _ rfl (Qm.2 ⟨a0,by omega⟩);have:=GR.coll S (root _ da hm) ht
   rwa [(hM3 _ a0 a1).2] at this
  ·have ih:=QW.coll hI hq (M':=M'.take d.cells) S b3.bm.okb hM3 hM4 hM6 (fun k hk a e ha=>hg k hk a e (by
    obtain ⟨a0,a1⟩:=Qm.1 ha
    exact Qm.2 ⟨a0,by omega⟩)) (fun d hd=>hat d (List.mem_cons_of_mem _ hd)) b7
   exact ih
end
set_option maxRecDepth 8000
theorem Qe1 {L:List XL} {P:Int→Prop} {Qk:Nat→Prop} (hP:∀i:Int,i≠-1→P i→Qk i.toNat∧P (lnk L i.toNat).nx):∀(f:Nat) (i:Int) (p:List Bool×List Nat),P i→(∀k∈p.2,Qk k)→∀k∈(Qav L f i p).2,Qk k
 |0,i,p,_,hq=>hq
 |f+1,i,p,hi,hq=>by
  simp only [Qav];by_cases h1:i= -1
  ·rw [if_pos h1];exact hq
  rw [if_neg h1];by_cases h2:p.1[i.toNat]?=some true
  ·rw [if_pos h2];exact hq
  rw [if_neg h2];obtain ⟨a1,a2⟩:=hP i h1 hi;refine Qe1 hP f _ _ a2 fun k hk=> ?_;rcases List.mem_append.1 hk with hk|hk
  ·exact hq k hk
  ·rw [List.mem_singleton.1 hk];exact a1
theorem QfA {L:List XL} {P:Int→Prop} {Qk:Nat→Prop} (hP:∀i:Int,i≠-1→P i→Qk i.toNat∧P (lnk L i.toNat).nx):∀(C:List XC) (p:List Bool×List Nat),(∀c∈C,P (c.at_:Nat))→(∀k∈p.2,Qk k)→∀k∈(QbP L C p).2,Qk k
 |[],p,_,hq=>hq
 |c::r,p,hC,hq=>QfA hP r _ (fun c hc=>hC c (List.mem_cons_of_mem _ hc)) (Qe1 hP _ _ p (hC c (List.mem_cons_self ..)) hq)
def Pl (L:List XL) (cs:List HC) (i:Int):Prop:=∃(R:Tm→Int→Prop) (G:List Gl),Qag R L i G∧∀t a,R t a→Ql cs a=true
theorem Pl.next {L:List XL} {cs:List HC} (i:Int) (hi:i≠-1) (h:Pl L cs i):Ql cs (lnk L i.toNat).g=true∧Pl L cs (lnk L i.toNat).nx:=by
 obtain ⟨R,G,hc,hR⟩:=h
 cases G with
 |nil=>exact absurd hc hi
 |cons g r=>
  obtain ⟨k,l,rfl,h2,h3,h4,h5,h6⟩:=hc;rw [Int.toNat_natCast,Qir h2];exact ⟨hR _ _ h3,R,r,h6,hR⟩
theorem QW.pl {q f:Nat} {L:List XL}:∀{B:Bnd} {h:HH} {cs:List Ch} {ds:List XC},QW q f L B h cs ds→∀d∈ds,Pl L h.cs (d.at_:Nat)
 |_,_,[],[],_,d,hd=>by cases hd
 |_,h,c::cs,e::ds,⟨R,g,b1,_,b3,b4,_,_,b7⟩,d,hd=>by
  have hl:=b1.len.1;have ht:=b1.ht
  have up:∀a,Ql g.cs a=true→Ql h.cs a=true:=fun a ha=>by
   obtain ⟨a0,a1⟩:=Qm.1 ha;exact Qm.2 ⟨a0,by omega⟩
  rcases List.mem_cons.1 hd with rfl|hd
  ·exact ⟨_,_,b4,fun t a ht=>up a (b3.bm.db ht.1)⟩
  ·obtain ⟨R',G,h1,h2⟩:=b7.pl d hd;exact ⟨R',G,h1,fun t a ht=>up a (h2 t a ht)⟩
theorem Qj9:∀(I:List Nat) (V:List Int) (L:List XL),(Qc8 I V L).length=L.length
 |[],V,L=>by cases V<;>rfl
 |i::r,[],L=>rfl
 |i::r,v::V,L=>by simp only [Qc8];rw [Qj9 r V];simp [QoJ]
theorem Qnp {q F:Nat} {s:SS} {x:XS} (H:QhD q F s x):QhD q F s (Qhr q x)∧(Qhr q x).first=x.first∧(Qhr q x).goals=x.goals:=by
 obtain ⟨R,hG,hC⟩:=H.cur;have hb:=hC.bd;obtain ⟨hI,hf,hcl⟩:=Qp6 H.i.lnx hb.1 hb.2 H.i.ch.at_lt;have hgd:=H.i.gd;have ho:=H.i.ho
 have hlive:∀k∈QbH x,Ql x.h.cs (lnk x.ln k).g=true:=
  QfA (P:=Pl x.ln x.h.cs) (fun i hi hp=>hp.next i hi) _ _ (fun c hc=>H.i.ch.pl c (List.mem_reverse.1 hc)) (Qe1 (P:=Pl x.ln x.h.cs) (fun i hi hp=>hp.next i hi) _ _ _ ⟨_,_,hC,fun t a ht=>hG.bm.db ht.1⟩ fun k hk=>by cases hk)
 have hroot:∀r∈QS q x,Ql x.h.cs r=true:=by
  intro r hr;unfold QS at hr;rcases List.mem_append.1 hr with hr|hr
  ·obtain ⟨v,hv,rfl⟩:=List.mem_map.1 hr;exact hG.bm.db (hG.qv v (List.mem_range.1 hv))
  ·obtain ⟨k,hk,rfl⟩:=List.mem_map.1 hr;exact hlive k hk
 have C:Cx x.h (QS q x) (QK x.h.cs (QS q x)):=⟨hgd,Qha _ _⟩
 have hrc:∀r∈QS q x,Rc x.h.cs (QS q x) r:=fun r hr=> .root hr (hroot r hr);have hmv:∀v:Nat,v<q→((v:Nat):Int)∈QS q x:=fun v hv=>List.mem_append_left _ (List.mem_map.2 ⟨v,List.mem_range.2 hv,rfl⟩);have hml:∀k∈QbH x,(lnk x.ln k).g∈QS q x:=fun k hk=>List.mem_append_right _ (List.mem_map.2 ⟨k,hk,rfl⟩)
 have hcol:Qbn x.h (QS q x) (x.ch.reverse.map fun c=>((c.cells:Nat):Int)) (x.ch.reverse.map fun c=>((c.bound:Nat):Int))=(Qda (QK x.h.cs (QS q x)) x.h,(QS q x).map (rkI (QK x.h.cs (QS q x))),(x.ch.reverse.map fun c=>((c.cells:Nat):Int)).map (rkI (QK x.h.cs (QS q x))),(x.ch.reverse.map fun c=>((c.bound:Nat):Int)).map (rkI (x.h.tr.map (Qq (QK x.h.cs (QS q x))))),0):=by
  unfold Qbn;rw [if_neg (by rw [hgd];decide),if_neg (by rw [List.all_eq_true.2 hroot];decide)];rfl
 have hfro:∀v,v<q→(QK x.h.cs (QS q x))[v]?=some true:=fun v hv=>by
  have:=(C.rc (hrc _ (hmv v hv))).2.2
  rwa [Int.toNat_natCast] at this
 have hX:Qhr q x=⟨Qda (QK x.h.cs (QS q x)) x.h,x.goals,Qc8 (QbH x) ((QbH x).map fun k=>rkI (QK x.h.cs (QS q x)) (lnk x.ln k).g) x.ln,x.first,x.ch.map fun d=>⟨d.at_,d.cls,rk (QK x.h.cs (QS q x)) d.cells,rk (x.h.tr.map (Qq (QK x.h.cs (QS q x)))) d.bound⟩,x.ev⟩:=by
  unfold Qhr;rw [hcol];dsimp only
  have e1:((QS q x).map (rkI (QK x.h.cs (QS q x)))).drop q=(QbH x).map fun k=>rkI (QK x.h.cs (QS q x)) (lnk x.ln k).g:=by
   generalize QK x.h.cs (QS q x)=M;unfold QS;rw [List.map_append,List.map_map,List.map_map];rw [List.drop_left' Yd];rfl
  rw [e1,List.map_map,List.map_map,QgF,←List.map_reverse,List.reverse_reverse];rfl
 rw [hX];generalize hM:QK x.h.cs (QS q x)=M at*;refine ⟨⟨⟨H.i.ev,H.i.fuel,H.i.f150,H.i.q8,?_,H.i.inv,C.kept_good,Qgf C ho,?_,?_,?_⟩,⟨Qti M (QS q x) x.h.cs R,?_,?_⟩,H.gs,?_,?_⟩,rfl,rfl⟩
 ·exact QW.coll hI hfro C ho (fun a _ _=>⟨rfl,rfl⟩) (fun n _=>rfl) (fun n _=>rfl) (fun k hk a e _=>by rw [e];exact (C.rc (hrc _ (hml k hk))).2.2) hcl H.i.ch
 ·intro d hd;obtain ⟨c,hc,rfl⟩:=List.mem_map.1 hd;obtain ⟨c1,c2⟩:=H.i.csz c hc;have r1:=Qpw M c.cells;have r2:=Qpw (x.h.tr.map (Qq M)) c.bound;dsimp only;omega
 ·dsimp only;rw [Qj9];exact H.i.lsz
 ·intro i l hl;dsimp only at hl;rw [QgE] at hl;split at hl
  ·cases hq:x.ln[i]? with
   |none=>rw [hq] at hl;cases hl
   |some l'=>
    rw [hq] at hl;simp only [Option.map_some,Option.some.injEq] at hl;subst hl;exact H.i.lnx i l' hq
  ·exact H.i.lnx i l hl
 ·exact hG.coll C fun v hv=>⟨hrc _ (hmv v hv),QmO hfro v Ya⟩
 ·exact Qag.coll hI (fun k hk t ht=>GR.coll C (hrc _ (hml k hk)) ht) hC hf
 ·have h1:=H.cs
  have h2:(QaZ M x.h.cs).length≤x.h.cs.length:=by
   rw [C.len,C.mks.1];exact Qpw M _
  show (QaZ M x.h.cs).length≤_;dsimp only;omega
 ·have h1:=H.ts
  have h2:(Qbo M x.h.tr).length≤x.h.tr.length:=by
   unfold Qbo;rw [List.length_map,Qas];exact List.length_filter_le _ _
  show (Qbo M x.h.tr).length≤_;dsimp only;omega
theorem QmH {P:List Cl} {q F every:Nat} (hp:pB P=true) {s:SS} {x:XS} (H:QhD q F s x) (hev:s.ev.length<12):QqR q F (Q4 P q s) (QaU P q F every x):=by
 have hp2:P.length≤24∧∀x∈P,cB x=true:=by
  unfold pB at hp;simp only [Bool.and_eq_true,decide_eq_true_eq,List.all_eq_true] at hp;exact hp
 obtain ⟨hst,hstev⟩:=Qfe (vars:=q) H.gs hev hp;have hfu:=H.i.fuel
 cases hg:s.goals with
 |nil=>
  have hfirst:x.first= -1:=by
   obtain ⟨R,_,hC⟩:=H.cur;rw [hg] at hC;exact hC
  unfold Q4 QaU;rw [hg,if_pos hfirst];exact QoF H
 |cons g rest=>
  have hne:x.first≠-1:=by
   obtain ⟨R,_,hC⟩:=H.cur;rw [hg] at hC;obtain ⟨k,l,e,_⟩:=hC;omega
  by_cases hf0:s.fuel=0
  ·unfold Q4 QaU;rw [hg,if_neg hne,if_pos (show x.goals=F by omega)];dsimp only;rw [if_pos hf0];exact ⟨rfl,H.i.ev,fun h=>by cases h⟩
  have hmb:QhD q F s (QH q every x)∧(QH q every x).first=x.first∧(QH q every x).goals=x.goals:=by
   unfold QH;split
   ·exact Qnp H
   ·exact ⟨H,rfl,rfl⟩
  obtain ⟨H',hfi,hgo⟩:=hmb
  have hstep:QaU P q F every x=if QM (Qbc (QH q every x).h (lnk (QH q every x).ln (QH q every x).first.toNat).g).s.toList (Qbc (QH q every x).h (lnk (QH q every x).ln (QH q every x).first.toNat).g).n.toNat=true
    then Qe3 (lnk (QH q every x).ln (QH q every x).first.toNat) ⟨(QH q every x).h,(QH q every x).goals+1,(QH q every x).ln,(lnk (QH q every x).ln (QH q every x).first.toNat).nx,(QH q every x).ch,(QH q every x).ev⟩
    else Qju P (QH q every x).first.toNat ⟨(QH q every x).h,(QH q every x).goals+1,(QH q every x).ln,(lnk (QH q every x).ln (QH q every x).first.toNat).nx,(QH q every x).ch,(QH q every x).ev⟩:=by
   unfold QaU;rw [if_neg hne,if_neg (show¬x.goals=F by omega)]
  rw [hstep];have hgo':(QH q every x).goals+s.fuel=F:=H'.i.fuel;clear hstep hfi hgo hne;generalize QH q every x=y at*;obtain ⟨R,hG,hC⟩:=H'.cur;rw [hg] at hC;obtain ⟨k,l,hk,h2,h3,h4,h5,h6⟩:=hC
  have hCk:Qag (GR R y.h) y.ln (k:Nat) (g::rest):=⟨k,l,rfl,h2,h3,h4,h5,h6⟩
  have hlk:=Qir h2;rw [hk,Int.toNat_natCast,hlk];obtain ⟨c1,c2,c3,c4,c5,c6,c7,c8⟩:=QeY hG h3;rw [c1,c2];obtain ⟨p1,p2,p3,p4,p5,p6,p7⟩:=Qb0 H.gs hg hf0;have hlsz:=H'.i.lsz;have hcs:=H'.cs;have hts:=H'.ts
  have M:Qtq q F ⟨s.B,s.fresh,s.fuel-1,rest,s.ch,s.ev⟩ ⟨y.h,y.goals+1,y.ln,l.nx,y.ch,y.ev⟩ R:=by
   refine ⟨⟨H'.i.ev,by show y.goals+1+(s.fuel-1)=F;omega,H'.i.f150,H'.i.q8,H'.i.ch,p1,H'.i.gd,H'.i.ho,fun d hd=> ?_,by dsimp only;omega,H'.i.lnx⟩,hG,h6,by dsimp only;omega,by dsimp only;omega⟩;have:=H'.i.csz d hd;dsimp only;omega
  have hS:Q4 P q s=if QM g.1.s.toList g.1.ar.length=true then Qcq g ⟨s.B,s.fresh,s.fuel-1,rest,s.ch,s.ev⟩ else match P.filter (QbX g.1) with
    |[]=>(5,⟨s.B,s.fresh,s.fuel-1,rest,s.ch,s.ev⟩)
    |c::cs=>QV ⟨s.B,s.fresh,s.fuel-1,rest,⟨g,rest,c::cs,s.B.length⟩::s.ch,s.ev⟩:=by
   unfold Q4;rw [hg];dsimp only;rw [if_neg hf0];by_cases hb:QM g.1.s.toList g.1.ar.length=true
   ·rw [if_pos hb,if_pos hb]
   ·rw [if_neg hb,if_neg hb];cases P.filter (QbX g.1)<;>rfl
  rw [hS] at hst⊢;by_cases hb:QM g.1.s.toList g.1.ar.length=true
  ·rw [if_pos hb] at hst⊢;rw [if_pos hb];exact Qqq M (by dsimp only;omega) h3 h4 p6 hb p2 fun h=>(hst.go h).1
  ·rw [if_neg hb,if_neg hb];refine QrS (s:=⟨s.B,s.fresh,s.fuel-1,rest,s.ch,s.ev⟩) M (by dsimp only;omega) hp2.2 hCk fun c cs hcc=> ?_;have hmem:∀x∈c::cs,x∈P:=fun x hx=>(List.mem_filter.1 (show x∈P.filter (QbX g.1) by rw [hcc];exact hx)).1
   obtain ⟨i1,i2⟩:=QeK H.gs hg hf0 (fun x hx=>hp2.2 x (hmem x hx)) (by
    have:=List.length_filter_le (QbX g.1) P
    rw [hcc] at this;omega)
   exact ⟨i1,by dsimp only;omega⟩
theorem Qpj {P:List Cl} {q F every:Nat} (hp:pB P=true):∀(n:Nat) (s:SS) (x:XS),QhD q F s x→s.ev.length<12→Qri P q F every n x=QiW P q n s
 |0,s,x,_,_=>rfl
 |n+1,s,x,H,hev=>by
  obtain ⟨h1,h2,h3⟩:=QmH (every:=every) hp H hev;have hok:=(Qfe (vars:=q) H.gs hev hp).2;simp only [Qri,QiW];rw [←h1];by_cases h0:(Q4 P q s).1=0
  ·rw [if_pos h0,if_pos h0];exact Qpj hp n _ _ (h3 h0) (hok h0)
  ·rw [if_neg h0,if_neg h0,h2]
noncomputable def Qlm (P:List Cl) (q:Ts) (vars fuel every:Int):List Ev×Int:=
 if pB P=false∨qB vars q=false then ([],1)
 else if fuel<0∨150<fuel∨every<0 then ([],2)
 else (Qri P vars.toNat fuel.toNat every.toNat 4000 (Qdl q vars),0)
theorem Qj3 {q:Ts} {v F:Nat} (hq:qB (v:Nat) q=true) (hF:F≤150):QhD v F (QaT q v F) (Qdl q (v:Nat)):=by
 have hq':=hq;simp only [qB,Bool.and_eq_true,decide_eq_true_eq] at hq';obtain ⟨⟨⟨v0,v1⟩,v2⟩,v3⟩:=hq';obtain ⟨l1,l2,l3,l4,l5,l6⟩:=Qpz hq;obtain ⟨hI,hmu⟩:=QeE hq hF
 have hX:Qdl q (v:Nat)=⟨⟨(Qaf (v:Nat) q).map (Q0 0),[]⟩,0,(QbS 0 0 (Qa9 (v:Nat) q) (-1) []).1,(QbS 0 0 (Qa9 (v:Nat) q) (-1) []).2,[],[]⟩:=by
  unfold Qdl;rw [l1]
 rw [hX];generalize (Qaf (v:Nat) q).map (Q0 0)=L at*;have hsh:∀t:Tm,QjE L 0 (v:Nat) 0 t=QjE L 0 (v:Nat) 0 t:=fun t=>rfl
 have hB:Bm Qet Qeu (fun t a=>False∨QjE L 0 (v:Nat) 0 t a) [] ⟨L,[]⟩:=by
  refine Bm.ext (R:=fun _ _=>False) (h:=⟨[],[]⟩) (m:=0) (base:=0) ⟨trivial,⟨rfl,fun a ha=> ?_,fun a ha=>by cases ha⟩,fun h=>h.elim,fun h=>h.elim,fun h=>h.elim,fun h=>h.elim⟩ l3 (fun a ha=> ?_) (fun t a hn=> ?_) (fun t a u hr=>hr.elim) (fun t a u hr=>hr.elim)
  ·obtain ⟨a0,a1⟩:=Qm.1 ha;simp at a1;omega
  ·obtain ⟨a0,a1⟩:=Qm.1 ha;simp at a1;omega
  ·refine ⟨?_,?_⟩
   ·obtain ⟨u,hl,_⟩:=hn;exact hl.addr
   ·rcases QjE.look (T:=[]) (B:=[]) v1 (Int.le_refl 0) Ya (fun x hx=>by cases hx) hn with ⟨i,i0,i1,e1,e2⟩|hh
    ·exact .inl ⟨i,i0,e1,e2⟩
    ·exact .inr hh
 have hlow:∀t a,(False∨QjE L 0 (v:Nat) 0 t a)→QfX (v:Nat) t:=fun t a hr=>by
  rcases hr with hr|hr
  ·exact hr.elim
  ·have:=hr.low v1 (Int.le_refl 0) Ya
   rwa [Int.zero_add] at this
 have hqv:∀x:Nat,x<v→QjE L 0 (v:Nat) 0 ⟨0,(x:Nat),⟨#[]⟩,.nil⟩ (x:Nat):=fun x hx=>by
  have hc:=l5 (x:Nat) Ya Ya;refine ⟨⟨0,(x:Nat),⟨#[]⟩,.nil⟩,⟨⟨(x:Nat),_,Qa2 hc Yd,hc,.inl ⟨rfl,by show (0:Int)≤(x:Nat);omega,by show ((x:Nat):Int)<(v:Nat);omega,rfl,rfl,rfl,by show ((x:Nat):Int)=(x:Nat)+((0:Nat):Int);omega⟩⟩,trivial⟩,?_⟩;unfold Tm.shift;rw [Qff (n:=((x:Nat):Int)) (m:=0) Ya Ya Ya Ya,Int.add_zero];rfl
 obtain ⟨c1,⟨X,c2,c3⟩,c4,c5⟩:=Qmf (R:=GR (fun t a=>False∨QjE L 0 (v:Nat) 0 t a) ⟨L,[]⟩) (base:=0) (fun t a h hd=>⟨.inr h,hd,h.kind hd⟩) (o:=0) q (Qa9 (v:Nat) q) (-1) [] [] l6 rfl Ya Yd;have hnx:=(Qqw (base:=0) (o:=0) (Qa9 (v:Nat) q) (-1) [] Ya Yd (fun i l hl=>by simp at hl)).1;refine ⟨⟨rfl,by show 0+F=F;omega,hF,by omega,trivial,hI.c,l2,l3,fun d hd=>(by cases hd),?_,hnx⟩,⟨_,⟨hB,fun x hx=>(by cases hx),hlow,fun x hx=> .inr (hqv x hx)⟩,c1⟩,hI,by dsimp only;omega,by dsimp only;simp⟩;dsimp only;rw [c2,List.nil_append,c3];omega
theorem Qmj (P:List Cl) (q:Ts) (vars fuel every:Int) (he:0≤every):Qlm P q vars fuel every=Qhy P q vars fuel:=by
 unfold Qlm Qhy;by_cases h1:pB P=false∨qB vars q=false
 ·rw [if_pos h1,if_pos h1]
 rw [if_neg h1,if_neg h1];by_cases h2:fuel<0∨150<fuel
 ·rw [if_pos h2,if_pos Ya]
 rw [if_neg h2,if_neg Ya];have hp:pB P=true:=by cases hh:pB P with|true=>rfl|false=>exact absurd (.inl hh) h1
 have hq:qB vars q=true:=by cases hh:qB vars q with|true=>rfl|false=>exact absurd (.inr hh) h1
 have hq':=hq;simp only [qB,Bool.and_eq_true,decide_eq_true_eq] at hq';obtain ⟨⟨⟨v0,v1⟩,v2⟩,v3⟩:=hq'
 obtain ⟨v,rfl⟩:∃v:Nat,vars=(v:Nat):=⟨vars.toNat,by omega⟩
 obtain ⟨f,rfl⟩:∃f:Nat,fuel=(f:Nat):=⟨fuel.toNat,by omega⟩
 simp only [Int.toNat_natCast];rw [Qpj hp 4000 _ _ (Qj3 hq Ya) (by simp [QaT])]
theorem QnC (P:List Cl) (q:Ts) (vars fuel every:Int) (he:every<0):Qlm P q vars fuel every=if pB P=false∨qB vars q=false then ([],1) else ([],2):=by
 unfold Qlm;split
 ·rfl
 ·rw [if_pos Ya]
set_option maxRecDepth 100000
section
variable {P:Program} {n:Nat} {e:Env} {w:World} {ty:TypeId} {pos:String} {after:Array Edge} {dst:Option Nat} {x y:Operand} {t t2:TypeId}
theorem QgK {vs:List Value} {v:Value} {o t:Nat} (hA:Qeq P t=some false) (h:vs[o]?=some v) (w:World):(part t vs.toArray o).run P w= .ok v w:=by
 simp only [part,bind];rw [Sem.run_bind',Qb6 hA];simp [Sem.run,h,pure]
theorem QgV (a b:HC) (w:World):(Op.equalIn 10000 104 (.agg (hcs a).toArray) (.agg (hcs b).toArray)).run Tryz.prog w= .ok (decide (a=b)) w:=by
 rw [run_equalIn_agg w 9999 _ _ _ Yc Yc];have hf:(Tryz.prog.fieldsOf 104).toList=[⟨ "Kind",3,0,false, "", "",0⟩,⟨ "N",3,1,false, "", "",8⟩,⟨ "S",9,2,false, "", "",16⟩]:=by kernel_rfl
 have p0:=fun (c:HC) w=>QgK (P:=Tryz.prog) (vs:=hcs c) (v:= .int .i64 c.k) (o:=0) (t:=3) rfl rfl w;have p1:=fun (c:HC) w=>QgK (P:=Tryz.prog) (vs:=hcs c) (v:= .int .i64 c.n) (o:=1) (t:=3) rfl rfl w;have p2:=fun (c:HC) w=>QgK (P:=Tryz.prog) (vs:=hcs c) (v:= .string c.s) (o:=2) (t:=9) rfl rfl w;have q0:∀(a b:Int) w,(Op.equalIn 9999 3 (.int .i64 a) (.int .i64 b)).run Tryz.prog w= .ok (a==b) w:=fun a b w=>run_equalIn_int w 9998 _ _ .i64 _ _ Yc;have q2:∀(a b:ByteArray) w,(Op.equalIn 9999 9 (.string a) (.string b)).run Tryz.prog w= .ok (a.toList==b.toList) w:=fun a b w=>run_equalIn_string w 9998 _ _ _ Yc;rw [hf];obtain ⟨ak,an,az⟩:=a;obtain ⟨bk,bn,bz⟩:=b;simp only [Op.eqFields,Sem.run_bind,p0,p1,p2,q0,q2,Result.andThen_ok,Sem.run_ite,Sem.run_pure,HC.mk.injEq];by_cases h0:ak=bk
 ·by_cases h1:an=bn
  ·by_cases h2:az=bz
   ·simp [h0,h1,h2,Sem.run]
   ·have h2':¬az.toList=bz.toList:=fun e=>h2 (QgA.1 e);simp [h0,h1,h2,h2',Sem.run]
  ·simp [h0,h1,Sem.run]
 ·simp [h0,Sem.run]
theorem Qkb {a b:HC} (hx:ev n e x= .agg (hcs a).toArray) (hy:ev n e y= .agg (hcs b).toArray):
  (execOp (ev n e) ⟨dst,.binOp .neq 104 x y 104,ty,pos,after,none⟩).run Tryz.prog w= .ok (.value (.bool (!decide (a=b)))) w:=by
 simp only [execOp,hx,hy,bind,pure];rw [Sem.run_bind',Sem.run_bind',run_eqGuard_agg w _ _ _ _ _ _ Yc];simp only [Result.andThen_ok];rw [run_neq_struct,QgV];rfl
end
end Go.Proofs.YthliapbflkfdiacGreatDoor
