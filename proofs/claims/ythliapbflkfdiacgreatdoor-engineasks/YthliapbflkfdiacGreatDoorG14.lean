/- SWalk11, SEnds, SMore, ENames, ERead, EPure, PassU, Cuts: texts that follow one another, laid into one file. -/
import Derived.Test.YthliapbflkfdiacGreatDoorZ0
import Derived.Test.YthliapbflkfdiacGreatDoorG13
import Derived.Test.YthliapbflkfdiacGreatDoorG6
import Derived.Test.YthliapbflkfdiacGreatDoorG5
import Derived.Test.YthliapbflkfdiacGreatDoorG1
import Derived.Test.YthliapbflkfdiacGreatDoorG2
import Derived.Lib.ConvBytes
namespace Go.Proofs.YthliapbflkfdiacGreatDoor
open Go.RowKit
set_option linter.unusedVariables false
set_option linter.unusedSimpArgs false
set_option maxRecDepth 100000
set_option maxHeartbeats 1000000
structure KE where
 k:Int
 A:Option Addr
 c:Nat
 T:TA
def KE.ev (x:KE):Ev:=(x.k,x.T.ts)
abbrev QAi (x:KE):List Value:=[.int .i64 x.k,.slice x.A x.T.len x.c]
def keL:List KE→List Value
 |[]=>[]
 |x::r=>QAi x++keL r
theorem QyI (a b:List KE):keL (a++b)=keL a++keL b:=by
 induction a with
 |nil=>rfl
 |cons c r ih=>simp [keL,ih]
theorem Qzn (l:List LE):evL l=keL (l.map fun e=>⟨1,e.A,e.c,e.T⟩):=by
 induction l with
 |nil=>rfl
 |cons c r ih=>simp [evL,keL,ih]
def Qy5 (w:World) (b:Nat):List KE→Nat→Prop
 |[],_=>True
 |x::r,o=>w.cell? ⟨b,o,none⟩=some (.int .i64 x.k)∧w.cell? ⟨b,o+1,none⟩=some (.slice x.A x.T.len x.c)∧Qy5 w b r (o+2)
def KER (L:List KE) (A:Option Addr) (c:Nat) (w:World):Prop:=L.length≤c∧(0<L.length→∃b o,A=some ⟨b,o,none⟩∧Qy5 w b L o)∧∀x∈L,ArA x.A x.c x.T w
theorem Qy5.skip {w:World} {b:Nat} {R:List KE}:∀{D:List KE} {o:Nat},Qy5 w b (D++R) o→Qy5 w b R (o+D.length*2)
 |[],o,h=>by simpa using h
 |c::D,o,⟨_,_,h⟩=>by
  have:=Qy5.skip (R:=R) (D:=D) h
  rwa [show o+2+D.length*2=o+(c::D).length*2 by simp;omega] at this
theorem KER.some_ {L:List KE} {A:Option Addr} {c:Nat} {w:World} (h:KER L A c w) (hl:0<L.length):∃b o,A=some ⟨b,o,none⟩:=by
 obtain ⟨b,o,e,_⟩:=h.2.1 hl
 exact ⟨b,o,e⟩
theorem KER.cells {D R:List KE} {x:KE} {b o c:Nat} {w:World} (h:KER (D++x::R) (some ⟨b,o,none⟩) c w):w.cell? ⟨b,o+D.length*2,none⟩=some (.int .i64 x.k)∧w.cell? ⟨b,o+D.length*2+1,none⟩=some (.slice x.A x.T.len x.c):=by
 obtain ⟨b',o',e,hs⟩:=h.2.1 Yg
 simp only [Option.some.injEq,Addr.mk.injEq,and_true] at e
 obtain ⟨rfl,rfl⟩:=e
 obtain ⟨h0,h1,_⟩:=hs.skip
 exact ⟨h0,h1⟩
theorem QpV {w:World} {b:Nat}:∀{L:List KE} {o:Nat},(∀j u,(keL L)[j]?=some u→w.cell? ⟨b,o+j,none⟩=some u)→Qy5 w b L o
 |[],_,_=>trivial
 | c :: r, o, h => ⟨h 0 _ rfl, h 1 _ rfl, QpV fun j u hu => by
     rw [show o+2+j=o+(j+2) by omega]
     exact h (j+2) u (by simpa [keL] using hu)⟩
theorem St.freezeK {M:List Nat} {w0 w:World} {H O:List (Nat×Obj)} {F:List (World→Prop)} {el:Nat} {A:Option Addr} {c:Nat} {L:List KE} (hr:Row el 2 (.slice A L.length c) L.length (keL L) O) (hR:∀x∈L,Und F (ArA x.A x.c x.T)) (hS:St M w0 (O++H) F w):
  ∃F',(∀φ∈F,φ∈F')∧Und F' (KER L A c)∧St M w0 H F' w:=by
 obtain ⟨F',h1,h2,h3⟩:=St.freezeL hS
 refine ⟨F',h1,fun w' hw'=>⟨hr.cap,fun hl=> ?_,fun x hx=>(hR x hx).mono h1 w' hw'⟩,h3⟩
 obtain ⟨g,sp,rfl,rfl,_⟩:=hr.some_ hl
 refine ⟨g,0,rfl,QpV fun j u hu=> ?_⟩
 have hjl:j<(keL L).length:=by
  rcases Nat.lt_or_ge j (keL L).length with hh|hh
  ·exact hh
  ·rw [List.getElem?_eq_none hh] at hu;cases hu
 rw [Qs (h2 _ (.head _) w' hw'),Nat.zero_add,List.getElem?_append_left hjl];exact hu
section
variable {M:List Nat} {w0:World} {H:List (Nat×Obj)} {F:List (World→Prop)}
theorem QnK (p:List Cl) (vars n:Nat) (s:SS):Qlh p vars (n+1) s=if (Qag p vars s).1=0 then Qlh p vars n (Qag p vars s).2 else Qdc (Qag p vars s).2.ev++[((Qag p vars s).1,.nil)]:=rfl
end
def okV (V:Int) (t:Tm):Prop:=(Ts.cons t.k t.n t.s t.ar .nil).good V=true
theorem good_one (V:Int) (k n:Int) (s:ByteArray) (a r:Ts):(Ts.cons k n s a r).good V=((Ts.cons k n s a .nil).good V&&r.good V):=by simp [Ts.good]
theorem Qog {V:Int} {g:Tm→Nat→Option (Tm×Nat)} (hg:∀t l p,okV V t→g t l=some p→okV V p.1):∀(T:Ts) (l:Nat) (p:Ts×Nat),T.good V=true→Qku g T l=some p→p.1.good V=true∧p.1.length=T.length
 | .nil,l,p,_,h=>by
  simp only [Qku,Option.some.injEq] at h
  subst h
  exact ⟨rfl,rfl⟩
 | .cons k n s a r,l,p,hT,h=>by
  rw [good_one,Bool.and_eq_true] at hT
  rw [QjW] at h
  cases h1:g ⟨k,n,s,a⟩ l with
  |none=>rw [h1] at h;cases h
  |some q=>
   rw [h1,Option.bind_some] at h
   cases h2:Qku g r q.2 with
   |none=>rw [h2] at h;cases h
   |some x=>
    rw [h2,Option.map_some,Option.some.injEq] at h
    subst h
    obtain ⟨i1,i2⟩:=Qog hg r q.2 x hT.2 h2
    have:=hg ⟨k,n,s,a⟩ l q hT.1 h1
    refine ⟨?_,by simp only [Ts.length,i2]⟩
    rw [good_one,Bool.and_eq_true];exact ⟨this,i1⟩
theorem QrN {V:Int} {B:Bnd} (hB:∀x∈B,okV V x.2):∀(f:Nat) (t:Tm) (l:Nat) (p:Tm×Nat),okV V t→QlY B f t l=some p→okV V p.1
 |0,t,l,p,_,h=>by cases h
 |f+1,t,l,p,ht,h=>by
  have hl:=Qd3 (Q:=okV V) hB ht
  rw [Qkn] at h
  by_cases h0:l=0
  ·rw [if_pos h0] at h;cases h
  ·rw [if_neg h0] at h
   cases h1:Qku (QlY B f) (Qc B t).ar (l-1) with
   |none=>rw [h1] at h;cases h
   |some q=>
    rw [h1,Option.map_some,Option.some.injEq] at h
    subst h
    unfold okV at hl⊢
    simp only [Ts.good,Bool.and_eq_true] at hl⊢
    obtain ⟨i1,i2⟩:=Qog (fun t l p h1 h2=>QrN hB f t l p h1 h2) _ _ _ hl.1.2 h1
    exact ⟨⟨by rw [i2];exact hl.1.1,i1⟩,trivial⟩
theorem QkU {B:Bnd} (hB:∀x∈B,okV 549755813888 x.2):∀(m v l:Nat) (p:Ts×Nat),v+m≤1000→Qb2 B m v l=some p→p.1.good 549755813888=true
 |0,v,l,p,_,h=>by
  simp only [Qb2,Option.some.injEq] at h
  subst h
  rfl
 | m + 1, v, l, p, hv, h => by
  rw [Qhn] at h
  cases h1:QlY B 201 ⟨0,v,⟨#[]⟩,.nil⟩ l with
  |none=>rw [h1] at h;cases h
  |some q=>
   rw [h1,Option.bind_some] at h
   cases h2:Qb2 B m (v+1) q.2 with
   |none=>rw [h2] at h;cases h
   |some x=>
    rw [h2,Option.map_some,Option.some.injEq] at h
    subst h
    have h3:okV 549755813888 ⟨0,v,⟨#[]⟩,.nil⟩:=by
     unfold okV
     simp only [Ts.good,Bool.and_eq_true,and_true]
     unfold QaH
     rw [if_pos rfl]
     simp only [Bool.and_eq_true,decide_eq_true_eq]
     exact ⟨⟨⟨by omega,by omega⟩,Qap []⟩,rfl⟩
    have:=QrN hB 201 _ l q h3 h1
    show (Ts.cons _ _ _ _ x.1).good _=true
    rw [good_one,Bool.and_eq_true]
    exact ⟨this,QkU hB m (v+1) q.2 x Ya h2⟩
theorem QyD (ks:List Int) (n:Int):(Qm6 ks n).length≤ks.length+1∧ks.length≤(Qm6 ks n).length:=by
 unfold Qm6
 split
 ·omega
 ·simp
theorem QyC (ks:List Int) (n:Int):0≤Qo9 ks n∧Qo9 ks n≤ks.length:=by
 unfold Qo9
 cases h:pos n ks with
 |none=>simp
 |some j=>have:=Qxy h;simp;omega
theorem QtH {V:Int} (u:Nat) (T:Ts):∀ks:List Int,T.good V=true→ks.length+T.nodes≤u→(T.tidyFrom ks).1.good u=true∧(T.tidyFrom ks).2.length≤ks.length+T.nodes∧(T.tidyFrom ks).1.length=T.length∧(T.tidyFrom ks).1.nodes=T.nodes:=by
 induction T with
 |nil=>intro ks _ _;exact ⟨rfl,Nat.le_refl _,rfl,rfl⟩
 |cons k n s ar r iha ihr=>
  intro ks hg hu
  simp only [Ts.good,Bool.and_eq_true] at hg
  simp only [Ts.nodes] at hu
  have hl:(tS k n ks).length≤ks.length+1:=by
   unfold tS;split
   ·exact (QyD ks n).1
   ·omega
  obtain ⟨a1,a2,a3,a4⟩:=iha (tS k n ks) hg.1.2 Ya
  obtain ⟨b1,b2,b3,b4⟩:=ihr (ar.tidyFrom (tS k n ks)).2 hg.2 Ya
  rw [Ts.tidyFrom_cons]
  refine ⟨?_,?_,?_,?_⟩
  ·simp only [Ts.good,Bool.and_eq_true]
   refine ⟨⟨?_,a1⟩,b1⟩
   rw [a3]
   have hn:=hg.1.1
   unfold QaH at hn⊢
   unfold tV
   by_cases e:k=0
   ·rw [if_pos e] at hn⊢
    rw [if_pos e]
    simp only [Bool.and_eq_true,decide_eq_true_eq] at hn⊢
    have:=QyC ks n
    exact ⟨⟨⟨this.1,by omega⟩,hn.1.2⟩,hn.2⟩
   ·rw [if_neg e] at hn⊢
    rw [if_neg e]
    exact hn
  ·simp only [Ts.nodes];omega
  ·simp only [Ts.length,b3]
  ·simp only [Ts.nodes,a4,b4]
def Qxo (vars:Nat) (T:Ts):Prop:=T.length=vars∧T.nodes≤200∧T.good 200=true
theorem Qzu {s:SS} {vars:Nat} (hI:QfM s) (hv:vars≤8) {T:Ts} {l:Nat} (h:Qb2 s.B vars 0 200=some (T,l)):Qxo vars T.tidy:=by
 obtain ⟨h1,h2⟩:=Qi8 _ _ _ _ h
 have h3:=QkU (fun x hx=>(hI.gb x hx).1) vars 0 200 _ Ya h
 dsimp only at h1 h2 h3
 obtain ⟨g1,g2,g3,g4⟩:=QtH 200 T [] h3 Yg
 exact ⟨g3.trans h2,by show (T.tidyFrom []).1.nodes≤200;omega,g1⟩
theorem QfF {s:SS} (h:QfM s):(Q9 s).1=0∨(Q9 s).1=2∨(Q9 s).1=4:=(Qcw h).2.2
theorem QlQ {s:SS} {a t:Tm} (hI:QfM s) (hsl:s.B.length+10100*(mu s+1)≤1000000000) (ha:tgd a) (ht:tgd t):(QbG a t s).1=0∨(QbG a t s).1=2∨(QbG a t s).1=4:=by
 have hi:=Qea hI hsl ha ht
 unfold QbG
 simp only
 split
 ·exact .inr (.inr rfl)
 split
 ·exact .inl rfl
 ·exact QfF hi
structure Qzz (vars:Nat) (s:SS) (r:List Ev) (l:List Ts) (k:Int):Prop where
 eq:r=Qdc l++[(k,.nil)]
 ans:∀T∈l,Qxo vars T
 kind:2≤k∧k≤6
 more:∃m,l=s.ev++m
 six:(k=6↔l.length=12)∧l.length≤12
theorem Qws (p : List Cl) (vars : Nat) (s : SS) (hI : Inv s) (hev : s.ev.length < 12) (hp : pB p = true) : (Qag p vars s).1 = 6 ↔ (Qag p vars s).2.ev.length = 12 := by
 rcases QiB p vars s hI hp with h|⟨T,l,hv,h,h6⟩
 ·rw [h]
  constructor
  ·intro e
   exfalso
   -- no step but an answer ends so
   have hp2:p.length≤24∧∀x∈p,cB x=true:=by
    unfold pB at hp
    simp only [Bool.and_eq_true,decide_eq_true_eq,List.all_eq_true] at hp
    exact hp
   unfold Qag at e h
   cases hg:s.goals with
   |nil=>
    rw [hg] at e h
    simp only at e h
    unfold Qdu at e h
    cases hv:Qb2 s.B vars 0 200 with
    |none=>rw [hv] at e;cases e
    |some x=>
     rw [hv] at e h
     simp only at e h
     have hi:QfM ⟨s.B,s.fresh,s.fuel,s.goals,s.ch,s.ev++[x.1.tidy]⟩:=⟨hI.c.bok,hI.c.gb,hI.c.ch,hI.c.fr,hI.c.bl⟩
     split at h
     ·have:=congrArg List.length h;simp at this
     ·rw [(Qcw hi).2.1] at h
      have:=congrArg List.length h;simp at this
   |cons g rest=>
    rw [hg] at e
    simp only at e
    split at e
    ·cases e
    rename_i hf
    obtain ⟨h1,h2,h3,h4,h5,h6,h7⟩:=Qdg hI hg hf
    split at e
    ·rename_i hb
     have hd:=Qax _ h6
     unfold Q1 at hb
     unfold Qc2 at e
     split at e
     ·cases e
     rename_i k1
     rw [if_neg k1] at hb
     split at e
     ·cases e
     rename_i k2
     rw [if_neg k2] at hb
     split at e
     ·rename_i k3
      rw [if_neg (by rw [k3];decide),if_pos k3] at hb
      have hl:g.1.ar.length=2:=by simpa using hb
      rcases QlQ h1 h2 (hd _ (Ts.at_mem (i:=0) Ya)) (hd _ (Ts.at_mem (i:=1) Ya)) with q|q|q<;>rw [q] at e<;>cases e
     split at e
     ·unfold QjZ at e
      simp only at e
      split at e
      ·cases e
      split at e
      ·rcases QfF h1 with q|q|q<;>rw [q] at e<;>cases e
      ·cases e
     split at e
     ·rename_i k5
      rw [if_neg (by rw [k5];decide),if_neg (by rw [k5];decide),if_neg (by rw [k5];decide),if_pos k5] at hb
      have hl:g.1.ar.length=3:=by simpa using hb
      unfold QvV at e
      simp only at e
      split at e
      ·cases e
      split at e
      ·cases e
      ·rename_i hr
       have tn:tgd ⟨2,(Qc s.B (g.1.ar.at_ 0)).n+(Qc s.B (g.1.ar.at_ 1)).n,⟨#[]⟩,.nil⟩:=by
        refine ⟨?_,by simp [Ts.nodes]⟩
        simp only [Ts.good,Bool.and_eq_true,and_true]
        unfold QaH
        rw [if_neg Yf,if_neg Yf,if_pos rfl]
        simp only [Bool.and_eq_true,decide_eq_true_eq]
        exact ⟨⟨⟨by omega,by omega⟩,Qap []⟩,rfl⟩
       rcases QlQ h1 h2 (hd _ (Ts.at_mem (i:=2) Ya)) tn with q|q|q<;>rw [q] at e<;>cases e
     ·rcases QfF h1 with q|q|q<;>rw [q] at e<;>cases e
    ·cases hm:p.filter (QcV g.1) with
     |nil=>rw [hm] at e;cases e
     |cons c cs=>
      rw [hm] at e
      simp only at e
      have hsub:∀x∈c::cs,cB x=true:=fun x hx=>hp2.2 x (by rw [←hm] at hx;exact (List.mem_filter.1 hx).1)
      have hlen:(c::cs).length≤24:=by rw [←hm];exact Nat.le_trans (List.length_filter_le _ _) hp2.1
      obtain ⟨i1,i2⟩:=QgH hI hg hf hsub hlen
      rcases QfF i1 with q|q|q<;>rw [q] at e<;>cases e
  ·intro e;omega
 ·rw [h6,h];simp
theorem Qxt (p:List Cl) (vars:Nat) (hp:pB p=true) (hv:vars≤8):∀(n:Nat) (s:SS),Inv s→s.ev.length<12→mu s<n→(∀T∈s.ev,Qxo vars T)→∃l k,Qzz vars s (Qlh p vars n s) l k
 |0,s,_,_,h,_=>by omega
 | n + 1, s, hI, hev, hmu, ha => by
  obtain ⟨hst,hst2⟩:=Qhq (vars:=vars) hI hev hp
  have hsix:=Qws p vars s hI hev hp
  have hle:=QtO p vars s hI hev hp
  have hext:∃m,(Qag p vars s).2.ev=s.ev++m:=by
   rcases QiB p vars s hI hp with h|⟨T,l,_,h,_⟩
   ·exact ⟨[],by rw [h];simp⟩
   ·exact ⟨[T.tidy],h⟩
  have ha2:∀T∈(Qag p vars s).2.ev,Qxo vars T:=by
   rcases QiB p vars s hI hp with h|⟨T,l,hT,h,_⟩
   ·rw [h];exact ha
   ·rw [h]
    intro X hX
    rcases List.mem_append.1 hX with hX|hX
    ·exact ha X hX
    ·obtain rfl:X=T.tidy:=by simpa using hX
     exact Qzu hI.c hv hT
  rw [QnK]
  by_cases h0:(Qag p vars s).1=0
  ·rw [if_pos h0]
   obtain ⟨l,k,hr⟩:=Qxt p vars hp hv n _ (hst.go h0).1 (hst2 h0) (by have:=(hst.go h0).2;omega) ha2
   obtain ⟨m1,e1⟩:=hext
   obtain ⟨m2,e2⟩:=hr.more
   exact ⟨l,k,hr.eq,hr.ans,hr.kind,⟨m1++m2,by rw [e2,e1,List.append_assoc]⟩,hr.six⟩
  ·rw [if_neg h0]
   have hk:=hst.kind
   exact ⟨_,_,rfl,ha2,by omega,hext,hsix,hle⟩
theorem QxW {p:List Cl} {q:Ts} {vars fuel:Int} (h:(QdU p q vars fuel).2=0):pB p=true∧qB vars q=true∧0≤vars∧vars≤8∧0≤fuel∧fuel≤150∧QdU p q vars fuel=(Qlh p vars.toNat 4000 (Qbx q vars.toNat fuel.toNat),0)∧Inv (Qbx q vars.toNat fuel.toNat)∧mu (Qbx q vars.toNat fuel.toNat)≤3750:=by
 unfold QdU at h⊢
 split at h
 ·cases h
 rename_i h1
 split at h
 ·cases h
 rename_i h2
 have hp:pB p=true:=by cases hb:pB p with
  |true=>rfl
  |false=>exact absurd (.inl hb) h1
 have hq:qB vars q=true:=by cases hb:qB vars q with
  |true=>rfl
  |false=>exact absurd (.inr hb) h1
 have hq2:=hq
 simp only [qB,Bool.and_eq_true,decide_eq_true_eq] at hq2
 rw [if_neg h1,if_neg h2]
 obtain ⟨i1,i2⟩:=QgB (q:=q) (vars:=vars.toNat) (fuel:=fuel.toNat) (by rw [Int.toNat_of_nonneg hq2.1.1.1];exact hq) Ya
 exact ⟨hp,hq,by omega,by omega,by omega,by omega,rfl,i1,i2⟩
theorem QhW {p:List Cl} {q:Ts} {vars fuel:Int} (h:(QdU p q vars fuel).2=0):∃l k,Qzz vars.toNat (Qbx q vars.toNat fuel.toNat) (QdU p q vars fuel).1 l k:=by
 obtain ⟨hp,hq,v0,v1,f0,f1,e,hI,hm⟩:=QxW h
 rw [e]
 exact Qxt p vars.toNat hp Ya 4000 _ hI (by simp [Qbx]) Ya (fun T hT=>by simp [Qbx] at hT)
theorem Qqh {p:List Cl} {q:Ts} {vars fuel:Int} (h:(QdU p q vars fuel).2≠0):(QdU p q vars fuel).1=[]:=by
 unfold QdU at h⊢
 split
 ·rfl
 split
 ·rfl
 ·rename_i h1 h2
  rw [if_neg h1,if_neg h2] at h
  exact absurd rfl h
def Ts.brief:Ts→Prop
 | .nil=>True
 | .cons k n s a r=>s.size≤2000∧a.brief∧r.brief
def brT (t:Tm):Prop:=t.s.size≤2000∧t.ar.brief
theorem QoQ {x:Tm}:∀{T:Ts},T.brief→T.Mem x→brT x
 | .cons k n s a r,h,hx=>by
  rcases hx with rfl|hx
  ·exact ⟨h.1,h.2.1⟩
  ·exact QoQ h.2.2 hx
theorem QrG:Qz2 brT:=fun t h x hx=>QoQ h.2 hx
theorem Qp9 (m:Int) (T:Ts):T.brief→(T.shift m).brief:=by
 induction T with
 |nil=>intro _;exact trivial
 |cons k n s a r iha ihr=>intro h;rw [Ts.shift_cons];exact ⟨h.1,iha h.2.1,ihr h.2.2⟩
theorem QoR {t:Tm} {m:Int} (h:brT t):brT (t.shift m):=⟨h.1,Qp9 m _ h.2⟩
theorem Qs5 (T:Ts):∀ks:List Int,T.brief→(T.tidyFrom ks).1.brief:=by
 induction T with
 |nil=>intro ks _;exact trivial
 |cons k n s a r iha ihr=>intro ks h;rw [Ts.tidyFrom_cons];exact ⟨h.1,iha _ h.2.1,ihr _ h.2.2⟩
theorem Qvw (k n:Int):brT ⟨k,n,⟨#[]⟩,.nil⟩:=⟨by show (0:Nat)≤2000;omega,trivial⟩
def brC (c:Cl):Prop:=brT c.head∧c.bd.brief
structure Br (s:SS):Prop where
 B:∀x∈s.B,brT x.2
 goals:∀g∈s.goals,brT g.1
 ch:∀h∈s.ch,brT h.g.1∧(∀g∈h.next,brT g.1)∧∀c∈h.cls,brC c
 ev:∀T∈s.ev,T.brief
theorem Qqa {m:Int} {o:Nat} {rest:List Gl} (hr:∀g∈rest,brT g.1):∀T:Ts,T.brief→∀g∈QeL T m o rest,brT g.1
 | .nil,_=>hr
 | .cons k n s a r,h=>by
  intro g hg
  rcases List.mem_cons.1 hg with rfl|hg
  ·exact QoR (t:=⟨k,n,s,a⟩) ⟨h.1,h.2.1⟩
  ·exact Qqa hr r h.2.2 g hg
theorem Qyd {B:Bnd} {n:Nat} (h:∀x∈B,brT x.2):∀x∈QaU B n,brT x.2:=fun x hx=>h x (List.mem_of_mem_drop hx)
theorem Qzi {h:Ch} {cl:Cl} {more:List Cl} {cs:List Ch} (hc:∀x∈h::cs,brT x.g.1∧(∀g∈x.next,brT g.1)∧∀c∈x.cls,brC c) (h2:h.cls=cl::more):∀x∈Qe8 h more cs,brT x.g.1∧(∀g∈x.next,brT g.1)∧∀c∈x.cls,brC c:=by
 intro x hx
 cases more with
 |nil=>exact hc x (.tail _ hx)
 |cons m ms=>
  rcases List.mem_cons.1 hx with rfl|hx
  ·exact ⟨(hc h (.head _)).1,(hc h (.head _)).2.1,fun y hy=>(hc h (.head _)).2.2 y (by rw [h2];exact .tail _ hy)⟩
  ·exact hc x (.tail _ hx)
theorem QqV:∀(n:Nat) (s:SS),Br s→Br (QaN n s).2
 |0,s,h=>h
 |n+1,s,h=>by
  cases h1:s.ch with
  |nil=>
   have e1:QaN (n+1) s=(2,s):=by unfold QaN;rw [h1]
   rw [e1];exact h
  |cons x xs=>
   cases h2:x.cls with
   |nil=>
    have e1:QaN (n+1) s=(2,s):=by unfold QaN;rw [h1];simp only;rw [h2]
    rw [e1];exact h
   |cons cl more=>
    have hc:=h.ch
    rw [h1] at hc
    have hpop:=Qzi hc h2
    obtain ⟨hx1,hx2,hx3⟩:=hc x (.head _)
    have hcl:=hx3 cl (by rw [h2];exact .head _)
    have hu:=Qtv QrG 401 (cl.head.shift s.fresh) x.g.1 (QaU s.B x.bound) 0 (Qyd h.B) (QoR hcl.1) hx1
    rw [Qek h1 h2]
    split
    ·exact ⟨hu,h.goals,hpop,h.ev⟩
    split
    ·exact ⟨hu,Qqa hx2 _ hcl.2,hpop,h.ev⟩
    ·exact QqV n _ ⟨hu,h.goals,hpop,h.ev⟩
theorem Qhc {s:SS} (h:Br s):Br (Q9 s).2:=QqV _ s h
theorem Qrz {s:SS} {a t:Tm} (ha:brT a) (ht:brT t) (h:Br s):Br (QbG a t s).2:=by
 have hu:=Qtv QrG 401 a t s.B 0 h.B ha ht
 unfold QbG
 simp only
 split
 ·exact ⟨hu,h.goals,h.ch,h.ev⟩
 split
 ·exact ⟨hu,h.goals,h.ch,h.ev⟩
 ·exact Qhc ⟨hu,h.goals,h.ch,h.ev⟩
theorem Qxi:∀{T:Ts} (i:Nat),T.brief→brT (T.at_ i)
 | .nil,i,_=>Qvw 0 0
 | .cons k n s a r,0,h=>⟨h.1,h.2.1⟩
 | .cons k n s a r,i+1,h=>Qxi (T:=r) i h.2.2
theorem Qxg {s:SS} {g:Gl} (hg:brT g.1) (h:Br s):Br (Qc2 g s).2:=by
 unfold Qc2
 split
 ·exact ⟨h.B,h.goals,fun x hx=>h.ch x (List.mem_of_mem_drop hx),h.ev⟩
 split
 ·exact h
 split
 ·exact Qrz (Qxi 0 hg.2) (Qxi 1 hg.2) h
 split
 ·unfold QjZ
  simp only
  split
  ·exact h
  split
  ·exact Qhc h
  ·exact h
 split
 ·unfold QvV
  simp only
  split
  ·exact h
  split
  ·exact h
  ·exact Qrz (Qxi 2 hg.2) (Qvw 2 _) h
 ·exact Qhc h
theorem QuI {g:Tm→Nat→Option (Tm×Nat)} (hg:∀t l p,brT t→g t l=some p→brT p.1):∀(T:Ts) (l:Nat) (p:Ts×Nat),T.brief→Qku g T l=some p→p.1.brief
 | .nil,l,p,_,h=>by
  simp only [Qku,Option.some.injEq] at h
  subst h
  exact trivial
 | .cons k n s a r,l,p,hT,h=>by
  rw [QjW] at h
  cases h1:g ⟨k,n,s,a⟩ l with
  |none=>rw [h1] at h;cases h
  |some q=>
   rw [h1,Option.bind_some] at h
   cases h2:Qku g r q.2 with
   |none=>rw [h2] at h;cases h
   |some x=>
    rw [h2,Option.map_some,Option.some.injEq] at h
    subst h
    have:=hg ⟨k,n,s,a⟩ l q ⟨hT.1,hT.2.1⟩ h1
    exact ⟨this.1,this.2,QuI hg r q.2 x hT.2.2 h2⟩
theorem QxS {B:Bnd} (hB:∀x∈B,brT x.2):∀(f:Nat) (t:Tm) (l:Nat) (p:Tm×Nat),brT t→QlY B f t l=some p→brT p.1
 |0,t,l,p,_,h=>by cases h
 |f+1,t,l,p,ht,h=>by
  have hl:=Qd3 (Q:=brT) hB ht
  rw [Qkn] at h
  by_cases h0:l=0
  ·rw [if_pos h0] at h;cases h
  ·rw [if_neg h0] at h
   cases h1:Qku (QlY B f) (Qc B t).ar (l-1) with
   |none=>rw [h1] at h;cases h
   |some q=>
    rw [h1,Option.map_some,Option.some.injEq] at h
    subst h
    exact ⟨hl.1,QuI (fun t l p h1 h2=>QxS hB f t l p h1 h2) _ _ _ hl.2 h1⟩
theorem Qqt {B:Bnd} (hB:∀x∈B,brT x.2):∀(m v l:Nat) (p:Ts×Nat),Qb2 B m v l=some p→p.1.brief
 |0,v,l,p,h=>by
  simp only [Qb2,Option.some.injEq] at h
  subst h
  exact trivial
 |m+1,v,l,p,h=>by
  rw [Qhn] at h
  cases h1:QlY B 201 ⟨0,v,⟨#[]⟩,.nil⟩ l with
  |none=>rw [h1] at h;cases h
  |some q=>
   rw [h1,Option.bind_some] at h
   cases h2:Qb2 B m (v+1) q.2 with
   |none=>rw [h2] at h;cases h
   |some x=>
    rw [h2,Option.map_some,Option.some.injEq] at h
    subst h
    have:=QxS hB 201 _ l q (Qvw 0 v) h1
    exact ⟨this.1,this.2,Qqt hB m (v+1) q.2 x h2⟩
theorem Qyk {p:List Cl} {vars:Nat} {s:SS} (hp:∀x∈p,brC x) (h:Br s):Br (Qag p vars s).2:=by
 unfold Qag
 cases hg:s.goals with
 |nil=>
  simp only
  unfold Qdu
  cases hv:Qb2 s.B vars 0 200 with
  |none=>exact h
  |some x=>
   have hev:∀T∈s.ev++[x.1.tidy],T.brief:=fun T hT=>by
    rcases List.mem_append.1 hT with hT|hT
    ·exact h.ev T hT
    ·rw [List.mem_singleton.1 hT];exact Qs5 _ _ (Qqt h.B _ _ _ _ hv)
   simp only
   split
   ·exact ⟨h.B,by simp [hg],h.ch,hev⟩
   ·exact Qhc ⟨h.B,by simp [hg],h.ch,hev⟩
 |cons g rest=>
  simp only
  have hgs:=h.goals
  rw [hg] at hgs
  have hg1:=hgs g (.head _)
  have hrest:∀x∈rest,brT x.1:=fun x hx=>hgs x (.tail _ hx)
  split
  ·exact h
  split
  ·exact Qxg hg1 ⟨h.B,hrest,h.ch,h.ev⟩
  ·cases hm:p.filter (QcV g.1) with
   |nil=>exact ⟨h.B,hrest,h.ch,h.ev⟩
   |cons x xs=>
    refine Qhc ⟨h.B,hrest,fun y hy=> ?_,h.ev⟩
    rcases List.mem_cons.1 hy with rfl|hy
    ·exact ⟨hg1,hrest,fun z hz=>hp z (by rw [←hm] at hz;exact (List.mem_filter.1 hz).1)⟩
    ·exact h.ch y hy
theorem Qxv {p:List Cl} {vars:Nat} (hp:∀x∈p,brC x):∀(n:Nat) (s:SS),Br s→∀e∈Qlh p vars n s,e.2.brief
 |0,s,_,e,he=>by cases he
 |n+1,s,h,e,he=>by
  have h1:=Qyk (vars:=vars) hp h
  rw [QnK] at he
  split at he
  ·exact Qxv hp n _ h1 e he
  ·rcases List.mem_append.1 he with he|he
   ·obtain ⟨T,hT,rfl⟩:=List.mem_map.1 he
    exact h1.ev T hT
   ·rw [List.mem_singleton.1 he];exact trivial
theorem Qzw {p:List Cl} {q:Ts} {vars fuel:Int} (hp:∀x∈p,brC x) (hq:q.brief):∀e∈(QdU p q vars fuel).1,e.2.brief:=by
 unfold QdU
 split
 ·intro e he;cases he
 split
 ·intro e he;cases he
 ·exact Qxv hp _ _ ⟨fun x hx=>(by cases hx),Qqa (fun g hg=>by cases hg) q hq,fun x hx=>(by cases hx),fun x hx=>(by cases hx)⟩
def WsB (p:PS):Prop:=∀x∈p.l,x.length≤2000
def BrF (f:PS→Nd×PS):Prop:=∀p,WsB p→(f p).1.s.length≤2000∧(f p).1.ar.brief∧WsB (f p).2
theorem WsB.pop {p:PS} (h:WsB p):WsB p.pop:=fun x hx=>h x (List.mem_of_mem_tail hx)
theorem WsB.close {p:PS} (h:WsB p) (t:Str):WsB (p.close t):=by
 unfold PS.close
 split
 ·exact h
 split
 ·exact h.pop
 ·exact h
theorem Qlm {f:PS→Nd×PS} (hf:BrF f):∀(n:Nat) (p:PS),WsB p→(QaI (QL f n p).1).brief∧WsB (QL f n p).2
 |0,p,h=>⟨trivial,h⟩
 |n+1,p,h=>by
  unfold QL
  split
  ·obtain ⟨a1,a2,a3⟩:=hf p.pop h.pop
   obtain ⟨b1,b2⟩:=Qlm hf n _ a3
   exact ⟨⟨by rw [Qba];exact a1,a2,b1⟩,b2⟩
  ·exact ⟨trivial,h⟩
theorem Qgc {f:PS→Nd×PS} (hf:BrF f) (t:Str) (p:PS) (h:WsB p):(QaI (QO f t p).1).brief∧WsB (QO f t p).2:=by
 unfold QO
 obtain ⟨a1,a2,a3⟩:=hf p h
 obtain ⟨b1,b2⟩:=Qlm hf (f p).2.l.length _ a3
 exact ⟨⟨by rw [Qba];exact a1,a2,b1⟩,b2.close t⟩
theorem Qzc {p:PS} (h:WsB p) (x:Str):WsB (p.var x).2:=by
 unfold PS.var
 split
 ·exact h
 ·exact h
theorem Qfs:∀d,BrF (Ql d)
 |0,p,h=>⟨by simp [Ql,Nd.zero],trivial,h⟩
 |d+1,p,h=>by
  unfold Ql
  split
  ·exact ⟨by simp [Nd.zero],trivial,h⟩
  ·exact ⟨by simp [Nd.zero],trivial,h⟩
  ·rename_i c r q hl
   have hw:(c::r).length≤2000:=h (c::r) (by rw [hl];exact .head _)
   split
   ·exact ⟨by simp,trivial,h.pop⟩
   split
   ·exact ⟨by simp,trivial,Qzc h.pop _⟩
   split
   ·exact ⟨by simp,trivial,h.pop⟩
   split
   ·exact ⟨by simp [Nd.zero],trivial,h⟩
   split
   ·obtain ⟨b1,b2⟩:=Qgc (Qfs d) [41] p.pop.pop h.pop.pop
    exact ⟨hw,b1,b2⟩
   ·exact ⟨hw,trivial,h.pop⟩
theorem QeR (L:Nat):∀(n:Nat) (l:Str),l.length≤L→∀x∈QcZ n l,x.length≤L
 |0,l,h,x,hx=>by simp [QcZ] at hx
 |n+1,[],h,x,hx=>by simp [QcZ] at hx
 |n+1,c::r,h,x,hx=>by
  simp only [List.length_cons] at h
  simp only [QcZ] at hx
  split at hx
  ·exact QeR L n r Ya x hx
  split at hx
  ·rw [List.mem_singleton.1 hx];simp
  ·rcases List.mem_cons.1 hx with rfl|hx
   ·rw [List.length_take];simp only [List.length_cons];omega
   ·exact QeR L n _ (by rw [List.length_drop];simp only [List.length_cons];omega) x hx
theorem QqM {l:Str} (h:l.length≤2000):WsB (PS.start l):=fun x hx=>QeR 2000 _ l h x hx
theorem Qsv (p:PS) (h:WsB p):(QaI (Q5 p).1).brief∧WsB (Q5 p).2:=by
 unfold Q5
 split
 ·exact Qgc (Qfs 24) [46] p.pop h.pop
 ·exact ⟨trivial,h.close _⟩
theorem QnO (p:PS) (h:WsB p):brC (Qv p).1∧WsB (Qv p).2:=by
 obtain ⟨a1,a2,a3⟩:=Qfs 24 { p with vars:=[] } h
 obtain ⟨b1,b2⟩:=Qsv _ a3
 exact ⟨⟨⟨by show (⟨_⟩:ByteArray).size≤2000;rw [Qba];exact a1,a2⟩,b1⟩,b2⟩
theorem Qh9:∀(n:Nat) (p:PS) (L:List Cl),WsB p→QaD n p=some L→∀c∈L,cB c=true∧brC c
 |0,p,L,_,h,c,hc=>by
  simp only [QaD,Option.some.injEq] at h
  subst h;cases hc
 | n + 1, p, L, hp, h, c, hc => by
  unfold QaD at h
  split at h
  ·simp only [Option.some.injEq] at h
   subst h;cases hc
  split at h
  ·cases h
  ·rename_i hb
   obtain ⟨b1,b2⟩:=QnO p hp
   cases hr:QaD n (Qv p).2 with
   |none=>rw [hr] at h;cases h
   |some K=>
    rw [hr] at h
    simp only [Option.map_some,Option.some.injEq] at h
    subst h
    rcases List.mem_cons.1 hc with rfl|hc
    ·refine ⟨?_,b1⟩
     cases hcb:cB (Qv p).1 with
     |true=>rfl
     |false=>exact absurd (.inr hcb) hb
    ·exact Qh9 n _ K b2 hr c hc
theorem Qlq {l:Str} (h:(QC QX l).2=0):pB (QC QX l).1=true∧∀c∈(QC QX l).1,brC c:=by
 rw [QjN] at h⊢
 unfold QF at h⊢
 by_cases hl:2000<l.length
 ·rw [if_pos hl] at h;cases h
 rw [if_neg hl] at h⊢
 cases hr:QaD (PS.start l).l.length (PS.start l) with
 |none=>rw [hr] at h;cases h
 |some L=>
  rw [hr] at h
  dsimp only at h⊢
  by_cases h24:24<L.length
  ·rw [if_pos h24] at h;cases h
  rw [if_neg h24]
  have hg:=Qh9 _ _ L (QqM Ya) hr
  refine ⟨?_,fun c hc=>(hg c hc).2⟩
  unfold pB
  simp only [Bool.and_eq_true,decide_eq_true_eq,List.all_eq_true]
  exact ⟨by omega,fun c hc=>(hg c hc).1⟩
theorem QqY {l:Str} (h:(QM QX l).2.2=0):qB ((QM QX l).2.1:Nat) (QM QX l).1=true∧(QM QX l).1.brief∧0<(QM QX l).1.length:=by
 rw [QjL] at h⊢
 unfold Qbo at h⊢
 by_cases hl:2000<l.length
 ·rw [if_pos hl] at h;cases h
 rw [if_neg hl] at h⊢
 dsimp only at h⊢
 split
 ·rename_i hb;rw [if_pos hb] at h;cases h
 ·rename_i hb
  obtain ⟨b1,_⟩:=Qgc (Qfs 24) [46] (PS.start l) (QqM Ya)
  refine ⟨?_,b1,?_⟩
  ·cases hq:qB ((QJ (PS.start l)).2.vars.length:Nat) (QaI (QJ (PS.start l)).1) with
   |true=>rfl
   |false=>exact absurd (.inr (.inr hq)) hb
  ·unfold QJ QO;simp only [QaI,Ts.length];omega
open Go.Shelf
def QpP (e:Ev):Str:=Qbh e.1 e.2
def QiU (p q:Str) (fuel every:Int):List Str×Int:=
 if (QC QX p).2≠0 then ([],(QC QX p).2)
 else if (QM QX q).2.2≠0 then ([],(QM QX q).2.2)
 else if every<0 then ([],2)
 else if (QdU (QC QX p).1 (QM QX q).1 ((QM QX q).2.1:Nat) fuel).2≠0 then ([],(QdU (QC QX p).1 (QM QX q).1 ((QM QX q).2.1:Nat) fuel).2)
 else ((QdU (QC QX p).1 (QM QX q).1 ((QM QX q).2.1:Nat) fuel).1.map QpP,0)
theorem Qj5 {v:Nat} (hv:v≤1000000):∀T:Ts,T.good v=true→rng T
 | .nil,_=>trivial
 | .cons k n s a r,h=>by
  simp only [Ts.good,Bool.and_eq_true] at h
  refine ⟨?_,Qj5 hv a h.1.2,Qj5 hv r h.2⟩
  have:=h.1.1
  unfold QaH at this
  split at this
  ·simp only [Bool.and_eq_true,decide_eq_true_eq] at this;omega
  split at this
  ·simp only [Bool.and_eq_true,decide_eq_true_eq] at this;omega
  split at this
  ·simp only [Bool.and_eq_true,decide_eq_true_eq] at this;omega
  split at this
  ·simp only [Bool.and_eq_true,decide_eq_true_eq] at this;omega
  ·cases this
theorem QsK (k n:Int) (s:ByteArray) (hn: -9223372036854775808≤n∧n≤9223372036854775807) (hs:s.size≤2000):(QaO k n s.data.toList).length≤2000:=by
 unfold QaO
 split
 ·unfold Qbs;split<;>simp
 split
 ·have:=Lib.itoa_length_le n hn.1 hn.2;omega
 split
 ·rw [Array.length_toList];exact hs
 ·simp
theorem Qmn:∀(T:Ts) (c:Bool),T.brief→rng T→(QeI c T).length≤T.nodes*2003
 | .nil,c,_,_=>by simp [QeI]
 | .cons k n s a r,c,hb,hr=>by
  have h1:=QsK k n s hr.1 hb.1
  have h2:=Qmn a false hb.2.1 hr.2.1
  have h3:=Qmn r true hb.2.2 hr.2.2
  simp only [QeI,List.length_append,Ts.nodes]
  have h4:(if c=true then ([44]:Str) else []).length≤1:=by split<;>simp
  have h5:(if QcR k a=true then (40::(QeI false a++[41]):Str) else []).length≤(QeI false a).length+2:=by split<;>simp
  omega
theorem Qqu:∀(i:Nat) (T:Ts),T.brief→rng T→i+T.length≤1000000→(Qbz i T).length≤T.nodes*2030
 |i,.nil,_,_,_=>by simp [Qbz]
 |i,.cons k n s a r,hb,hr,hi=>by
  simp only [Ts.length] at hi
  have h1:=Qmn (.cons k n s a .nil) false ⟨hb.1,hb.2.1,trivial⟩ ⟨hr.1,hr.2.1,trivial⟩
  have h2:=Qqu (i+1) r hb.2.2 hr.2.2 Ya
  have h3:=Lib.itoa_length_le (i:Nat) Ya Ya
  simp only [Qbz,List.length_append,List.length_cons,List.length_nil,Ts.nodes] at h1⊢
  omega
theorem QlW {P:List Cl} {q:Ts} {vars fuel:Int} (hp:∀c∈P,brC c) (hq:q.brief):∀e∈(QdU P q vars fuel).1,e.2.nodes≤200∧rng e.2∧e.2.brief∧(QpP e).length≤1000000:=by
 intro e he
 have hb:=Qzw hp hq e he
 by_cases h0:(QdU P q vars fuel).2=0
 ·obtain ⟨l,k,hr⟩:=QhW h0
  rw [hr.eq] at he
  have key:e.2.nodes≤200∧rng e.2:=by
   rcases List.mem_append.1 he with he|he
   ·obtain ⟨T,hT,rfl⟩:=List.mem_map.1 he
    have:=hr.ans T hT
    exact ⟨this.2.1,Qj5 (v:=200) Ya T this.2.2⟩
   ·rw [List.mem_singleton.1 he];exact ⟨by simp [Ts.nodes],trivial⟩
  refine ⟨key.1,key.2,hb,?_⟩
  have hl:=e.2.length_le
  have hv:=Qqu 0 e.2 hb key.2 Ya
  unfold QpP Qbh
  split
  ·rw [List.length_append];simp only [List.length_cons,List.length_nil];omega
  ·unfold Qi5
   repeat' split
   all_goals simp
 ·rw [Qqh h0] at he;cases he
theorem Qqe {P:List Cl} {q:Ts} {vars fuel:Int}:(QdU P q vars fuel).1.length≤13:=by
 by_cases h0:(QdU P q vars fuel).2=0
 ·obtain ⟨l,k,hr⟩:=QhW h0
  rw [hr.eq]
  have:=hr.six.2
  simp [Qdc];omega
 ·rw [Qqh h0];simp
section
variable {P:Program} {Q:Exit→Act→World→Prop} {ops:Array Oper} {rest:List Oper} {n d:Nat} {e:Env} {w:World} {ty:TypeId} {pos:String} {after:Array Edge}
theorem Ql3 {j:Nat} (h:yd ops n e j=some undef):yielded ops (arr n e) j=none:=by
 unfold yd at h
 unfold yielded
 cases ho:ops[j]? with
 |none=>rfl
 |some o=>
  rw [ho] at h
  simp only [Option.bind_some] at h⊢
  cases hd:o.dst with
  |none=>rfl
  |some t=>
   rw [hd] at h
   simp only [Option.bind_some] at h⊢
   by_cases ht:t<n
   ·have h':Nat.blt t n=true:=by simpa [Nat.blt_eq] using ht
    rw [h',cond_true] at h
    have hl:(arr n e)[t]?=some (lk e t):=by simp [arr,ht]
    rw [hl,Option.some.inj h]
    rfl
   ·have h':Nat.blt t n=false:=Qvy ht
    rw [h',cond_false] at h;cases h
theorem QuN {op:Op} {j:Nat} {g:Bool} (hy:yd ops n e j=some undef) (hd:Nat.blt d n=true)
  (h:Lst P Q ops rest n ((d,undef)::e) w):Lst P Q ops (⟨some d,op,ty,pos,after,some (j,g)⟩::rest) n e w:=by
 unfold Lst at h⊢
 unfold wpList
 rw [if_neg (by simp [Region.wanted,act,Ql3 hy]),Qfn hd]
 exact h
end
section
variable {P:Program} {n:Nat} {e:Env} {w:World} {ty:TypeId} {pos:String} {after:Array Edge} {x y z:Operand} {dst:Option Nat} {t:TypeId}
theorem QkA {i j:Int} {l:Str} (hx:ev n e x=sv l) (hy:ev n e y= .int .i64 i) (hz:ev n e z= .int .i64 j) (hT:Qa3 P t=true) (h0:0≤i) (h1:i≤j) (h2:j.toNat≤l.length):
  (execOp (ev n e) ⟨dst,.slice t x (some y) (some z) none,ty,pos,after,none⟩).run P w= .ok (.value (sv ((l.take j.toNat).drop i.toNat))) w:=by
 have hu:=run_underlying (Qf4 hT) w
 have hs:(⟨l.toArray⟩:ByteArray).size=l.length:=Qba l
 simp only [execOp,Instr.sliceAt,Instr.slice,hx,hy,hz,sv,Option.map_some,Option.map_none,bind,pure,Sem.bind]
 rw [Sem.run_bind',Sem.run_bind',hu]
 simp only [Result.andThen_ok]
 rw [Sem.run_bind',hu]
 simp only [Result.andThen_ok,Instr.sliceBounds,Option.isSome_none,Bool.false_eq_true,if_false,bind,pure,Sem.bind]
 rw [Sem.run_bind',Sem.run_bind',QcB rfl Ya (by rw [hs];omega)]
 simp only [Result.andThen_ok]
 rw [Sem.run_bind',QcB rfl h0 Ya]
 simp only [Result.andThen_ok]
 have:∀a b c:Nat,Sem.run P (Sem.pure (a,b,c)) w= .ok (a,b,c) w:=fun _ _ _=>rfl
 rw [this]
 simp only [Result.andThen_ok,Sem.run,QhM]
end
section
variable {P:Program} {n:Nat} {e:Env} {w w':World} {ty:TypeId} {pos:String} {after:Array Edge} {x y z:Operand} {dst:Option Nat} {t t2:TypeId}
theorem QtX {a c:Int} (hx:ev n e x= .int .i64 a) (hy:ev n e y= .int .i64 c) (h1: -9223372036854775808≤a*c) (h2:a*c≤9223372036854775807):
  (execOp (ev n e) ⟨dst,.binOp .mul t x y t2,ty,pos,after,none⟩).run P w= .ok (.value (.int .i64 (a*c))) w:=by
 have:(execOp (ev n e) ⟨dst,.binOp .mul t x y t2,ty,pos,after,none⟩).run P w= .ok (.value (.int .i64 (IntKind.i64.wrap (a*c)))) w:=by simp only [execOp,hx,hy];rfl
 rw [this,QdH h1 h2]
theorem QzS (c:UInt8):IntKind.u8.wrap ((c.toNat:Int)-48)=((c-48).toNat:Int):=by
 have h:∀k:Fin 256,IntKind.u8.wrap (((UInt8.ofNat k.val).toNat:Int)-48)=((UInt8.ofNat k.val-48).toNat:Int):=by decide+kernel
 have:=h ⟨c.toNat,c.toNat_lt⟩
 simpa using this
theorem Qk2 {c:UInt8} (hx:ev n e x= .int .u8 c.toNat) (hy:ev n e y= .int .u8 48):
  (execOp (ev n e) ⟨dst,.binOp .sub t x y t2,ty,pos,after,none⟩).run P w= .ok (.value (.int .u8 ((c-48).toNat:Nat))) w:=by
 have:(execOp (ev n e) ⟨dst,.binOp .sub t x y t2,ty,pos,after,none⟩).run P w= .ok (.value (.int .u8 (IntKind.u8.wrap ((c.toNat:Int)-48)))) w:=by simp only [execOp,hx,hy];rfl
 rw [this,QzS]
def Qrq (P:Program) (t:TypeId) (k:IntKind):Bool:=match P.underlying t with|some (.int q)=>q==k|_=>false
theorem QAd {k:IntKind} (h:Qrq P t k=true):P.underlying t=some (.int k):=by
 unfold Qrq at h
 split at h
 ·rename_i q hq;rw [hq,eq_of_beq h]
 ·cases h
theorem QfS {u v:Value} {src dt:TypeId} (hx:ev n e x=u) (h:(convert src dt u).run P w= .ok v w'):(execOp (ev n e) ⟨dst,.convert src dt x,ty,pos,after,none⟩).run P w= .ok (.value v) w':=by
 subst hx
 show (Sem.bind (convert _ _ _) _).run _ _=_
 rw [Sem.run_bind',h]
 rfl
theorem QkG {c:UInt8} {src dt:TypeId} (hx:ev n e x= .int .u8 (c.toNat:Nat)) (hs:Qrq P src .u8=true) (hd:Qrq P dt .i64=true):
  (execOp (ev n e) ⟨dst,.convert src dt x,ty,pos,after,none⟩).run P w= .ok (.value (.int .i64 (c.toNat:Nat))) w:=by
 refine QfS hx ?_
 have:=c.toNat_lt
 simp [convert,run_underlying (QAd hs),run_underlying (QAd hd),Conv.intToInt]
 exact QdH Ya Ya
end
def Sx (φ:World→Prop) (v:Value) (l:List Str):Prop:=∃A c,v= .slice A l.length c∧l.length≤c∧(0<l.length→∃b o,A=some ⟨b,o,none⟩∧∀w,φ w→∀(j:Nat) (x:Str),l[j]?=some x→w.cell? ⟨b,o+j,none⟩=some (sv x))
theorem Sx.tail {φ:World→Prop} {A:Option Addr} {c len:Nat} {x:Str} {r:List Str} (h:Sx φ (.slice A len c) (x::r)):Sx φ (.slice (if c=1 then A else A.map (·.add 1)) (len-1) (c-1)) r:=by
 obtain ⟨A',c',e,hc,hs⟩:=h
 simp only [Value.slice.injEq] at e
 obtain ⟨rfl,rfl,rfl⟩:=e
 simp only [List.length_cons] at hc hs⊢
 refine ⟨_,_,by rw [Nat.add_sub_cancel],by omega,fun hr=> ?_⟩
 obtain ⟨b,o,rfl,hj⟩:=hs Ya
 rw [if_neg Ya]
 refine ⟨b,o+1,by simp [Qan],fun w hw j y hy=> ?_⟩
 have:=hj w hw (j+1) y (by simpa using hy)
 rwa [show o+(j+1)=o+1+j by omega] at this
theorem Sx.head {φ:World→Prop} {A:Option Addr} {c len:Nat} {x:Str} {r:List Str} (h:Sx φ (.slice A len c) (x::r)):len=r.length+1∧len≤c∧∃b o,A=some ⟨b,o,none⟩∧∀w,φ w→w.cell? ⟨b,o,none⟩=some (sv x):=by
 obtain ⟨A',c',e,hc,hs⟩:=h
 simp only [Value.slice.injEq] at e
 obtain ⟨rfl,rfl,rfl⟩:=e
 obtain ⟨b,o,rfl,hj⟩:=hs Yd
 exact ⟨by simp,hc,b,o,rfl,fun w hw=>hj w hw 0 x rfl⟩
theorem Sx.form {φ:World→Prop} {v:Value} {l:List Str} (h:Sx φ v l):∃A c,v= .slice A l.length c∧l.length≤c:=by
 obtain ⟨A,c,rfl,hc,_⟩:=h
 exact ⟨A,c,rfl,hc⟩
section
variable {M:List Nat} {w0:World} {H:List (Nat×Obj)} {F:List (World→Prop)}
theorem St.shutS {v:Value} {O:List (Nat×Obj)} {l:List Str} {w:World} {el:Nat} (hr:Row el 1 v l.length (l.map sv) O) (hS:St M w0 (O++H) F w):
  ∃φ,Sx φ v l∧St M w0 H (φ::F) w:=by
 generalize hl:l.length=ll at hr
 generalize hx:l.map sv=xs at hr
 cases hr with
 |nil_=>
  refine ⟨fun _=>True,⟨none,0,by rw [hl],by omega,fun h=>by omega⟩,?_⟩
  exact hS.learn fun _ _=>trivial
 |own_ h1 h2 h3 hcp=>
  rename_i bl cap sp
  subst hx
  refine ⟨fun w'=>w'.heap[bl]?=some (.cells (l.map sv++sp).toArray el),⟨_,cap,by rw [hl],by omega,fun _=>⟨bl,0,rfl,fun w' hw' j x hj=> ?_⟩⟩,?_⟩
  ·rw [Qs hw',Nat.zero_add,List.getElem?_append_left (by
    have:j<l.length:=by
     rcases Nat.lt_or_ge j l.length with h|h
     ·exact h
     ·rw [List.getElem?_eq_none h] at hj;cases hj
    simpa using this),List.getElem?_map,hj]
   rfl
  ·have hbl:w.heap[bl]?=some (.cells (l.map sv++sp).toArray el):=hS.own (bl,_) Yd
   have hnk:bl∉H.map (·.1):=fun hk=>by
    obtain ⟨q,hq,e⟩:=List.mem_map.1 hk
    exact (List.pairwise_cons.1 hS.apart).1 q hq e.symm
   exact (St.dropL hS).learn fun w' hx=>by rw [hx.block bl (Qc0 hbl) hnk];exact hbl
end
end Go.Proofs.YthliapbflkfdiacGreatDoor
