/- SWalk11, SEnds, SMore, ENames, ERead, EPure, PassU, Cuts: texts that follow one another, laid into one file. -/
import Derived.Test.YthliapbflkfdiacGreatDoorZ0
import Derived.Test.YthliapbflkfdiacGreatDoorG13
import Derived.Test.YthliapbflkfdiacGreatDoorG6
import Derived.Test.YthliapbflkfdiacGreatDoorG5
import Derived.Test.YthliapbflkfdiacGreatDoorG1
import Derived.Test.YthliapbflkfdiacGreatDoorG2
import Derived.Lib.ConvBytes
namespace Go.Proofs.YthliapbflkfdiacGreatDoor
open Go.RowKit
set_option linter.unusedVariables false
set_option linter.unusedSimpArgs false
set_option maxRecDepth 100000
set_option maxHeartbeats 1000000
structure KE where
 k:Int
 A:Option Addr
 c:Nat
 T:TA
def KE.ev (x:KE):Ev:=(x.k,x.T.ts)
abbrev Qv4 (x:KE):List Value:=[.int .i64 x.k,.slice x.A x.T.len x.c]
def keL:List KE→List Value
 |[]=>[]
 |x::r=>Qv4 x++keL r
theorem QuH (a b:List KE):keL (a++b)=keL a++keL b:=by
 induction a with
 |nil=>rfl
 |cons c r ih=>simp [keL,ih]
theorem Qvh (l:List LE):evL l=keL (l.map fun e=>⟨1,e.A,e.c,e.T⟩):=by
 induction l with
 |nil=>rfl
 |cons c r ih=>simp [evL,keL,ih]
def Qu4 (w:World) (b:Nat):List KE→Nat→Prop
 |[],_=>True
 |x::r,o=>w.cell? ⟨b,o,none⟩=some (.int .i64 x.k)∧w.cell? ⟨b,o+1,none⟩=some (.slice x.A x.T.len x.c)∧Qu4 w b r (o+2)
def KER (L:List KE) (A:Option Addr) (c:Nat) (w:World):Prop:=L.length≤c∧(0<L.length→∃b o,A=some ⟨b,o,none⟩∧Qu4 w b L o)∧∀x∈L,ArA x.A x.c x.T w
theorem Qu4.skip {w:World} {b:Nat} {R:List KE}:∀{D:List KE} {o:Nat},Qu4 w b (D++R) o→Qu4 w b R (o+D.length*2)
 |[],o,h=>by simpa using h
 |c::D,o,⟨_,_,h⟩=>by
  have:=Qu4.skip (R:=R) (D:=D) h
  rwa [show o+2+D.length*2=o+(c::D).length*2 by simp;omega] at this
theorem KER.some_ {L:List KE} {A:Option Addr} {c:Nat} {w:World} (h:KER L A c w) (hl:0<L.length):∃b o,A=some ⟨b,o,none⟩:=by
 obtain ⟨b,o,e,_⟩:=h.2.1 hl
 exact ⟨b,o,e⟩
theorem KER.cells {D R:List KE} {x:KE} {b o c:Nat} {w:World} (h:KER (D++x::R) (some ⟨b,o,none⟩) c w):w.cell? ⟨b,o+D.length*2,none⟩=some (.int .i64 x.k)∧w.cell? ⟨b,o+D.length*2+1,none⟩=some (.slice x.A x.T.len x.c):=by
 obtain ⟨b',o',e,hs⟩:=h.2.1 Yh
 simp only [Option.some.injEq,Addr.mk.injEq,and_true] at e
 obtain ⟨rfl,rfl⟩:=e
 obtain ⟨h0,h1,_⟩:=hs.skip
 exact ⟨h0,h1⟩
theorem Qrk {w:World} {b:Nat}:∀{L:List KE} {o:Nat},(∀j u,(keL L)[j]?=some u→w.cell? ⟨b,o+j,none⟩=some u)→Qu4 w b L o
 |[],_,_=>trivial
 | c :: r, o, h => ⟨h 0 _ rfl, h 1 _ rfl, Qrk fun j u hu => by
     rw [show o+2+j=o+(j+2) by omega]
     exact h (j+2) u (by simpa [keL] using hu)⟩
theorem St.freezeK {M:List Nat} {w0 w:World} {H O:List (Nat×Obj)} {F:List (World→Prop)} {el:Nat} {A:Option Addr} {c:Nat} {L:List KE} (hr:Row el 2 (.slice A L.length c) L.length (keL L) O) (hR:∀x∈L,Und F (ArA x.A x.c x.T)) (hS:St M w0 (O++H) F w):
  ∃F',(∀φ∈F,φ∈F')∧Und F' (KER L A c)∧St M w0 H F' w:=by
 obtain ⟨F',h1,h2,h3⟩:=St.freezeL hS
 refine ⟨F',h1,fun w' hw'=>⟨hr.cap,fun hl=> ?_,fun x hx=>(hR x hx).mono h1 w' hw'⟩,h3⟩
 obtain ⟨g,sp,rfl,rfl,_⟩:=hr.some_ hl
 refine ⟨g,0,rfl,Qrk fun j u hu=> ?_⟩
 have hjl:j<(keL L).length:=by
  rcases Nat.lt_or_ge j (keL L).length with hh|hh
  ·exact hh
  ·rw [List.getElem?_eq_none hh] at hu;cases hu
 rw [Qt (h2 _ (.head _) w' hw'),Nat.zero_add,List.getElem?_append_left hjl];exact hu
section
variable {M:List Nat} {w0:World} {H:List (Nat×Obj)} {F:List (World→Prop)}
theorem Qk6 (p:List Cl) (vars n:Nat) (s:SS):QsJ p vars (n+1) s=if (Qbc p vars s).1=0 then QsJ p vars n (Qbc p vars s).2 else QlV (Qbc p vars s).2.ev++[((Qbc p vars s).1,.nil)]:=rfl
end
def okV (V:Int) (t:Tm):Prop:=(Ts.cons t.k t.n t.s t.ar .nil).good V=true
theorem Qkj (V:Int) (k n:Int) (s:ByteArray) (a r:Ts):(Ts.cons k n s a r).good V=((Ts.cons k n s a .nil).good V&&r.good V):=by simp [Ts.good]
theorem Qlv {V:Int} {g:Tm→Nat→Option (Tm×Nat)} (hg:∀t l p,okV V t→g t l=some p→okV V p.1):∀(T:Ts) (l:Nat) (p:Ts×Nat),T.good V=true→Qin g T l=some p→p.1.good V=true∧p.1.length=T.length
 | .nil,l,p,_,h=>by
  simp only [Qin,Option.some.injEq] at h
  subst h
  exact ⟨rfl,rfl⟩
 | .cons k n s a r,l,p,hT,h=>by
  rw [Qkj,Bool.and_eq_true] at hT
  rw [QhQ] at h
  cases h1:g ⟨k,n,s,a⟩ l with
  |none=>rw [h1] at h;cases h
  |some q=>
   rw [h1,Option.bind_some] at h
   cases h2:Qin g r q.2 with
   |none=>rw [h2] at h;cases h
   |some x=>
    rw [h2,Option.map_some,Option.some.injEq] at h
    subst h
    obtain ⟨i1,i2⟩:=Qlv hg r q.2 x hT.2 h2
    have:=hg ⟨k,n,s,a⟩ l q hT.1 h1
    refine ⟨?_,by simp only [Ts.length,i2]⟩
    rw [Qkj,Bool.and_eq_true];exact ⟨this,i1⟩
theorem QoA {V:Int} {B:Bnd} (hB:∀x∈B,okV V x.2):∀(f:Nat) (t:Tm) (l:Nat) (p:Tm×Nat),okV V t→QjF B f t l=some p→okV V p.1
 |0,t,l,p,_,h=>by cases h
 |f+1,t,l,p,ht,h=>by
  have hl:=Qjk (Q:=okV V) hB ht
  rw [Qih] at h
  by_cases h0:l=0
  ·rw [if_pos h0] at h;cases h
  ·rw [if_neg h0] at h
   cases h1:Qin (QjF B f) (Qh B t).ar (l-1) with
   |none=>rw [h1] at h;cases h
   |some q=>
    rw [h1,Option.map_some,Option.some.injEq] at h
    subst h
    unfold okV at hl⊢
    simp only [Ts.good,Bool.and_eq_true] at hl⊢
    obtain ⟨i1,i2⟩:=Qlv (fun t l p h1 h2=>QoA hB f t l p h1 h2) _ _ _ hl.1.2 h1
    exact ⟨⟨by rw [i2];exact hl.1.1,i1⟩,trivial⟩
theorem QiN {B:Bnd} (hB:∀x∈B,okV 549755813888 x.2):∀(m v l:Nat) (p:Ts×Nat),v+m≤1000→QbX B m v l=some p→p.1.good 549755813888=true
 |0,v,l,p,_,h=>by
  simp only [QbX,Option.some.injEq] at h
  subst h
  rfl
 | m + 1, v, l, p, hv, h => by
  rw [QfJ] at h
  cases h1:QjF B 201 ⟨0,v,⟨#[]⟩,.nil⟩ l with
  |none=>rw [h1] at h;cases h
  |some q=>
   rw [h1,Option.bind_some] at h
   cases h2:QbX B m (v+1) q.2 with
   |none=>rw [h2] at h;cases h
   |some x=>
    rw [h2,Option.map_some,Option.some.injEq] at h
    subst h
    have h3:okV 549755813888 ⟨0,v,⟨#[]⟩,.nil⟩:=by
     unfold okV
     simp only [Ts.good,Bool.and_eq_true,and_true]
     unfold Qa6
     rw [if_pos rfl]
     simp only [Bool.and_eq_true,decide_eq_true_eq]
     exact ⟨⟨⟨by omega,by omega⟩,Qaq []⟩,rfl⟩
    have:=QoA hB 201 _ l q h3 h1
    show (Ts.cons _ _ _ _ x.1).good _=true
    rw [Qkj,Bool.and_eq_true]
    exact ⟨this,QiN hB m (v+1) q.2 x Ya h2⟩
theorem QuC (ks:List Int) (n:Int):(QqQ ks n).length≤ks.length+1∧ks.length≤(QqQ ks n).length:=by
 unfold QqQ
 split
 ·omega
 ·simp
theorem QuB (ks:List Int) (n:Int):0≤QqP ks n∧QqP ks n≤ks.length:=by
 unfold QqP
 cases h:pos n ks with
 |none=>simp
 |some j=>have:=QtH h;simp;omega
theorem Qqf {V:Int} (u:Nat) (T:Ts):∀ks:List Int,T.good V=true→ks.length+T.nodes≤u→(T.tidyFrom ks).1.good u=true∧(T.tidyFrom ks).2.length≤ks.length+T.nodes∧(T.tidyFrom ks).1.length=T.length∧(T.tidyFrom ks).1.nodes=T.nodes:=by
 induction T with
 |nil=>intro ks _ _;exact ⟨rfl,Nat.le_refl _,rfl,rfl⟩
 |cons k n s ar r iha ihr=>
  intro ks hg hu
  simp only [Ts.good,Bool.and_eq_true] at hg
  simp only [Ts.nodes] at hu
  have hl:(tS k n ks).length≤ks.length+1:=by
   unfold tS;split
   ·exact (QuC ks n).1
   ·omega
  obtain ⟨a1,a2,a3,a4⟩:=iha (tS k n ks) hg.1.2 Ya
  obtain ⟨b1,b2,b3,b4⟩:=ihr (ar.tidyFrom (tS k n ks)).2 hg.2 Ya
  rw [Ts.tidyFrom_cons]
  refine ⟨?_,?_,?_,?_⟩
  ·simp only [Ts.good,Bool.and_eq_true]
   refine ⟨⟨?_,a1⟩,b1⟩
   rw [a3]
   have hn:=hg.1.1
   unfold Qa6 at hn⊢
   unfold tV
   by_cases e:k=0
   ·rw [if_pos e] at hn⊢
    rw [if_pos e]
    simp only [Bool.and_eq_true,decide_eq_true_eq] at hn⊢
    have:=QuB ks n
    exact ⟨⟨⟨this.1,by omega⟩,hn.1.2⟩,hn.2⟩
   ·rw [if_neg e] at hn⊢
    rw [if_neg e]
    exact hn
  ·simp only [Ts.nodes];omega
  ·simp only [Ts.length,b3]
  ·simp only [Ts.nodes,a4,b4]
def Qtx (vars:Nat) (T:Ts):Prop:=T.length=vars∧T.nodes≤200∧T.good 200=true
theorem Qvn {s:SS} {vars:Nat} (hI:QeY s) (hv:vars≤8) {T:Ts} {l:Nat} (h:QbX s.B vars 0 200=some (T,l)):Qtx vars T.tidy:=by
 obtain ⟨h1,h2⟩:=Qg9 _ _ _ _ h
 have h3:=QiN (fun x hx=>(hI.gb x hx).1) vars 0 200 _ Ya h
 dsimp only at h1 h2 h3
 obtain ⟨g1,g2,g3,g4⟩:=Qqf 200 T [] h3 Yh
 exact ⟨g3.trans h2,by show (T.tidyFrom []).1.nodes≤200;omega,g1⟩
theorem Qef {s:SS} (h:QeY s):(Qa0 s).1=0∨(Qa0 s).1=2∨(Qa0 s).1=4:=(Qcd h).2.2
theorem Qjy {s:SS} {a t:Tm} (hI:QeY s) (hsl:s.B.length+10100*(mu s+1)≤1000000000) (ha:tgd a) (ht:tgd t):(Qbt a t s).1=0∨(Qbt a t s).1=2∨(Qbt a t s).1=4:=by
 have hi:=QdV hI hsl ha ht
 unfold Qbt
 simp only
 split
 ·exact .inr (.inr rfl)
 split
 ·exact .inl rfl
 ·exact Qef hi
structure Qvt (vars:Nat) (s:SS) (r:List Ev) (l:List Ts) (k:Int):Prop where
 eq:r=QlV l++[(k,.nil)]
 ans:∀T∈l,Qtx vars T
 kind:2≤k∧k≤6
 more:∃m,l=s.ev++m
 six:(k=6↔l.length=12)∧l.length≤12
theorem QsC (p : List Cl) (vars : Nat) (s : SS) (hI : Inv s) (hev : s.ev.length < 12) (hp : pB p = true) : (Qbc p vars s).1 = 6 ↔ (Qbc p vars s).2.ev.length = 12 := by
 rcases QgI p vars s hI hp with h|⟨T,l,hv,h,h6⟩
 ·rw [h]
  constructor
  ·intro e
   exfalso
   -- no step but an answer ends so
   have hp2:p.length≤24∧∀x∈p,cB x=true:=by
    unfold pB at hp
    simp only [Bool.and_eq_true,decide_eq_true_eq,List.all_eq_true] at hp
    exact hp
   unfold Qbc at e h
   cases hg:s.goals with
   |nil=>
    rw [hg] at e h
    simp only at e h
    unfold QeT at e h
    cases hv:QbX s.B vars 0 200 with
    |none=>rw [hv] at e;cases e
    |some x=>
     rw [hv] at e h
     simp only at e h
     have hi:QeY ⟨s.B,s.fresh,s.fuel,s.goals,s.ch,s.ev++[x.1.tidy]⟩:=⟨hI.c.bok,hI.c.gb,hI.c.ch,hI.c.fr,hI.c.bl⟩
     split at h
     ·have:=congrArg List.length h;simp at this
     ·rw [(Qcd hi).2.1] at h
      have:=congrArg List.length h;simp at this
   |cons g rest=>
    rw [hg] at e
    simp only at e
    split at e
    ·cases e
    rename_i hf
    obtain ⟨h1,h2,h3,h4,h5,h6,h7⟩:=QcO hI hg hf
    split at e
    ·rename_i hb
     have hd:=Qb8 _ h6
     unfold QaJ at hb
     unfold QcC at e
     split at e
     ·cases e
     rename_i k1
     rw [if_neg k1] at hb
     split at e
     ·cases e
     rename_i k2
     rw [if_neg k2] at hb
     split at e
     ·rename_i k3
      rw [if_neg (by rw [k3];decide),if_pos k3] at hb
      have hl:g.1.ar.length=2:=by simpa using hb
      rcases Qjy h1 h2 (hd _ (Ts.at_mem (i:=0) Ya)) (hd _ (Ts.at_mem (i:=1) Ya)) with q|q|q<;>rw [q] at e<;>cases e
     split at e
     ·unfold QiD at e
      simp only at e
      split at e
      ·cases e
      split at e
      ·rcases Qef h1 with q|q|q<;>rw [q] at e<;>cases e
      ·cases e
     split at e
     ·rename_i k5
      rw [if_neg (by rw [k5];decide),if_neg (by rw [k5];decide),if_neg (by rw [k5];decide),if_pos k5] at hb
      have hl:g.1.ar.length=3:=by simpa using hb
      unfold Qsl at e
      simp only at e
      split at e
      ·cases e
      split at e
      ·cases e
      ·rename_i hr
       have tn:tgd ⟨2,(Qh s.B (g.1.ar.at_ 0)).n+(Qh s.B (g.1.ar.at_ 1)).n,⟨#[]⟩,.nil⟩:=by
        refine ⟨?_,by simp [Ts.nodes]⟩
        simp only [Ts.good,Bool.and_eq_true,and_true]
        unfold Qa6
        rw [if_neg Yg,if_neg Yg,if_pos rfl]
        simp only [Bool.and_eq_true,decide_eq_true_eq]
        exact ⟨⟨⟨by omega,by omega⟩,Qaq []⟩,rfl⟩
       rcases Qjy h1 h2 (hd _ (Ts.at_mem (i:=2) Ya)) tn with q|q|q<;>rw [q] at e<;>cases e
     ·rcases Qef h1 with q|q|q<;>rw [q] at e<;>cases e
    ·cases hm:p.filter (Qfq g.1) with
     |nil=>rw [hm] at e;cases e
     |cons c cs=>
      rw [hm] at e
      simp only at e
      have hsub:∀x∈c::cs,cB x=true:=fun x hx=>hp2.2 x (by rw [←hm] at hx;exact (List.mem_filter.1 hx).1)
      have hlen:(c::cs).length≤24:=by rw [←hm];exact Nat.le_trans (List.length_filter_le _ _) hp2.1
      obtain ⟨i1,i2⟩:=QgO hI hg hf hsub hlen
      rcases Qef i1 with q|q|q<;>rw [q] at e<;>cases e
  ·intro e;omega
 ·rw [h6,h];simp
theorem QtD (p:List Cl) (vars:Nat) (hp:pB p=true) (hv:vars≤8):∀(n:Nat) (s:SS),Inv s→s.ev.length<12→mu s<n→(∀T∈s.ev,Qtx vars T)→∃l k,Qvt vars s (QsJ p vars n s) l k
 |0,s,_,_,h,_=>by omega
 | n + 1, s, hI, hev, hmu, ha => by
  obtain ⟨hst,hst2⟩:=QjO (vars:=vars) hI hev hp
  have hsix:=QsC p vars s hI hev hp
  have hle:=Qqk p vars s hI hev hp
  have hext:∃m,(Qbc p vars s).2.ev=s.ev++m:=by
   rcases QgI p vars s hI hp with h|⟨T,l,_,h,_⟩
   ·exact ⟨[],by rw [h];simp⟩
   ·exact ⟨[T.tidy],h⟩
  have ha2:∀T∈(Qbc p vars s).2.ev,Qtx vars T:=by
   rcases QgI p vars s hI hp with h|⟨T,l,hT,h,_⟩
   ·rw [h];exact ha
   ·rw [h]
    intro X hX
    rcases List.mem_append.1 hX with hX|hX
    ·exact ha X hX
    ·obtain rfl:X=T.tidy:=by simpa using hX
     exact Qvn hI.c hv hT
  rw [Qk6]
  by_cases h0:(Qbc p vars s).1=0
  ·rw [if_pos h0]
   obtain ⟨l,k,hr⟩:=QtD p vars hp hv n _ (hst.go h0).1 (hst2 h0) (by have:=(hst.go h0).2;omega) ha2
   obtain ⟨m1,e1⟩:=hext
   obtain ⟨m2,e2⟩:=hr.more
   exact ⟨l,k,hr.eq,hr.ans,hr.kind,⟨m1++m2,by rw [e2,e1,List.append_assoc]⟩,hr.six⟩
  ·rw [if_neg h0]
   have hk:=hst.kind
   exact ⟨_,_,rfl,ha2,by omega,hext,hsix,hle⟩
theorem Qvp {p:List Cl} {q:Ts} {vars fuel:Int} (h:(Qg1 p q vars fuel).2=0):pB p=true∧qB vars q=true∧0≤vars∧vars≤8∧0≤fuel∧fuel≤150∧Qg1 p q vars fuel=(QsJ p vars.toNat 4000 (Qcl q vars.toNat fuel.toNat),0)∧Inv (Qcl q vars.toNat fuel.toNat)∧mu (Qcl q vars.toNat fuel.toNat)≤3750:=by
 unfold Qg1 at h⊢
 split at h
 ·cases h
 rename_i h1
 split at h
 ·cases h
 rename_i h2
 have hp:pB p=true:=by cases hb:pB p with
  |true=>rfl
  |false=>exact absurd (.inl hb) h1
 have hq:qB vars q=true:=by cases hb:qB vars q with
  |true=>rfl
  |false=>exact absurd (.inr hb) h1
 have hq2:=hq
 simp only [qB,Bool.and_eq_true,decide_eq_true_eq] at hq2
 rw [if_neg h1,if_neg h2]
 obtain ⟨i1,i2⟩:=Qhh (q:=q) (vars:=vars.toNat) (fuel:=fuel.toNat) (by rw [Int.toNat_of_nonneg hq2.1.1.1];exact hq) Ya
 exact ⟨hp,hq,by omega,by omega,by omega,by omega,rfl,i1,i2⟩
theorem QjG {p:List Cl} {q:Ts} {vars fuel:Int} (h:(Qg1 p q vars fuel).2=0):∃l k,Qvt vars.toNat (Qcl q vars.toNat fuel.toNat) (Qg1 p q vars fuel).1 l k:=by
 obtain ⟨hp,hq,v0,v1,f0,f1,e,hI,hm⟩:=Qvp h
 rw [e]
 exact QtD p vars.toNat hp Ya 4000 _ hI (by simp [Qcl]) Ya (fun T hT=>by simp [Qcl] at hT)
theorem Qr6 {p:List Cl} {q:Ts} {vars fuel:Int} (h:(Qg1 p q vars fuel).2≠0):(Qg1 p q vars fuel).1=[]:=by
 unfold Qg1 at h⊢
 split
 ·rfl
 split
 ·rfl
 ·rename_i h1 h2
  rw [if_neg h1,if_neg h2] at h
  exact absurd rfl h
def Ts.brief:Ts→Prop
 | .nil=>True
 | .cons k n s a r=>s.size≤2000∧a.brief∧r.brief
def brT (t:Tm):Prop:=t.s.size≤2000∧t.ar.brief
theorem Ql8 {x:Tm}:∀{T:Ts},T.brief→T.Mem x→brT x
 | .cons k n s a r,h,hx=>by
  rcases hx with rfl|hx
  ·exact ⟨h.1,h.2.1⟩
  ·exact Ql8 h.2.2 hx
theorem Qot:QvP brT:=fun t h x hx=>Ql8 h.2 hx
theorem Qnh (m:Int) (T:Ts):T.brief→(T.shift m).brief:=by
 induction T with
 |nil=>intro _;exact trivial
 |cons k n s a r iha ihr=>intro h;rw [Ts.shift_cons];exact ⟨h.1,iha h.2.1,ihr h.2.2⟩
theorem Ql9 {t:Tm} {m:Int} (h:brT t):brT (t.shift m):=⟨h.1,Qnh m _ h.2⟩
theorem QpD (T:Ts):∀ks:List Int,T.brief→(T.tidyFrom ks).1.brief:=by
 induction T with
 |nil=>intro ks _;exact trivial
 |cons k n s a r iha ihr=>intro ks h;rw [Ts.tidyFrom_cons];exact ⟨h.1,iha _ h.2.1,ihr _ h.2.2⟩
theorem QrL (k n:Int):brT ⟨k,n,⟨#[]⟩,.nil⟩:=⟨by show (0:Nat)≤2000;omega,trivial⟩
def brC (c:Cl):Prop:=brT c.head∧c.bd.brief
structure Br (s:SS):Prop where
 B:∀x∈s.B,brT x.2
 goals:∀g∈s.goals,brT g.1
 ch:∀h∈s.ch,brT h.g.1∧(∀g∈h.next,brT g.1)∧∀c∈h.cls,brC c
 ev:∀T∈s.ev,T.brief
theorem Qnj {m:Int} {o:Nat} {rest:List Gl} (hr:∀g∈rest,brT g.1):∀T:Ts,T.brief→∀g∈Qkv T m o rest,brT g.1
 | .nil,_=>hr
 | .cons k n s a r,h=>by
  intro g hg
  rcases List.mem_cons.1 hg with rfl|hg
  ·exact Ql9 (t:=⟨k,n,s,a⟩) ⟨h.1,h.2.1⟩
  ·exact Qnj hr r h.2.2 g hg
theorem Qui {B:Bnd} {n:Nat} (h:∀x∈B,brT x.2):∀x∈QaB B n,brT x.2:=fun x hx=>h x (List.mem_of_mem_drop hx)
theorem Qvd {h:Ch} {cl:Cl} {more:List Cl} {cs:List Ch} (hc:∀x∈h::cs,brT x.g.1∧(∀g∈x.next,brT g.1)∧∀c∈x.cls,brC c) (h2:h.cls=cl::more):∀x∈QkG h more cs,brT x.g.1∧(∀g∈x.next,brT g.1)∧∀c∈x.cls,brC c:=by
 intro x hx
 cases more with
 |nil=>exact hc x (.tail _ hx)
 |cons m ms=>
  rcases List.mem_cons.1 hx with rfl|hx
  ·exact ⟨(hc h (.head _)).1,(hc h (.head _)).2.1,fun y hy=>(hc h (.head _)).2.2 y (by rw [h2];exact .tail _ hy)⟩
  ·exact hc x (.tail _ hx)
theorem QnU:∀(n:Nat) (s:SS),Br s→Br (QaU n s).2
 |0,s,h=>h
 |n+1,s,h=>by
  cases h1:s.ch with
  |nil=>
   have e1:QaU (n+1) s=(2,s):=by unfold QaU;rw [h1]
   rw [e1];exact h
  |cons x xs=>
   cases h2:x.cls with
   |nil=>
    have e1:QaU (n+1) s=(2,s):=by unfold QaU;rw [h1];simp only;rw [h2]
    rw [e1];exact h
   |cons cl more=>
    have hc:=h.ch
    rw [h1] at hc
    have hpop:=Qvd hc h2
    obtain ⟨hx1,hx2,hx3⟩:=hc x (.head _)
    have hcl:=hx3 cl (by rw [h2];exact .head _)
    have hu:=Qp4 Qot 401 (cl.head.shift s.fresh) x.g.1 (QaB s.B x.bound) 0 (Qui h.B) (Ql9 hcl.1) hx1
    rw [QhE h1 h2]
    split
    ·exact ⟨hu,h.goals,hpop,h.ev⟩
    split
    ·exact ⟨hu,Qnj hx2 _ hcl.2,hpop,h.ev⟩
    ·exact QnU n _ ⟨hu,h.goals,hpop,h.ev⟩
theorem QfB {s:SS} (h:Br s):Br (Qa0 s).2:=QnU _ s h
theorem Qoo {s:SS} {a t:Tm} (ha:brT a) (ht:brT t) (h:Br s):Br (Qbt a t s).2:=by
 have hu:=Qp4 Qot 401 a t s.B 0 h.B ha ht
 unfold Qbt
 simp only
 split
 ·exact ⟨hu,h.goals,h.ch,h.ev⟩
 split
 ·exact ⟨hu,h.goals,h.ch,h.ev⟩
 ·exact QfB ⟨hu,h.goals,h.ch,h.ev⟩
theorem Qtq:∀{T:Ts} (i:Nat),T.brief→brT (T.at_ i)
 | .nil,i,_=>QrL 0 0
 | .cons k n s a r,0,h=>⟨h.1,h.2.1⟩
 | .cons k n s a r,i+1,h=>Qtq (T:=r) i h.2.2
theorem Qto {s:SS} {g:Gl} (hg:brT g.1) (h:Br s):Br (QcC g s).2:=by
 unfold QcC
 split
 ·exact ⟨h.B,h.goals,fun x hx=>h.ch x (List.mem_of_mem_drop hx),h.ev⟩
 split
 ·exact h
 split
 ·exact Qoo (Qtq 0 hg.2) (Qtq 1 hg.2) h
 split
 ·unfold QiD
  simp only
  split
  ·exact h
  split
  ·exact QfB h
  ·exact h
 split
 ·unfold Qsl
  simp only
  split
  ·exact h
  split
  ·exact h
  ·exact Qoo (Qtq 2 hg.2) (QrL 2 _) h
 ·exact QfB h
theorem Qq1 {g:Tm→Nat→Option (Tm×Nat)} (hg:∀t l p,brT t→g t l=some p→brT p.1):∀(T:Ts) (l:Nat) (p:Ts×Nat),T.brief→Qin g T l=some p→p.1.brief
 | .nil,l,p,_,h=>by
  simp only [Qin,Option.some.injEq] at h
  subst h
  exact trivial
 | .cons k n s a r,l,p,hT,h=>by
  rw [QhQ] at h
  cases h1:g ⟨k,n,s,a⟩ l with
  |none=>rw [h1] at h;cases h
  |some q=>
   rw [h1,Option.bind_some] at h
   cases h2:Qin g r q.2 with
   |none=>rw [h2] at h;cases h
   |some x=>
    rw [h2,Option.map_some,Option.some.injEq] at h
    subst h
    have:=hg ⟨k,n,s,a⟩ l q ⟨hT.1,hT.2.1⟩ h1
    exact ⟨this.1,this.2,Qq1 hg r q.2 x hT.2.2 h2⟩
theorem Qt1 {B:Bnd} (hB:∀x∈B,brT x.2):∀(f:Nat) (t:Tm) (l:Nat) (p:Tm×Nat),brT t→QjF B f t l=some p→brT p.1
 |0,t,l,p,_,h=>by cases h
 |f+1,t,l,p,ht,h=>by
  have hl:=Qjk (Q:=brT) hB ht
  rw [Qih] at h
  by_cases h0:l=0
  ·rw [if_pos h0] at h;cases h
  ·rw [if_neg h0] at h
   cases h1:Qin (QjF B f) (Qh B t).ar (l-1) with
   |none=>rw [h1] at h;cases h
   |some q=>
    rw [h1,Option.map_some,Option.some.injEq] at h
    subst h
    exact ⟨hl.1,Qq1 (fun t l p h1 h2=>Qt1 hB f t l p h1 h2) _ _ _ hl.2 h1⟩
theorem Qny {B:Bnd} (hB:∀x∈B,brT x.2):∀(m v l:Nat) (p:Ts×Nat),QbX B m v l=some p→p.1.brief
 |0,v,l,p,h=>by
  simp only [QbX,Option.some.injEq] at h
  subst h
  exact trivial
 |m+1,v,l,p,h=>by
  rw [QfJ] at h
  cases h1:QjF B 201 ⟨0,v,⟨#[]⟩,.nil⟩ l with
  |none=>rw [h1] at h;cases h
  |some q=>
   rw [h1,Option.bind_some] at h
   cases h2:QbX B m (v+1) q.2 with
   |none=>rw [h2] at h;cases h
   |some x=>
    rw [h2,Option.map_some,Option.some.injEq] at h
    subst h
    have:=Qt1 hB 201 _ l q (QrL 0 v) h1
    exact ⟨this.1,this.2,Qny hB m (v+1) q.2 x h2⟩
theorem Qun {p:List Cl} {vars:Nat} {s:SS} (hp:∀x∈p,brC x) (h:Br s):Br (Qbc p vars s).2:=by
 unfold Qbc
 cases hg:s.goals with
 |nil=>
  simp only
  unfold QeT
  cases hv:QbX s.B vars 0 200 with
  |none=>exact h
  |some x=>
   have hev:∀T∈s.ev++[x.1.tidy],T.brief:=fun T hT=>by
    rcases List.mem_append.1 hT with hT|hT
    ·exact h.ev T hT
    ·rw [List.mem_singleton.1 hT];exact QpD _ _ (Qny h.B _ _ _ _ hv)
   simp only
   split
   ·exact ⟨h.B,by simp [hg],h.ch,hev⟩
   ·exact QfB ⟨h.B,by simp [hg],h.ch,hev⟩
 |cons g rest=>
  simp only
  have hgs:=h.goals
  rw [hg] at hgs
  have hg1:=hgs g (.head _)
  have hrest:∀x∈rest,brT x.1:=fun x hx=>hgs x (.tail _ hx)
  split
  ·exact h
  split
  ·exact Qto hg1 ⟨h.B,hrest,h.ch,h.ev⟩
  ·cases hm:p.filter (Qfq g.1) with
   |nil=>exact ⟨h.B,hrest,h.ch,h.ev⟩
   |cons x xs=>
    refine QfB ⟨h.B,hrest,fun y hy=> ?_,h.ev⟩
    rcases List.mem_cons.1 hy with rfl|hy
    ·exact ⟨hg1,hrest,fun z hz=>hp z (by rw [←hm] at hz;exact (List.mem_filter.1 hz).1)⟩
    ·exact h.ch y hy
theorem QtE {p:List Cl} {vars:Nat} (hp:∀x∈p,brC x):∀(n:Nat) (s:SS),Br s→∀e∈QsJ p vars n s,e.2.brief
 |0,s,_,e,he=>by cases he
 |n+1,s,h,e,he=>by
  have h1:=Qun (vars:=vars) hp h
  rw [Qk6] at he
  split at he
  ·exact QtE hp n _ h1 e he
  ·rcases List.mem_append.1 he with he|he
   ·obtain ⟨T,hT,rfl⟩:=List.mem_map.1 he
    exact h1.ev T hT
   ·rw [List.mem_singleton.1 he];exact trivial
theorem Qvq {p:List Cl} {q:Ts} {vars fuel:Int} (hp:∀x∈p,brC x) (hq:q.brief):∀e∈(Qg1 p q vars fuel).1,e.2.brief:=by
 unfold Qg1
 split
 ·intro e he;cases he
 split
 ·intro e he;cases he
 ·exact QtE hp _ _ ⟨fun x hx=>(by cases hx),Qnj (fun g hg=>by cases hg) q hq,fun x hx=>(by cases hx),fun x hx=>(by cases hx)⟩
def WsB (p:PS):Prop:=∀x∈p.l,x.length≤2000
def BrF (f:PS→Nd×PS):Prop:=∀p,WsB p→(f p).1.s.length≤2000∧(f p).1.ar.brief∧WsB (f p).2
theorem WsB.pop {p:PS} (h:WsB p):WsB p.pop:=fun x hx=>h x (List.mem_of_mem_tail hx)
theorem WsB.close {p:PS} (h:WsB p) (t:Str):WsB (p.close t):=by
 unfold PS.close
 split
 ·exact h
 split
 ·exact h.pop
 ·exact h
theorem Qi5 {f:PS→Nd×PS} (hf:BrF f):∀(n:Nat) (p:PS),WsB p→(Qby (QO f n p).1).brief∧WsB (QO f n p).2
 |0,p,h=>⟨trivial,h⟩
 |n+1,p,h=>by
  unfold QO
  split
  ·obtain ⟨a1,a2,a3⟩:=hf p.pop h.pop
   obtain ⟨b1,b2⟩:=Qi5 hf n _ a3
   exact ⟨⟨by rw [Qbd];exact a1,a2,b1⟩,b2⟩
  ·exact ⟨trivial,h⟩
theorem QeG {f:PS→Nd×PS} (hf:BrF f) (t:Str) (p:PS) (h:WsB p):(Qby (Qag f t p).1).brief∧WsB (Qag f t p).2:=by
 unfold Qag
 obtain ⟨a1,a2,a3⟩:=hf p h
 obtain ⟨b1,b2⟩:=Qi5 hf (f p).2.l.length _ a3
 exact ⟨⟨by rw [Qbd];exact a1,a2,b1⟩,b2.close t⟩
theorem Qva {p:PS} (h:WsB p) (x:Str):WsB (p.var x).2:=by
 unfold PS.var
 split
 ·exact h
 ·exact h
theorem Qd4:∀d,BrF (QN d)
 |0,p,h=>⟨by simp [QN,Nd.zero],trivial,h⟩
 |d+1,p,h=>by
  unfold QN
  split
  ·exact ⟨by simp [Nd.zero],trivial,h⟩
  ·exact ⟨by simp [Nd.zero],trivial,h⟩
  ·rename_i c r q hl
   have hw:(c::r).length≤2000:=h (c::r) (by rw [hl];exact .head _)
   split
   ·exact ⟨by simp,trivial,h.pop⟩
   split
   ·exact ⟨by simp,trivial,Qva h.pop _⟩
   split
   ·exact ⟨by simp,trivial,h.pop⟩
   split
   ·exact ⟨by simp [Nd.zero],trivial,h⟩
   split
   ·obtain ⟨b1,b2⟩:=QeG (Qd4 d) [41] p.pop.pop h.pop.pop
    exact ⟨hw,b1,b2⟩
   ·exact ⟨hw,trivial,h.pop⟩
theorem Qdt (L:Nat):∀(n:Nat) (l:Str),l.length≤L→∀x∈Qb4 n l,x.length≤L
 |0,l,h,x,hx=>by simp [Qb4] at hx
 |n+1,[],h,x,hx=>by simp [Qb4] at hx
 |n+1,c::r,h,x,hx=>by
  simp only [List.length_cons] at h
  simp only [Qb4] at hx
  split at hx
  ·exact Qdt L n r Ya x hx
  split at hx
  ·rw [List.mem_singleton.1 hx];simp
  ·rcases List.mem_cons.1 hx with rfl|hx
   ·rw [List.length_take];simp only [List.length_cons];omega
   ·exact Qdt L n _ (by rw [List.length_drop];simp only [List.length_cons];omega) x hx
theorem QnO {l:Str} (h:l.length≤2000):WsB (PS.start l):=fun x hx=>Qdt 2000 _ l h x hx
theorem Qo6 (p:PS) (h:WsB p):(Qby (QaP p).1).brief∧WsB (QaP p).2:=by
 unfold QaP
 split
 ·exact QeG (Qd4 24) [46] p.pop h.pop
 ·exact ⟨trivial,h.close _⟩
theorem Qla (p:PS) (h:WsB p):brC (Qp p).1∧WsB (Qp p).2:=by
 obtain ⟨a1,a2,a3⟩:=Qd4 24 { p with vars:=[] } h
 obtain ⟨b1,b2⟩:=Qo6 _ a3
 exact ⟨⟨⟨by show (⟨_⟩:ByteArray).size≤2000;rw [Qbd];exact a1,a2⟩,b1⟩,b2⟩
theorem Qgm:∀(n:Nat) (p:PS) (L:List Cl),WsB p→Qao n p=some L→∀c∈L,cB c=true∧brC c
 |0,p,L,_,h,c,hc=>by
  simp only [Qao,Option.some.injEq] at h
  subst h;cases hc
 | n + 1, p, L, hp, h, c, hc => by
  unfold Qao at h
  split at h
  ·simp only [Option.some.injEq] at h
   subst h;cases hc
  split at h
  ·cases h
  ·rename_i hb
   obtain ⟨b1,b2⟩:=Qla p hp
   cases hr:Qao n (Qp p).2 with
   |none=>rw [hr] at h;cases h
   |some K=>
    rw [hr] at h
    simp only [Option.map_some,Option.some.injEq] at h
    subst h
    rcases List.mem_cons.1 hc with rfl|hc
    ·refine ⟨?_,b1⟩
     cases hcb:cB (Qp p).1 with
     |true=>rfl
     |false=>exact absurd (.inr hcb) hb
    ·exact Qgm n _ K b2 hr c hc
theorem Qo7 {l:Str} (h:(QC Q0 l).2=0):pB (QC Q0 l).1=true∧∀c∈(QC Q0 l).1,brC c:=by
 rw [QmO] at h⊢
 unfold QeH at h⊢
 by_cases hl:2000<l.length
 ·rw [if_pos hl] at h;cases h
 rw [if_neg hl] at h⊢
 cases hr:Qao (PS.start l).l.length (PS.start l) with
 |none=>rw [hr] at h;cases h
 |some L=>
  rw [hr] at h
  dsimp only at h⊢
  by_cases h24:24<L.length
  ·rw [if_pos h24] at h;cases h
  rw [if_neg h24]
  have hg:=Qgm _ _ L (QnO Ya) hr
  refine ⟨?_,fun c hc=>(hg c hc).2⟩
  unfold pB
  simp only [Bool.and_eq_true,decide_eq_true_eq,List.all_eq_true]
  exact ⟨by omega,fun c hc=>(hg c hc).1⟩
theorem QsO {l:Str} (h:(Q7 Q0 l).2.2=0):qB ((Q7 Q0 l).2.1:Nat) (Q7 Q0 l).1=true∧(Q7 Q0 l).1.brief∧0<(Q7 Q0 l).1.length:=by
 rw [Qlb] at h⊢
 unfold Qfb at h⊢
 by_cases hl:2000<l.length
 ·rw [if_pos hl] at h;cases h
 rw [if_neg hl] at h⊢
 dsimp only at h⊢
 split
 ·rename_i hb;rw [if_pos hb] at h;cases h
 ·rename_i hb
  obtain ⟨b1,_⟩:=QeG (Qd4 24) [46] (PS.start l) (QnO Ya)
  refine ⟨?_,b1,?_⟩
  ·cases hq:qB ((QaX (PS.start l)).2.vars.length:Nat) (Qby (QaX (PS.start l)).1) with
   |true=>rfl
   |false=>exact absurd (.inr (.inr hq)) hb
  ·unfold QaX Qag;simp only [Qby,Ts.length];omega
open Go.Shelf
def Qre (e:Ev):Str:=QaI e.1 e.2
def QtV (p q:Str) (fuel every:Int):List Str×Int:=
 if (QC Q0 p).2≠0 then ([],(QC Q0 p).2)
 else if (Q7 Q0 q).2.2≠0 then ([],(Q7 Q0 q).2.2)
 else if every<0 then ([],2)
 else if (Qg1 (QC Q0 p).1 (Q7 Q0 q).1 ((Q7 Q0 q).2.1:Nat) fuel).2≠0 then ([],(Qg1 (QC Q0 p).1 (Q7 Q0 q).1 ((Q7 Q0 q).2.1:Nat) fuel).2)
 else ((Qg1 (QC Q0 p).1 (Q7 Q0 q).1 ((Q7 Q0 q).2.1:Nat) fuel).1.map Qre,0)
theorem QhY {v:Nat} (hv:v≤1000000):∀T:Ts,T.good v=true→rng T
 | .nil,_=>trivial
 | .cons k n s a r,h=>by
  simp only [Ts.good,Bool.and_eq_true] at h
  refine ⟨?_,QhY hv a h.1.2,QhY hv r h.2⟩
  have:=h.1.1
  unfold Qa6 at this
  split at this
  ·simp only [Bool.and_eq_true,decide_eq_true_eq] at this;omega
  split at this
  ·simp only [Bool.and_eq_true,decide_eq_true_eq] at this;omega
  split at this
  ·simp only [Bool.and_eq_true,decide_eq_true_eq] at this;omega
  split at this
  ·simp only [Bool.and_eq_true,decide_eq_true_eq] at this;omega
  ·cases this
theorem Qpk (k n:Int) (s:ByteArray) (hn: -9223372036854775808≤n∧n≤9223372036854775807) (hs:s.size≤2000):(Qah k n s.data.toList).length≤2000:=by
 unfold Qah
 split
 ·unfold QaG;split<;>simp
 split
 ·have:=Lib.itoa_length_le n hn.1 hn.2;omega
 split
 ·rw [Array.length_toList];exact hs
 ·simp
theorem QjY:∀(T:Ts) (c:Bool),T.brief→rng T→(QcP c T).length≤T.nodes*2003
 | .nil,c,_,_=>by simp [QcP]
 | .cons k n s a r,c,hb,hr=>by
  have h1:=Qpk k n s hr.1 hb.1
  have h2:=QjY a false hb.2.1 hr.2.1
  have h3:=QjY r true hb.2.2 hr.2.2
  simp only [QcP,List.length_append,Ts.nodes]
  have h4:(if c=true then ([44]:Str) else []).length≤1:=by split<;>simp
  have h5:(if QbO k a=true then (40::(QcP false a++[41]):Str) else []).length≤(QcP false a).length+2:=by split<;>simp
  omega
theorem Qnz:∀(i:Nat) (T:Ts),T.brief→rng T→i+T.length≤1000000→(QaS i T).length≤T.nodes*2030
 |i,.nil,_,_,_=>by simp [QaS]
 |i,.cons k n s a r,hb,hr,hi=>by
  simp only [Ts.length] at hi
  have h1:=QjY (.cons k n s a .nil) false ⟨hb.1,hb.2.1,trivial⟩ ⟨hr.1,hr.2.1,trivial⟩
  have h2:=Qnz (i+1) r hb.2.2 hr.2.2 Ya
  have h3:=Lib.itoa_length_le (i:Nat) Ya Ya
  simp only [QaS,List.length_append,List.length_cons,List.length_nil,Ts.nodes] at h1⊢
  omega
theorem QpG {P:List Cl} {q:Ts} {vars fuel:Int} (hp:∀c∈P,brC c) (hq:q.brief):∀e∈(Qg1 P q vars fuel).1,e.2.nodes≤200∧rng e.2∧e.2.brief∧(Qre e).length≤1000000:=by
 intro e he
 have hb:=Qvq hp hq e he
 by_cases h0:(Qg1 P q vars fuel).2=0
 ·obtain ⟨l,k,hr⟩:=QjG h0
  rw [hr.eq] at he
  have key:e.2.nodes≤200∧rng e.2:=by
   rcases List.mem_append.1 he with he|he
   ·obtain ⟨T,hT,rfl⟩:=List.mem_map.1 he
    have:=hr.ans T hT
    exact ⟨this.2.1,QhY (v:=200) Ya T this.2.2⟩
   ·rw [List.mem_singleton.1 he];exact ⟨by simp [Ts.nodes],trivial⟩
  refine ⟨key.1,key.2,hb,?_⟩
  have hl:=e.2.length_le
  have hv:=Qnz 0 e.2 hb key.2 Ya
  unfold Qre QaI
  split
  ·rw [List.length_append];simp only [List.length_cons,List.length_nil];omega
  ·unfold Qg6
   repeat' split
   all_goals simp
 ·rw [Qr6 h0] at he;cases he
theorem QuT {P:List Cl} {q:Ts} {vars fuel:Int}:(Qg1 P q vars fuel).1.length≤13:=by
 by_cases h0:(Qg1 P q vars fuel).2=0
 ·obtain ⟨l,k,hr⟩:=QjG h0
  rw [hr.eq]
  have:=hr.six.2
  simp [QlV];omega
 ·rw [Qr6 h0];simp
section
variable {P:Program} {Q:Exit→Act→World→Prop} {ops:Array Oper} {rest:List Oper} {n d:Nat} {e:Env} {w:World} {ty:TypeId} {pos:String} {after:Array Edge}
theorem QjJ {j:Nat} (h:yd ops n e j=some undef):yielded ops (arr n e) j=none:=by
 unfold yd at h
 unfold yielded
 cases ho:ops[j]? with
 |none=>rfl
 |some o=>
  rw [ho] at h
  simp only [Option.bind_some] at h⊢
  cases hd:o.dst with
  |none=>rfl
  |some t=>
   rw [hd] at h
   simp only [Option.bind_some] at h⊢
   by_cases ht:t<n
   ·have h':Nat.blt t n=true:=by simpa [Nat.blt_eq] using ht
    rw [h',cond_true] at h
    have hl:(arr n e)[t]?=some (lk e t):=by simp [arr,ht]
    rw [hl,Option.some.inj h]
    rfl
   ·have h':Nat.blt t n=false:=QrM ht
    rw [h',cond_false] at h;cases h
theorem Qq6 {op:Op} {j:Nat} {g:Bool} (hy:yd ops n e j=some undef) (hd:Nat.blt d n=true)
  (h:Lst P Q ops rest n ((d,undef)::e) w):Lst P Q ops (⟨some d,op,ty,pos,after,some (j,g)⟩::rest) n e w:=by
 unfold Lst at h⊢
 unfold wpList
 rw [if_neg (by simp [Region.wanted,act,QjJ hy]),QdZ hd]
 exact h
end
section
variable {P:Program} {n:Nat} {e:Env} {w:World} {ty:TypeId} {pos:String} {after:Array Edge} {x y z:Operand} {dst:Option Nat} {t:TypeId}
theorem Qis {i j:Int} {l:Str} (hx:ev n e x=sv l) (hy:ev n e y= .int .i64 i) (hz:ev n e z= .int .i64 j) (hT:QaC P t=true) (h0:0≤i) (h1:i≤j) (h2:j.toNat≤l.length):
  (execOp (ev n e) ⟨dst,.slice t x (some y) (some z) none,ty,pos,after,none⟩).run P w= .ok (.value (sv ((l.take j.toNat).drop i.toNat))) w:=by
 have hu:=run_underlying (QeA hT) w
 have hs:(⟨l.toArray⟩:ByteArray).size=l.length:=Qbd l
 simp only [execOp,Instr.sliceAt,Instr.slice,hx,hy,hz,sv,Option.map_some,Option.map_none,bind,pure,Sem.bind]
 rw [Sem.run_bind',Sem.run_bind',hu]
 simp only [Result.andThen_ok]
 rw [Sem.run_bind',hu]
 simp only [Result.andThen_ok,Instr.sliceBounds,Option.isSome_none,Bool.false_eq_true,if_false,bind,pure,Sem.bind]
 rw [Sem.run_bind',Sem.run_bind',QbL rfl Ya (by rw [hs];omega)]
 simp only [Result.andThen_ok]
 rw [Sem.run_bind',QbL rfl h0 Ya]
 simp only [Result.andThen_ok]
 have:∀a b c:Nat,Sem.run P (Sem.pure (a,b,c)) w= .ok (a,b,c) w:=fun _ _ _=>rfl
 rw [this]
 simp only [Result.andThen_ok,Sem.run,Qf7]
end
section
variable {P:Program} {n:Nat} {e:Env} {w w':World} {ty:TypeId} {pos:String} {after:Array Edge} {x y z:Operand} {dst:Option Nat} {t t2:TypeId}
theorem QvG (c:UInt8):IntKind.u8.wrap ((c.toNat:Int)-48)=((c-48).toNat:Int):=by
 have h:∀k:Fin 256,IntKind.u8.wrap (((UInt8.ofNat k.val).toNat:Int)-48)=((UInt8.ofNat k.val-48).toNat:Int):=by decide+kernel
 have:=h ⟨c.toNat,c.toNat_lt⟩
 simpa using this
theorem QiV {c:UInt8} (hx:ev n e x= .int .u8 c.toNat) (hy:ev n e y= .int .u8 48):
  (execOp (ev n e) ⟨dst,.binOp .sub t x y t2,ty,pos,after,none⟩).run P w= .ok (.value (.int .u8 ((c-48).toNat:Nat))) w:=by
 have:(execOp (ev n e) ⟨dst,.binOp .sub t x y t2,ty,pos,after,none⟩).run P w= .ok (.value (.int .u8 (IntKind.u8.wrap ((c.toNat:Int)-48)))) w:=by simp only [execOp,hx,hy];rfl
 rw [this,QvG]
def Qof (P:Program) (t:TypeId) (k:IntKind):Bool:=match P.underlying t with|some (.int q)=>q==k|_=>false
theorem Qv0 {k:IntKind} (h:Qof P t k=true):P.underlying t=some (.int k):=by
 unfold Qof at h
 split at h
 ·rename_i q hq;rw [hq,eq_of_beq h]
 ·cases h
theorem Qiy {u v:Value} {src dt:TypeId} (hx:ev n e x=u) (h:(convert src dt u).run P w= .ok v w'):(execOp (ev n e) ⟨dst,.convert src dt x,ty,pos,after,none⟩).run P w= .ok (.value v) w':=by
 subst hx
 show (Sem.bind (convert _ _ _) _).run _ _=_
 rw [Sem.run_bind',h]
 rfl
theorem Qes {c:UInt8} {src dt:TypeId} (hx:ev n e x= .int .u8 (c.toNat:Nat)) (hs:Qof P src .u8=true) (hd:Qof P dt .i64=true):
  (execOp (ev n e) ⟨dst,.convert src dt x,ty,pos,after,none⟩).run P w= .ok (.value (.int .i64 (c.toNat:Nat))) w:=by
 refine Qiy hx ?_
 have:=c.toNat_lt
 simp [convert,run_underlying (Qv0 hs),run_underlying (Qv0 hd),Conv.intToInt]
 exact Qex Ya Ya
end
section
variable {M:List Nat} {w0:World} {H:List (Nat×Obj)} {F:List (World→Prop)}
end
end Go.Proofs.YthliapbflkfdiacGreatDoor
