/-
  The document's own reader of words: a term, walked.
-/
import Derived.Test.YthliapbflkfdiacGreatDoorZ0
import Derived.Test.YthliapbflkfdiacGreatDoorG16
import Derived.Test.YthliapbflkfdiacGreatDoorG5
namespace Go.Proofs.YthliapbflkfdiacGreatDoor
open Go.RowKit Go.Shelf
set_option linter.unusedVariables false
set_option linter.unusedSimpArgs false
set_option maxRecDepth 100000
set_option maxHeartbeats 1000000
def Qz0 (f:PS→Nd×PS):Prop:=∀p,(f p).2.vars.length+(f p).2.l.length≤p.vars.length+p.l.length
theorem Qft (p:PS):p.pop.vars=p.vars:=rfl
theorem Qvn (p:PS) (t:Str):(p.close t).vars.length+(p.close t).l.length≤p.vars.length+p.l.length:=by
 have:=QiT p t
 have e:(p.close t).vars=p.vars:=by
  unfold PS.close
  split
  ·rfl
  split<;>rfl
 rw [e];omega
theorem QjI {f:PS→Nd×PS} (hf:Qz0 f):∀(n:Nat) (p:PS),(QL f n p).2.vars.length+(QL f n p).2.l.length≤p.vars.length+p.l.length
 |0,p=>Nat.le_refl _
 |n+1,p=>by
  unfold QL
  split
  ·have h1:=QjI hf n (f p.pop).2
   have h2:=hf p.pop
   have h3:=QfV p
   rw [Qft] at h2
   simp only
   omega
  ·exact Nat.le_refl _
theorem QnL {f:PS→Nd×PS} (hf:Qz0 f) (t:Str) (p:PS):(QO f t p).2.vars.length+(QO f t p).2.l.length≤p.vars.length+p.l.length:=by
 have h1:=QjI hf (f p).2.l.length (f p).2
 have h2:=hf p
 have h3:=Qvn (QL f (f p).2.l.length (f p).2).2 t
 simp only [QO]
 omega
theorem Qcm:∀d,Qz0 (Ql d)
 |0,p=>Nat.le_refl _
 | d + 1, p => by
  unfold Ql
  have h1:=QfV p
  split
  ·exact Nat.le_refl _
  ·exact Nat.le_refl _
  ·rename_i c r q hl
   have h1:p.pop.l.length+1=p.l.length:=by simp [PS.pop,hl]
   split
   ·simp only [Qft];omega
   split
   ·simp only
    rw [(QqZ _ _).1]
    have:(p.pop.var (c::r)).2.vars.length≤p.vars.length+1:=by
     unfold PS.var
     split
     ·simp [PS.pop]
     ·simp [PS.pop]
    omega
   split
   ·simp only [Qft];omega
   split
   ·exact Nat.le_refl _
   split
   ·have h2:=QnL (Qcm d) [41] p.pop.pop
    have h3:=QfV p.pop
    rw [Qft,Qft] at h2
    simp only;omega
   ·simp only [Qft];omega
theorem St.raise3 {M:List Nat} {w0 w:World} {H L O:List (Nat×Obj)} {F:List (World→Prop)} {x y p:Nat×Obj} (h:St M w0 (y::p::(L++(O++x::H))) F w):St M w0 (x::y::p::(L++(O++H))) F w:=
 h.perm (by have:=List.perm_middle (a:=x) (l₁:=y::p::(L++O)) (l₂:=H);simpa using this)
def Qhh (d : Nat) : Prop := ∀ (p : PS) (L V : Value) (VH : List (Nat × Obj)) (M : List Nat) (w0 w : World) (H : List (Nat × Obj)) (F : List (World → Prop)) (b : Nat) (φ : World → Prop), φ ∈ F →
    p.l.length≤2000→p.vars.length+p.l.length≤4000→Sx φ L p.l→QkN p.vars V VH→St M w0 ((b,psr L V p.bad)::(VH++H)) F w→
    Calls Tryz.prog 80 #[ptr b,.int .i64 (d:Nat)] w fun e w'=>∃v L' V' VH',e= .returned (.agg #[.int .i64 (Ql d p).1.k,.int .i64 (Ql d p).1.n,sv (Ql d p).1.s,v])∧
     Sx φ L' (Ql d p).2.l∧QkN (Ql d p).2.vars V' VH'∧St M w0 ((b,psr L' V' (Ql d p).2.bad)::(VH'++H)) ((fun w=>Sl w (fun _=>True) v (Ql d p).1.ar)::F) w'
theorem QnP (d : Nat) (hd : d ≤ 100) (ht : ∀ e, d = e + 1 → Qhh e) : Qhh d := by
 intro p L V VH M w0 w H F b φ hφ hl hl2 hL hV hS
 obtain ⟨A,vc,rfl⟩:=hV.form
 have hnil:∀w:World,Sl w (fun _=>True) (.slice none 0 0) .nil:=fun w=>⟨none,0,rfl,Nat.le_refl _,fun h=>by cases h⟩
 obtain ⟨l,vars,bad⟩:=p
 dsimp only at hl hl2 hS hV hL
 by_cases hf:l.headD []=[]
 ·have e:Ql d ⟨l,vars,bad⟩=(Nd.zero,⟨l,vars,true⟩):=by
   cases d with
   |zero=>rfl
   |succ d=>
    cases l with
    |nil=>rfl
    |cons x r=>cases x with|nil=>rfl|cons c q=>simp at hf
  rw [e]
  refine Zby ?_
  clear hS
  intro b1 wx1 hS
  refine Zh6 ?_
  refine Calls.mono (QoF ⟨l,vars,bad⟩ L _ _ hL hφ hS.swap) ?_
  rintro _ w1 ⟨rfl,rfl⟩
  refine Za ?_
  rw [hf]
  refine Zh3 ?_
  refine Zai ?_
  refine Zav ?_
  refine ZfJ ?_
  clear hS
  intro wx2 hS
  refine ZcT ?_
  clear hS
  intro wx3 hS
  refine ZaU ?_
  exact ⟨.slice none 0 0,L,_,VH,rfl,hL,hV,hS.drop.learn fun w _=>hnil w⟩
 cases l with
 |nil=>exact absurd rfl hf
 | cons x rest =>
  cases x with
  |nil=>exact absurd rfl hf
  | cons c r =>
   clear hf
   obtain ⟨A0,c0,rfl,hc0⟩:=hL.form
   have hlr:((c::r)::rest).length=rest.length+1:=rfl
   have hLt:=hL.tail
   have hfr:=fun w (H':List (Nat×Obj))=>QoF (M:=M) (w0:=w0) (H:=H') (F:=F) (b:=b) (φ:=φ) ⟨(c::r)::rest,vars,bad⟩ (.slice A0 ((c::r)::rest).length c0) (.slice A vars.length vc) w hL hφ
   simp only [List.headD_cons] at hfr
   simp only [List.length_cons] at hl hl2 hc0
   cases d with
   |zero=>
    have e:Ql 0 ⟨(c::r)::rest,vars,bad⟩=(Nd.zero,⟨(c::r)::rest,vars,true⟩):=rfl
    rw [e]
    refine Zby ?_
    clear hS
    intro b1 wx1 hS
    refine ZbN ?_
    rintro _ w1 ⟨rfl,rfl⟩
    refine Zkw ?_
    refine Zex ?_
    refine ZfJ ?_
    clear hS
    intro wx2 hS
    refine ZcT ?_
    clear hS
    intro wx3 hS
    refine ZaU ?_
    exact ⟨.slice none 0 0,_,_,VH,rfl,hL,hV,hS.drop.learn fun w _=>hnil w⟩
   | succ d =>
    have e0:Ql (d+1) ⟨(c::r)::rest,vars,bad⟩=if c::r=[33] then (⟨1,0,[33],.nil⟩,⟨rest,vars,bad⟩)
      else if upB c then (⟨0,(PS.var ⟨rest,vars,bad⟩ (c::r)).1,[],.nil⟩,(PS.var ⟨rest,vars,bad⟩ (c::r)).2)
      else if (c==45)||Qa7 c then (⟨2,(Qbd (c::r)).getD 0,[],.nil⟩,⟨rest,vars,bad||(Qbd (c::r)).isNone⟩)
      else if Qce c=false then (Nd.zero,⟨(c::r)::rest,vars,true⟩)
      else if PS.has ⟨rest,vars,bad⟩ [40] then (⟨3,0,c::r,QaI (QO (Ql d) [41] ⟨rest.tail,vars,bad⟩).1⟩,(QO (Ql d) [41] ⟨rest.tail,vars,bad⟩).2)
      else (⟨1,0,c::r,.nil⟩,⟨rest,vars,bad⟩):=rfl
    have hget:(c::r)[(0:Int).toNat]?=some c:=rfl
    by_cases h33:c::r=[33]
    ·have e:Ql (d+1) ⟨(c::r)::rest,vars,bad⟩=(⟨1,0,[33],.nil⟩,⟨rest,vars,bad⟩):=by rw [e0,if_pos h33]
     rw [e]
     have hb:(c::r==[33])=true:=by rw [h33];rfl
     refine Zby ?_
     clear hS
     intro b1 wx1 hS
     refine ZbN ?_
     rintro _ w1 ⟨rfl,rfl⟩
     refine Zca ?_
     rw [hb]
     refine Z2 ?_
     refine Zu ?_
     refine ZdE ?_
     clear hS
     intro wx2 hS
     refine Za2 ?_
     refine Zbx ?_
     clear hS
     intro wx3 hS
     refine ZaU ?_
     exact ⟨.slice none 0 0,_,_,VH,rfl,hLt,hV,hS.drop.learn fun w _=>hnil w⟩
    have hb:(c::r==[33])=false:=by simpa using h33
    rw [if_neg h33] at e0
    cases hup:upB c with
    |true=>
     rw [if_pos hup] at e0
     have hup1:65≤c.toNat∧c.toNat≤90:=by simp [upB] at hup;omega
     refine Zby ?_
     clear hS
     intro b1 wx1 hS
     refine ZbN ?_
     rintro _ w1 ⟨rfl,rfl⟩
     refine Zca ?_
     rw [hb]
     refine Zhf ?_
     refine Zhb ?_
     refine Zad ?_
     refine Zu ?_
     refine ZdE ?_
     clear hS
     intro wx2 hS
     refine Zey ?_
     refine ZU ?_
     refine ZX ?_
     refine Qp3 hS 58 (59::60::61::62::7::8::63::64::65::66::67::68::[]) (fun (R:List Str) v=>∃D,vars=D++R∧v= .int .i64 (D.length:Nat)∧(c::r)∉D) (fun R=>R.length) (vars) ?_ Yb ?_
     ·exact ⟨[],rfl,rfl,by simp⟩
     rintro R _ w3 jv3 ⟨D,hD,rfl,hx⟩ hS ih
     have hlen:vars.length=D.length+R.length:=by rw [hD,List.length_append]
     cases R with
     |nil=>
      simp only [List.length_nil] at hlen
      have hnm:(c::r)∉vars:=by rw [hD,List.append_nil];exact hx
      have ev:PS.var ⟨rest,vars,bad⟩ (c::r)=(vars.length,⟨rest,vars++[c::r],bad⟩):=by unfold PS.var;rw [if_neg hnm]
      rw [ev] at e0
      rw [e0]
      refine ZJ ?_
      refine Zds ?_
      refine ZU ?_
      refine Zfy ?_
      clear hS
      intro b2 wx3 hS
      refine Qar (sz:=1) (bts:=16) hS Yb rfl rfl rfl rfl (hV) rfl rfl (.cons _ (List.perm_append_comm_assoc [_,_] VH H)) Ya Ya rfl ?_
      clear hS
      intro V' VH' w4 hV' hS
      replace hS:=hS.perm (List.perm_append_comm_assoc VH' [_,_] H)
      obtain ⟨A',c',rfl⟩:=hV'.form
      refine Zei ?_
      clear hS
      intro wx4 hS
      refine Zet ?_
      refine Zck ?_
      refine ZeX ?_
      refine Zc ?_
      clear hS
      intro wx5 hS
      refine ZaU ?_
      refine ⟨.slice none 0 0,_,_,VH',?_,hLt,?_,hS.drop.learn fun w _=>hnil w⟩
      ·simp
      ·show Row _ _ _ (vars++[c::r]).length ((vars++[c::r]).map sv) _
       rw [List.map_append,List.length_append];exact hV'
     |cons y q=>
      simp only [List.length_cons] at hlen
      have hcell:w3.cell? ⟨A.elim 0 (·.block),0+((D.length:Nat):Int).toNat*1,none⟩=some (sv y)∧∃g,A=some ⟨g,0,none⟩:=by
       have hr:Row 9 1 (.slice A vars.length vc) vars.length (vars.map sv) VH:=hV
       generalize hxs:vars.map sv=xs at hr
       generalize hvl:vars.length=vl at hr hlen
       cases hr with
       |nil_=>omega
       |own_ h1 h2 h3 hcp=>
        rename_i bl sp _
        refine ⟨?_,bl,rfl⟩
        have hbl:w3.heap[bl]?=some (.cells (xs++sp).toArray 9):=hS.own (bl,_) Yd
        show w3.cell? ⟨bl,_,none⟩=_
        rw [Qs hbl,←hxs,hD]
        simp
      obtain ⟨hcell,g,rfl⟩:=hcell
      have hcell':w3.cell? ⟨g,0+((D.length:Nat):Int).toNat*1,none⟩=some (sv y):=hcell
      clear hcell
      refine ZdF ?_
      refine Zq ?_
      refine Zn ?_
      refine Zu ?_
      refine ZZ ?_
      refine Zb ?_
      refine QcU rfl (fun h=> ?_) (fun h=> ?_)
      ·obtain rfl:y=c::r:=by simpa using h
       have hm:(c::r)∈vars:=by rw [hD];simp
       have ev:PS.var ⟨rest,vars,bad⟩ (c::r)=(D.length,⟨rest,vars,bad⟩):=by unfold PS.var;rw [if_pos hm,hD,QpX q hx]
       rw [ev] at e0
       rw [e0]
       refine Zl ?_
       refine ZeX ?_
       refine Zc ?_
       clear hS
       intro wx3 hS
       refine ZaU ?_
       exact ⟨.slice none 0 0,_,_,VH,rfl,hLt,hV,hS.drop.learn fun w _=>hnil w⟩
      ·have h':¬y=c::r:=by simpa using h
       refine Zbn ?_
       refine Z9 ?_
       refine ih (q) _ _ _ ?_ ?_ ?_ Yb Yc
       ·simp
       ·exact ⟨D++[y],by rw [hD,List.append_assoc];rfl,by simp,by simp [hx];exact fun e=>h' e.symm⟩
       ·exact hS
    |false=>
     rw [if_neg (by simp [hup])] at e0
     have hnu:¬(65≤c.toNat∧c.toNat≤90):=by
      intro h
      have:upB c=true:=by simp [upB];omega
      rw [this] at hup;cases hup
     cases hnb:((c==45)||Qa7 c) with
     |true=>
      rw [if_pos hnb] at e0
      rw [e0]
      have hn65:c.toNat<65:=by
       have hh:∀n:Fin 256,((UInt8.ofNat n.val==45)||Qa7 (UInt8.ofNat n.val))=true→n.val<65:=by decide+kernel
       have:=hh ⟨c.toNat,c.toNat_lt⟩
       simp only [UInt8.ofNat_toNat] at this
       exact this hnb
      by_cases h45:c=45
      ·have h45':c.toNat=45:=by rw [h45];rfl
       skip
       cases bad with
       |true=>
        refine Zby ?_
        clear hS
        intro b1 wx1 hS
        refine ZbN ?_
        rintro _ w1 ⟨rfl,rfl⟩
        refine Zca ?_
        rw [hb]
        refine ZfK ?_
        refine Zbi ?_
        refine Zif ?_
        refine Zft ?_
        refine Zad ?_
        refine ZG ?_
        refine Calls.mono (Qgu (c::r) _) ?_
        rintro _ w3 ⟨rfl,hb3⟩
        refine Za ?_
        replace hS:=hS.grow hb3
        refine Zbq ?_
        refine ZfL ?_
        refine Zai ?_
        refine Zdt ?_
        clear hS
        intro wx2 hS
        refine Zbt ?_
        refine ZdE ?_
        clear hS
        intro wx3 hS
        refine Za4 ?_
        refine Zbx ?_
        clear hS
        intro wx4 hS
        refine ZaU ?_
        exact ⟨.slice none 0 0,_,_,VH,rfl,hLt,hV,hS.drop.learn fun w _=>hnil w⟩
       |false=>
        refine Zby ?_
        clear hS
        intro b1 wx1 hS
        refine ZbN ?_
        rintro _ w1 ⟨rfl,rfl⟩
        refine Zca ?_
        rw [hb]
        refine ZfK ?_
        refine Zbi ?_
        refine Zif ?_
        refine Zft ?_
        refine Zad ?_
        refine ZG ?_
        refine Calls.mono (Qgu (c::r) _) ?_
        rintro _ w3 ⟨rfl,hb3⟩
        refine Za ?_
        replace hS:=hS.grow hb3
        refine Zbq ?_
        refine ZfL ?_
        refine ZN ?_
        refine ZL ?_
        refine Zdt ?_
        clear hS
        intro wx2 hS
        refine Zbt ?_
        refine ZdE ?_
        clear hS
        intro wx3 hS
        refine Za4 ?_
        refine Zbx ?_
        clear hS
        intro wx4 hS
        refine ZaU ?_
        refine ⟨.slice none 0 0,_,_,VH,rfl,hLt,hV,?_⟩
        have hq:=hS.drop.learn (φ:=fun w=>Sl w (fun _=>True) (.slice none 0 0) .nil) fun w _=>hnil w
        simpa using hq
      ·have h45':c.toNat≠45:=fun h=>h45 (Ql8 (n:=45) h)
       have hdd:48≤c.toNat∧c.toNat≤57:=by simp [h45,Qa7] at hnb;omega
       skip
       cases bad with
       |true=>
        refine Zby ?_
        clear hS
        intro b1 wx1 hS
        refine ZbN ?_
        rintro _ w1 ⟨rfl,rfl⟩
        refine Zca ?_
        rw [hb]
        refine ZfK ?_
        refine ZfM ?_
        refine Zad ?_
        refine ZG ?_
        refine Calls.mono (Qgu (c::r) _) ?_
        rintro _ w3 ⟨rfl,hb3⟩
        refine Za ?_
        replace hS:=hS.grow hb3
        refine Zbq ?_
        refine ZfL ?_
        refine Zai ?_
        refine Zdt ?_
        clear hS
        intro wx2 hS
        refine Zbt ?_
        refine ZdE ?_
        clear hS
        intro wx3 hS
        refine Za4 ?_
        refine Zbx ?_
        clear hS
        intro wx4 hS
        refine ZaU ?_
        exact ⟨.slice none 0 0,_,_,VH,rfl,hLt,hV,hS.drop.learn fun w _=>hnil w⟩
       |false=>
        refine Zby ?_
        clear hS
        intro b1 wx1 hS
        refine ZbN ?_
        rintro _ w1 ⟨rfl,rfl⟩
        refine Zca ?_
        rw [hb]
        refine ZfK ?_
        refine ZfM ?_
        refine Zad ?_
        refine ZG ?_
        refine Calls.mono (Qgu (c::r) _) ?_
        rintro _ w3 ⟨rfl,hb3⟩
        refine Za ?_
        replace hS:=hS.grow hb3
        refine Zbq ?_
        refine ZfL ?_
        refine ZN ?_
        refine ZL ?_
        refine Zdt ?_
        clear hS
        intro wx2 hS
        refine Zbt ?_
        refine ZdE ?_
        clear hS
        intro wx3 hS
        refine Za4 ?_
        refine Zbx ?_
        clear hS
        intro wx4 hS
        refine ZaU ?_
        refine ⟨.slice none 0 0,_,_,VH,rfl,hLt,hV,?_⟩
        have hq:=hS.drop.learn (φ:=fun w=>Sl w (fun _=>True) (.slice none 0 0) .nil) fun w _=>hnil w
        simpa using hq
     |false=>
      rw [if_neg (by simp [hnb])] at e0
      have h45:c≠45:=fun h=>by simp [h] at hnb
      have h45':c.toNat≠45:=fun h=>h45 (Ql8 (n:=45) h)
      have hnd:¬(48≤c.toNat∧c.toNat≤57):=by
       intro h
       have:Qa7 c=true:=by simp [Qa7];omega
       simp [this] at hnb
      cases hlo:Qce c with
      |false=>
       rw [if_pos hlo] at e0
       rw [e0]
       have hnl:¬(97≤c.toNat∧c.toNat≤122):=by
        intro h
        have:Qce c=true:=by simp [Qce];omega
        rw [this] at hlo;cases hlo
       by_cases q1:c.toNat<48
       ·skip
        refine Zby ?_
        clear hS
        intro b1 wx1 hS
        refine ZbN ?_
        rintro _ w1 ⟨rfl,rfl⟩
        refine Zca ?_
        rw [hb]
        refine ZfK ?_
        refine ZkD ?_
        refine ZiZ ?_
        refine Zbi ?_
        refine Zs ?_
        refine Zai ?_
        refine Zad ?_
        refine ZfJ ?_
        clear hS
        intro wx2 hS
        refine ZcT ?_
        clear hS
        intro wx3 hS
        refine ZaU ?_
        exact ⟨.slice none 0 0,_,_,VH,rfl,hL,hV,hS.drop.learn fun w _=>hnil w⟩
       by_cases q2:c.toNat<65
       ·skip
        refine Zby ?_
        clear hS
        intro b1 wx1 hS
        refine ZbN ?_
        rintro _ w1 ⟨rfl,rfl⟩
        refine Zca ?_
        rw [hb]
        refine ZfK ?_
        refine ZfM ?_
        refine Zbi ?_
        refine Zs ?_
        refine Zai ?_
        refine Zad ?_
        refine ZfJ ?_
        clear hS
        intro wx2 hS
        refine ZcT ?_
        clear hS
        intro wx3 hS
        refine ZaU ?_
        exact ⟨.slice none 0 0,_,_,VH,rfl,hL,hV,hS.drop.learn fun w _=>hnil w⟩
       by_cases q3:c.toNat<97
       ·skip
        refine Zby ?_
        clear hS
        intro b1 wx1 hS
        refine ZbN ?_
        rintro _ w1 ⟨rfl,rfl⟩
        refine Zca ?_
        rw [hb]
        refine Zhf ?_
        refine Zhb ?_
        refine ZfM ?_
        refine Zbi ?_
        refine Zs ?_
        refine Zai ?_
        refine Zad ?_
        refine ZfJ ?_
        clear hS
        intro wx2 hS
        refine ZcT ?_
        clear hS
        intro wx3 hS
        refine ZaU ?_
        exact ⟨.slice none 0 0,_,_,VH,rfl,hL,hV,hS.drop.learn fun w _=>hnil w⟩
       have q4:122<c.toNat:=by omega
       refine Zby ?_
       clear hS
       intro b1 wx1 hS
       refine ZbN ?_
       rintro _ w1 ⟨rfl,rfl⟩
       refine Zca ?_
       rw [hb]
       refine Zhf ?_
       refine Zhb ?_
       refine ZfM ?_
       refine Zbi ?_
       refine Zs ?_
       refine ZN ?_
       refine Zw ?_
       refine Zad ?_
       refine ZfJ ?_
       clear hS
       intro wx2 hS
       refine ZcT ?_
       clear hS
       intro wx3 hS
       refine ZaU ?_
       exact ⟨.slice none 0 0,_,_,VH,rfl,hL,hV,hS.drop.learn fun w _=>hnil w⟩
      |true=>
       rw [if_neg (by simp [hlo])] at e0
       have hll:97≤c.toNat∧c.toNat≤122:=by simp [Qce] at hlo;omega
       have hlt0:((c::r)::rest).length-(1:Int).toNat=rest.length:=rfl
       refine Zby ?_
       clear hS
       intro b1 wx1 hS
       refine ZbN ?_
       rintro _ w1 ⟨rfl,rfl⟩
       refine Zca ?_
       rw [hb]
       refine Zhf ?_
       refine Zhb ?_
       refine ZfM ?_
       refine Zbi ?_
       refine Zs ?_
       refine Zf ?_
       replace hS:=hS.sink1
       refine ZH ?_
       refine Zw ?_
       refine ZaG ?_
       refine Zb2 ?_
       refine Zu ?_
       refine ZdE ?_
       clear hS
       intro wx2 hS
       refine Za4 ?_
       refine Zi7 ?_
       refine ZY ?_
       clear hS
       intro b2 wx3 hS
       refine Zc ?_
       clear hS
       intro wx4 hS
       refine Zdy ?_
       cases hh:PS.has ⟨rest,vars,bad⟩ [40] with
       |false=>
        have e:Ql (d+1) ⟨(c::r)::rest,vars,bad⟩=(⟨1,0,c::r,.nil⟩,⟨rest,vars,bad⟩):=by rw [e0,if_neg (by simp [hh])]
        rw [e]
        have htk:=Qbk ⟨rest,vars,bad⟩ [40] _ _ _ hLt hφ hS.swap
        rw [hh] at htk
        simp only [Bool.false_eq_true,if_false] at htk
        refine Ze ?_
        refine Calls.mono (htk) ?_
        rintro _ w3 ⟨L2,rfl,hL2,hS'⟩
        refine Za ?_
        replace hS:=hS'
        clear hS'
        replace hS:=hS.swap.raise2
        refine Zo ?_
        refine Zk ?_
        refine ZfN ?_
        clear hS
        intro wx5 hS
        refine ZaU ?_
        exact ⟨.slice none 0 0,L2,_,VH,rfl,hL2,hV,hS.drop.drop.learn fun w _=>hnil w⟩
       |true=>
        have e:Ql (d+1) ⟨(c::r)::rest,vars,bad⟩=(⟨3,0,c::r,QaI (QO (Ql d) [41] ⟨rest.tail,vars,bad⟩).1⟩,(QO (Ql d) [41] ⟨rest.tail,vars,bad⟩).2):=by rw [e0,if_pos hh]
        have hrl:=(Qer hh).1
        dsimp only [PS.pop] at hrl
        rw [e]
        clear e e0
        have htk:=Qbk ⟨rest,vars,bad⟩ [40] _ _ _ hLt hφ hS.swap
        rw [hh] at htk
        simp only [if_true,PS.pop] at htk
        refine Ze ?_
        refine Calls.mono (htk) ?_
        rintro _ w3 ⟨L2,rfl,hL2,hS'⟩
        refine Za ?_
        replace hS:=hS'
        clear hS'
        replace hS:=hS.swap
        refine Zt ?_
        refine Zci ?_
        refine Zy ?_
        clear hS
        intro wx5 hS
        refine Z8 ?_
        refine Zjp ?_
        replace hS:=hS.drew
        refine Zc5 ?_
        refine Zaf ?_
        refine ZaB ?_
        refine ZhA ?_
        refine ZcW ?_
        have hct:=ht d rfl ⟨rest.tail,vars,bad⟩ L2 _ VH M w0 _ _ F b φ hφ (by show rest.tail.length≤_;omega) (by show vars.length+rest.tail.length≤_;omega) hL2 hV hS.sink1
        rw [show ((d:Nat):Int)=((d+1:Nat):Int)-1 by omega] at hct
        refine Calls.mono hct ?_
        rintro _ w4 ⟨v,L3,V3,VH3,rfl,hL3,hV3,hS'⟩
        refine Za ?_
        replace hS:=hS'.raise1
        clear hS'
        obtain ⟨A3,c3,rfl,_⟩:=(hS.fact (.head _)).form
        have hf:=Qbu d
        have hles:=hf ⟨rest.tail,vars,bad⟩
        have hfew:=Qcm d ⟨rest.tail,vars,bad⟩
        dsimp only at hles hfew
        have hi:QO (Ql d) [41] ⟨rest.tail,vars,bad⟩=([(Ql d ⟨rest.tail,vars,bad⟩).1]++(QL (Ql d) (Ql d ⟨rest.tail,vars,bad⟩).2.l.length (Ql d ⟨rest.tail,vars,bad⟩).2).1,(QL (Ql d) (Ql d ⟨rest.tail,vars,bad⟩).2.l.length (Ql d ⟨rest.tail,vars,bad⟩).2).2.close [41]):=rfl
        generalize Ql d ⟨rest.tail,vars,bad⟩=r3 at*
        obtain ⟨nd,p3⟩:=r3
        dsimp only at*
        refine Zcg ?_
        refine ZE ?_
        refine ZaO ?_
        clear hS
        intro b3 wx6 hS
        refine Zcg ?_
        refine ZE ?_
        refine Qar (sz:=4) (bts:=56) hS Yb rfl rfl rfl rfl ((Row.nil_ (el:=63) (sz:=4))) rfl rfl (List.Perm.refl _) Ya Ya rfl ?_
        clear hS
        intro v4 O4 w5 hR4 hS
        replace hS:=(hS.perm (List.perm_append_comm_assoc O4 (_::_::VH3) (_::H))).conv (ψ:=fun w=>Cs w (fun _=>True) (QaI [nd]) [.int .i64 nd.k,.int .i64 nd.n,sv nd.s,.slice A3 nd.ar.length c3]) fun w h=>⟨_,[],rfl,h,rfl⟩
        obtain ⟨A4,c4,rfl⟩:=hR4.form
        refine Zcg ?_
        refine Zc5 ?_
        refine ZbL ?_
        clear hS
        intro wx7 hS
        refine Z8 ?_
        refine Za9 ?_
        clear hc0 hLt hfr htk hct
        refine QhK  (156::157::158::159::160::161::162::163::164::165::166::167::168::169::170::171::172::173::[]) (fun (x:List Nd×PS) w'=>∃L V VH Av O xs,Sx φ L x.2.l∧QkN x.2.vars V VH∧Row 63 4 Av x.1.length xs O∧St M w0 ((b2,.cells [.int .i64 3,.int .i64 0,sv (c::r),Av].toArray 63)::(b,psr L V x.2.bad)::(VH++(O++(b1,.cells [.int .i64 0,.int .i64 0,sv [],.slice none 0 0].toArray 63)::H))) ((fun w=>Cs w (fun _=>True) (QaI x.1) xs)::F) w'∧x.1.length+x.2.l.length≤2001∧x.2.l.length≤2000∧x.2.vars.length+x.2.l.length≤4000∧QO (Ql d) [41] ⟨rest.tail,vars,bad⟩=(x.1++(QL (Ql d) x.2.l.length x.2).1,(QL (Ql d) x.2.l.length x.2).2.close [41])) (fun x=>x.2.l.length) (([nd],p3)) ?_ ?_
        ·exact ⟨L3,V3,VH3,_,O4,_,hL3,hV3,hR4,hS,by show 1+p3.l.length≤_;omega,by show p3.l.length≤_;omega,by show p3.vars.length+p3.l.length≤_;omega,hi⟩
        clear hS hi hV3 hL3
        rintro ⟨D,p4⟩ w6 jv6 ⟨L4,V4,VH4,Av,O5,xs,hL4,hV4,hR5,hS,hD1,hD2,hD3,hi⟩ ih
        dsimp only at hL4 hV4 hR5 hS hD1 hD2 hD3 hi
        obtain ⟨l4,vars4,bad4⟩:=p4
        dsimp only at hL4 hV4 hR5 hS hD1 hD2 hD3 hi
        obtain ⟨Ao,co,rfl⟩:=hR5.form
        have hfin:∀(L:Value) (bd:Bool) (w':World),St M w0 ((b1,.cells [.int .i64 3,.int .i64 0,sv (c::r),.slice Ao D.length co].toArray 63)::(b2,.cells [.int .i64 3,.int .i64 0,sv (c::r),.slice Ao D.length co].toArray 63)::(b,psr L V4 bd)::(VH4++(O5++H))) ((fun w=>Cs w (fun _=>True) (QaI D) xs)::F) w'→St M w0 ((b,psr L V4 bd)::(VH4++H)) ((fun w=>Sl w (fun _=>True) (.slice Ao D.length co) (QaI D))::F) w':=by
         intro L bd w' h
         have h2:=h.drop.drop.perm (List.perm_append_comm_assoc ((b,psr L V4 bd)::VH4) O5 H)
         have hR6:=hR5
         rw [←Qdk D] at hR6⊢
         exact St.shut hR6 h2
        cases bad4 with
        |true=>
         have hst:=QbU (f:=Ql d) (p:=⟨l4,vars4,true⟩) Yd
         dsimp only at hst
         rw [hst] at hi
         have ecl:PS.close ⟨l4,vars4,true⟩ [41]=⟨l4,vars4,true⟩:=rfl
         simp only [List.append_nil,ecl] at hi
         rw [hi]
         replace hS:=St.raise3 hS
         refine Za3 ?_
         refine ZL ?_
         refine Zai ?_
         refine Zbk ?_
         refine Zel ?_
         refine Zam ?_
         refine Zal ?_
         refine Zdt ?_
         clear hS
         intro wx8 hS
         refine Za2 ?_
         refine ZfN ?_
         clear hS
         intro wx9 hS
         refine ZaU ?_
         exact ⟨_,L4,V4,VH4,rfl,hL4,hV4,hfin _ _ _ hS⟩
        |false=>
         cases hcm:PS.has ⟨l4,vars4,false⟩ [44] with
         |true=>
          have hst:=Qe5 hf (p:=⟨l4,vars4,false⟩) ⟨rfl,hcm⟩
          have hrl4:=(Qer hcm).1
          dsimp only [PS.pop] at hrl4 hst
          have htk:=Qbk ⟨l4,vars4,false⟩ [44] _ _ _ hL4 (.tail _ hφ) hS.swap
          rw [hcm] at htk
          simp only [if_true,PS.pop] at htk
          refine Za3 ?_
          refine ZdG ?_
          refine Ze ?_
          refine Calls.mono (htk) ?_
          rintro _ w7 ⟨L5,rfl,hL5,hS'⟩
          refine Za ?_
          replace hS:=hS'
          clear hS'
          replace hS:=hS.swap
          refine Zav ?_
          refine ZbF ?_
          refine Zjp ?_
          replace hS:=hS.drew
          refine Zc5 ?_
          refine Zaf ?_
          refine ZaB ?_
          refine ZhA ?_
          refine ZcW ?_
          have hct:=ht d rfl ⟨l4.tail,vars4,false⟩ L5 _ VH4 M w0 _ _ _ b φ (.tail _ hφ) (by show l4.tail.length≤_;omega) (by show vars4.length+l4.tail.length≤_;omega) hL5 hV4 hS.sink1
          rw [show ((d:Nat):Int)=((d+1:Nat):Int)-1 by omega] at hct
          refine Calls.mono hct ?_
          rintro _ w8 ⟨v,L6,V6,VH6,rfl,hL6,hV6,hS'⟩
          refine Za ?_
          replace hS:=hS'.raise1
          clear hS' hct htk
          obtain ⟨A6,c6,rfl,_⟩:=(hS.fact (.head _)).form
          have hles6:=hf ⟨l4.tail,vars4,false⟩
          have hfew6:=Qcm d ⟨l4.tail,vars4,false⟩
          dsimp only at hles6 hfew6
          generalize Ql d ⟨l4.tail,vars4,false⟩=r6 at*
          obtain ⟨nd6,p6⟩:=r6
          dsimp only at*
          refine Zcg ?_
          refine ZE ?_
          refine ZaO ?_
          clear hS
          intro b4 wx8 hS
          refine Zcg ?_
          refine ZE ?_
          refine Qar (sz:=4) (bts:=56) hS Yb rfl rfl rfl rfl (hR5) rfl rfl (.cons _ (List.perm_append_comm_assoc (_::_::VH6) O5 (_::H))) Ya Ya rfl ?_
          clear hS
          intro v9 O9 w9 hR9 hS
          replace hS:=hS.perm (List.perm_append_comm_assoc O9 (_::_::VH6) (_::H))
          obtain ⟨A9,c9,rfl⟩:=hR9.form
          refine Zcg ?_
          refine Zc5 ?_
          refine ZbL ?_
          clear hS
          intro wx9 hS
          refine Zb ?_
          refine ZaM ?_
          replace hS:=St.conv2 hS (ψ:=fun w=>Cs w (fun _=>True) (QaI (D++[nd6])) (xs++[.int .i64 nd6.k,.int .i64 nd6.n,sv nd6.s,.slice A6 nd6.ar.length c6])) fun w h1 h2=>by
           rw [Qix];exact Cs.app h2 ⟨_,[],rfl,h1,rfl⟩
          refine ih ((D++[nd6],p6)) _ _ ?_ ?_ Yc
          ·show p6.l.length<l4.length;omega
          ·refine ⟨L6,V6,VH6,_,O9,_,hL6,hV6,?_,hS,?_,?_,?_,?_⟩
           ·simp only [List.length_append,List.length_cons,List.length_nil];exact hR9
           ·simp only [List.length_append,List.length_cons,List.length_nil];omega
           ·show p6.l.length≤_;omega
           ·show p6.vars.length+p6.l.length≤_;omega
           ·rw [hi,hst];simp
         |false=>
          have hst:=QbU (f:=Ql d) (p:=⟨l4,vars4,false⟩) (by simp [hcm])
          dsimp only at hst
          rw [hst] at hi
          simp only [List.append_nil] at hi
          have htk:=Qbk ⟨l4,vars4,false⟩ [44] _ _ _ hL4 (.tail _ hφ) hS.swap
          rw [hcm] at htk
          simp only [Bool.false_eq_true,if_false] at htk
          refine Za3 ?_
          refine ZdG ?_
          refine Ze ?_
          refine Calls.mono (htk) ?_
          rintro _ w7 ⟨L5,rfl,hL5,hS'⟩
          refine Za ?_
          replace hS:=hS'
          clear hS'
          replace hS:=hS.swap
          refine Zbk ?_
          refine Zel ?_
          refine Zam ?_
          refine ZN ?_
          have htk2:=Qbk ⟨l4,vars4,false⟩ [41] _ _ _ hL5 (.tail _ hφ) hS.swap
          cases hcl:PS.has ⟨l4,vars4,false⟩ [41] with
          |true=>
           have ecl:PS.close ⟨l4,vars4,false⟩ [41]=⟨l4.tail,vars4,false⟩:=by unfold PS.close;rw [if_neg Yd,if_pos hcl];rfl
           rw [ecl] at hi
           rw [hi]
           rw [hcl] at htk2
           simp only [if_true,PS.pop] at htk2
           refine Ze ?_
           refine Calls.mono (htk2) ?_
           rintro _ w8 ⟨L6,rfl,hL6,hS'⟩
           refine Za ?_
           replace hS:=hS'
           clear hS'
           replace hS:=St.raise3 hS.swap
           refine ZfO ?_
           clear hS
           intro wx8 hS
           refine Za2 ?_
           refine ZfN ?_
           clear hS
           intro wx9 hS
           refine ZaU ?_
           exact ⟨_,L6,V4,VH4,rfl,hL6,hV4,hfin _ _ _ hS⟩
          |false=>
           have ecl:PS.close ⟨l4,vars4,false⟩ [41]=⟨l4,vars4,true⟩:=by unfold PS.close;rw [if_neg Yd,if_neg (by simp [hcl])];rfl
           rw [ecl] at hi
           rw [hi]
           rw [hcl] at htk2
           simp only [Bool.false_eq_true,if_false] at htk2
           refine Ze ?_
           refine Calls.mono (htk2) ?_
           rintro _ w8 ⟨L6,rfl,hL6,hS'⟩
           refine Za ?_
           replace hS:=hS'
           clear hS'
           replace hS:=St.raise3 hS.swap
           refine ZfO ?_
           clear hS
           intro wx8 hS
           refine Za2 ?_
           refine ZfN ?_
           clear hS
           intro wx9 hS
           refine ZaU ?_
           exact ⟨_,L6,V4,VH4,rfl,hL6,hV4,hfin _ _ _ hS⟩
end Go.Proofs.YthliapbflkfdiacGreatDoor
