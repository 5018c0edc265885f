/-
  The document's own words of a text, walked.
-/
import Derived.Test.YthliapbflkfdiacGreatDoorZ0
import Derived.Test.YthliapbflkfdiacGreatDoorG5
import Derived.Test.YthliapbflkfdiacGreatDoorG4
import Derived.Test.YthliapbflkfdiacGreatDoorG14
namespace Go.Proofs.YthliapbflkfdiacGreatDoor
open Go.RowKit Go.Shelf
set_option linter.unusedVariables false
set_option linter.unusedSimpArgs false
set_option maxRecDepth 100000
set_option maxHeartbeats 1000000
theorem QdY (c:UInt8) (w:World):Calls Tryz.prog 127 #[.int .u8 c.toNat] w fun e w'=>e= .returned (.bool (Qce c))∧w'=w:=by
 refine Qg Tryz.func127 rfl Tryz.ntmps127 rfl ?_
 refine Zg ?_
 refine Zdl ?_
 refine Zf ?_
 unfold Qce
 cases decide ((c.toNat:Int)≥97)
 ·refine Z4 ?_
  refine Zab ?_
  refine Qd Tryz.func127 rfl Yb ?_
  exact ⟨rfl,rfl⟩
 ·refine Zdu ?_
  refine Zab ?_
  refine Qd Tryz.func127 rfl Yb ?_
  exact ⟨rfl,rfl⟩
theorem QdX (c:UInt8) (w:World):Calls Tryz.prog 128 #[.int .u8 c.toNat] w fun e w'=>e= .returned (.bool (Qa7 c))∧w'=w:=by
 refine Qg Tryz.func128 rfl Tryz.ntmps128 rfl ?_
 refine Zg ?_
 refine Zdl ?_
 refine Zf ?_
 unfold Qa7
 cases decide ((c.toNat:Int)≥48)
 ·refine Z4 ?_
  refine Zab ?_
  refine Qd Tryz.func128 rfl Yb ?_
  exact ⟨rfl,rfl⟩
 ·refine Zdu ?_
  refine Zab ?_
  refine Qd Tryz.func128 rfl Yb ?_
  exact ⟨rfl,rfl⟩
theorem Qu6 (set:Str) (c:UInt8) (w:World):Calls Tryz.prog 129 #[sv set,.int .u8 c.toNat] w fun e w'=>e= .returned (.int .i64 (Lib.indexByte set c))∧w'=w:=by
 have h:=Any.strings_IndexByte Tryz.lays137 ⟨set.toArray⟩ (c.toNat:Int) w
 refine Calls.mono h ?_
 rintro e w' ⟨rfl,hw⟩
 refine ⟨?_,hw⟩
 rw [Qey]
 have:((c.toNat:Nat):Int).toNat.toUInt8=c:=by simp
 rw [this]
def Qtl:Str:=[32,10,9,13]
theorem Qwg (c:UInt8):decide ((Lib.indexByte Qtl c)≥0)=QfP c:=by
 have h:∀n:Fin 256,decide ((Lib.indexByte Qtl (UInt8.ofNat n.val))≥0)=QfP (UInt8.ofNat n.val):=by decide+kernel
 have:=h ⟨c.toNat,c.toNat_lt⟩
 simpa using this
theorem Qtm (c:UInt8) (w:World):Calls Tryz.prog 129 #[sv [32,10,9,13],.int .u8 c.toNat] w fun e w'=>(∃i:Int,e= .returned (.int .i64 i)∧decide (i≥0)=QfP c)∧w'=w:=by
 refine Calls.mono (Qu6 Qtl c w) ?_
 rintro e w' ⟨rfl,rfl⟩
 exact ⟨⟨_,rfl,Qwg c⟩,rfl⟩
theorem QeZ {p:UInt8→Bool}:∀(E Q:Str),(∀c∈E,p c=true)→Qaq p (E++Q)=E.length+Qaq p Q
 |[],Q,_=>by simp
 |c::E,Q,h=>by
  simp only [List.cons_append,Qaq,h c (.head _),cond_true,List.length_cons]
  rw [QeZ E Q fun x hx=>h x (.tail _ hx)]
  omega
theorem Qha {p:UInt8→Bool} {D:Str} {c:UInt8} (h:∀x∈D,p x=true) (hc:p c=true):∀x∈D++[c],p x=true:=by
 intro x hx
 rcases List.mem_append.1 hx with hx|hx
 ·exact h x hx
 ·rw [List.mem_singleton.1 hx];exact hc
theorem QdP (D R:Str) (n:Nat) (i j:Int) (hi:i=(D.length:Nat)) (hj:j=(D.length:Nat)+(n:Nat)):((D++R).take j.toNat).drop i.toNat=R.take n:=by
 have e1:i.toNat=D.length:=by omega
 have e2:j.toNat=D.length+n:=by omega
 rw [e1,e2,List.take_length_add_append,List.drop_left]
section
variable {M:List Nat} {w0:World} {H:List (Nat×Obj)} {F:List (World→Prop)}
theorem Qnd (l : Str) (w : World) (hl : l.length ≤ 2000) (hS : St M w0 H F w) :
  Calls Tryz.prog 79 #[sv l] w fun e w'=>∃v O,e= .returned v∧Row 9 1 v (Qbj l).length ((Qbj l).map sv) O∧St M w0 (O++H) F w':=by
 refine Qg Tryz.func79 rfl Tryz.ntmps79 rfl ?_
 refine Zg ?_
 refine Zg ?_
 refine Zg ?_
 refine Zej ?_
 refine Zg ?_
 refine Za9 ?_
 refine Qx 3 6 (9::10::11::12::13::14::15::7::8::20::21::22::19::23::24::26::27::28::29::30::31::32::33::34::35::36::25::37::38::39::40::41::42::43::44::45::46::47::48::49::50::51::52::53::55::56::57::58::59::60::61::54::62::63::64::65::66::67::68::69::70::71::72::73::74::75::76::77::78::80::81::82::83::84::85::86::87::88::89::90::91::92::93::94::95::79::97::98::99::96::16::17::18::2::100::101::102::103::104::105::106::107::108::109::110::111::[]) (fun (R:Str) v i w'=>∃D acc O,l=D++R∧i= .int .i64 (D.length:Nat)∧Row 9 1 v acc.length (acc.map sv) O∧St M w0 (O++H) F w'∧Qbj l=acc++Qbj R∧acc.length≤D.length) (fun R=>R.length) (l) ?_ Yb Yb ?_
 ·exact ⟨[],[],[],rfl,rfl,Row.nil_,hS,rfl,Nat.le_refl _⟩
 clear hS
 rintro R v2 i2 w2 jv ⟨D,acc,O,hD,rfl,hR,hS,hW,hacc⟩ ih
 have hlen:l.length=D.length+R.length:=by rw [hD,List.length_append]
 obtain ⟨A,cp,rfl⟩:=hR.form
 cases R with
 |nil=>
  simp only [List.length_nil] at hlen
  rw [Qtk,List.append_nil] at hW
  refine Zh9 ?_
  refine Zbp ?_
  refine Zak ?_
  refine Zgz ?_
  rw [hW]
  exact ⟨_,O,rfl,hR,hS⟩
 | cons c r =>
  simp only [List.length_cons] at hlen
  have hget:l[((D.length:Nat):Int).toNat]?=some c:=by rw [hD];simp
  have hwl:=Qr1 (c::r)
  simp only [List.length_cons] at hwl
  cases hw:QfP c with
  |true=>
   refine Zb9 ?_
   rintro _ w3 ⟨⟨i,rfl,hi⟩,rfl⟩
   refine Za ?_
   have hi0:0≤i:=by rw [hw] at hi;exact of_decide_eq_true hi
   refine ZO ?_
   refine ZbE ?_
   refine Zl ?_
   refine Zv ?_
   refine Zd ?_
   refine ZaW ?_
   refine ih (r) _ _ _ _ ?_ ?_ Yb Yb Yc
   ·simp
   ·exact ⟨D++[c],acc,O,by rw [hD,List.append_assoc];rfl,by simp,hR,hS,by rw [hW,Qi3 r hw],by simp;omega⟩
  | false =>
   subst hD
   cases hlo:Qce c with
   |true=>
    refine Zb9 ?_
    rintro _ w3 ⟨⟨i,rfl,hi⟩,rfl⟩
    refine Za ?_
    have hi0:i<0:=by rw [hw] at hi;have:=of_decide_eq_false hi;omega
    refine Zcq ?_
    rintro _ w4 ⟨rfl,rfl⟩
    refine Zag ?_
    rw [hlo]
    refine Z4 ?_
    refine ZaV ?_
    refine Zft ?_
    refine Zad ?_
    refine Za9 ?_
    refine Qp 8 (37::38::39::40::41::42::43::44::45::46::47::48::49::50::51::52::53::[]) (fun (Q:Str) v w'=>w'=w4∧∃E,r=E++Q∧v= .int .i64 ((1+E.length:Nat):Int)∧∀x∈E,Qce x=true) (fun Q=>Q.length) (r) ?_ Yb ?_
    ·exact ⟨rfl,[],rfl,rfl,by simp⟩
    rintro Q vq w6 jv4 ⟨rfl,E,hE,rfl,hall⟩ ih2
    have hlE:r.length=E.length+Q.length:=by rw [hE,List.length_append]
    have hsp:Qaq Qce r=E.length+Qaq Qce Q:=by rw [hE];exact QeZ E Q hall
    cases Q with
    |nil=>
     simp only [List.length_nil] at hlE
     refine Zha ?_
     refine ZcP ?_
     refine Zbk ?_
     refine ZdB ?_
     clear hS
     intro b1 wx1 hS
     refine Zbh ?_
     clear hS
     intro v5 O5 w5 hR5 hS
     rw [QdP D (c::r) (1+E.length) _ _ rfl] at hR5
     ·obtain ⟨A5,c5,rfl⟩:=hR5.form
      refine Zcr ?_
      refine ih (((c::r).drop (1+E.length))) _ _ _ _ ?_ ?_ Yb Yb Yc
      ·simp<;>omega
      ·have hwl2:Qz (c::r)=1+E.length:=by have e0:Qaq Qce ([]:Str)=0:=rfl;simp only [Qz,hlo,Bool.true_or,if_true];rw [hsp,e0];rfl
       refine ⟨D++(c::r).take (1+E.length),acc++[(c::r).take (1+E.length)],O5,?_,?_,?_,hS,?_,?_⟩
       ·rw [List.append_assoc,List.take_append_drop]
       ·rw [hwl2] at hwl;simp<;>omega
       ·rw [List.map_append,List.length_append];exact hR5
       ·rw [hW,QaP r hw Ya,hwl2];simp
       ·rw [hwl2] at hwl;simp<;>omega
     ·omega
    |cons x q=>
     simp only [List.length_cons] at hlE
     have hget2:(D++c::r)[(((D.length:Nat):Int)+((1+E.length:Nat):Int)).toNat]?=some x:=by
      have e1:(((D.length:Nat):Int)+((1+E.length:Nat):Int)).toNat=(D++c::E).length:=by simp;omega
      rw [e1,hE,show D++c::(E++x::q)=(D++c::E)++x::q by simp]
      simp
     cases hx:Qce x with
     |true=>
      refine ZdC ?_
      refine Calls.mono (QdY x _) ?_
      rintro _ w5 ⟨rfl,rfl⟩
      refine ZdD ?_
      rw [hx]
      refine Z2 ?_
      refine ZbF ?_
      refine Zx ?_
      refine Zv ?_
      refine Za1 ?_
      refine ih2 q _ _ _ ?_ ⟨rfl,E++[x],by rw [hE];simp,rfl,Qha hall hx⟩ (by first|(conv=>lhs;whnf);done|(show Value.int .i64 _=Value.int .i64 _;congr 1;simp;omega)) Yc
      simp
     |false=>
      refine ZdC ?_
      refine Calls.mono (QdY x _) ?_
      rintro _ w5 ⟨rfl,rfl⟩
      refine ZdD ?_
      rw [hx]
      refine Zg2 ?_
      refine ZdB ?_
      clear hS
      intro b1 wx1 hS
      refine Zbh ?_
      clear hS
      intro v5 O5 w5 hR5 hS
      rw [QdP D (c::r) (1+E.length) _ _ rfl] at hR5
      ·obtain ⟨A5,c5,rfl⟩:=hR5.form
       refine Zcr ?_
       refine ih (((c::r).drop (1+E.length))) _ _ _ _ ?_ ?_ Yb Yb Yc
       ·simp<;>omega
       ·have hwl2:Qz (c::r)=1+E.length:=by have e0:Qaq Qce (x::q)=0:=(by simp [Qaq,hx]);simp only [Qz,hlo,Bool.true_or,if_true];rw [hsp,e0];rfl
        refine ⟨D++(c::r).take (1+E.length),acc++[(c::r).take (1+E.length)],O5,?_,?_,?_,hS,?_,?_⟩
        ·rw [List.append_assoc,List.take_append_drop]
        ·rw [hwl2] at hwl;simp<;>omega
        ·rw [List.map_append,List.length_append];exact hR5
        ·rw [hW,QaP r hw Ya,hwl2];simp
        ·rw [hwl2] at hwl;simp<;>omega
      ·omega
   | false =>
    cases hup:upB c with
    |true=>
     have hup1:65≤c.toNat∧c.toNat≤90:=by simp [upB] at hup;omega
     refine Zb9 ?_
     rintro _ w3 ⟨⟨i,rfl,hi⟩,rfl⟩
     refine Za ?_
     have hi0:i<0:=by rw [hw] at hi;have:=of_decide_eq_false hi;omega
     refine Zcq ?_
     rintro _ w4 ⟨rfl,rfl⟩
     refine Zag ?_
     rw [hlo]
     refine ZiY ?_
     refine Zi1 ?_
     refine Zad ?_
     refine Za9 ?_
     refine Qp 8 (37::38::39::40::41::42::43::44::45::46::47::48::49::50::51::52::53::[]) (fun (Q:Str) v w'=>w'=w4∧∃E,r=E++Q∧v= .int .i64 ((1+E.length:Nat):Int)∧∀x∈E,Qce x=true) (fun Q=>Q.length) (r) ?_ Yb ?_
     ·exact ⟨rfl,[],rfl,rfl,by simp⟩
     rintro Q vq w6 jv4 ⟨rfl,E,hE,rfl,hall⟩ ih2
     have hlE:r.length=E.length+Q.length:=by rw [hE,List.length_append]
     have hsp:Qaq Qce r=E.length+Qaq Qce Q:=by rw [hE];exact QeZ E Q hall
     cases Q with
     |nil=>
      simp only [List.length_nil] at hlE
      refine Zha ?_
      refine ZcP ?_
      refine Zbk ?_
      refine ZdB ?_
      clear hS
      intro b1 wx1 hS
      refine Zbh ?_
      clear hS
      intro v5 O5 w5 hR5 hS
      rw [QdP D (c::r) (1+E.length) _ _ rfl] at hR5
      ·obtain ⟨A5,c5,rfl⟩:=hR5.form
       refine Zcr ?_
       refine ih (((c::r).drop (1+E.length))) _ _ _ _ ?_ ?_ Yb Yb Yc
       ·simp<;>omega
       ·have hwl2:Qz (c::r)=1+E.length:=by have e0:Qaq Qce ([]:Str)=0:=rfl;simp only [Qz,hlo,hup,Bool.or_true,if_true];rw [hsp,e0];rfl
        refine ⟨D++(c::r).take (1+E.length),acc++[(c::r).take (1+E.length)],O5,?_,?_,?_,hS,?_,?_⟩
        ·rw [List.append_assoc,List.take_append_drop]
        ·rw [hwl2] at hwl;simp<;>omega
        ·rw [List.map_append,List.length_append];exact hR5
        ·rw [hW,QaP r hw Ya,hwl2];simp
        ·rw [hwl2] at hwl;simp<;>omega
      ·omega
     |cons x q=>
      simp only [List.length_cons] at hlE
      have hget2:(D++c::r)[(((D.length:Nat):Int)+((1+E.length:Nat):Int)).toNat]?=some x:=by
       have e1:(((D.length:Nat):Int)+((1+E.length:Nat):Int)).toNat=(D++c::E).length:=by simp;omega
       rw [e1,hE,show D++c::(E++x::q)=(D++c::E)++x::q by simp]
       simp
      cases hx:Qce x with
      |true=>
       refine ZdC ?_
       refine Calls.mono (QdY x _) ?_
       rintro _ w5 ⟨rfl,rfl⟩
       refine ZdD ?_
       rw [hx]
       refine Z2 ?_
       refine ZbF ?_
       refine Zx ?_
       refine Zv ?_
       refine Za1 ?_
       refine ih2 q _ _ _ ?_ ⟨rfl,E++[x],by rw [hE];simp,rfl,Qha hall hx⟩ (by first|(conv=>lhs;whnf);done|(show Value.int .i64 _=Value.int .i64 _;congr 1;simp;omega)) Yc
       simp
      |false=>
       refine ZdC ?_
       refine Calls.mono (QdY x _) ?_
       rintro _ w5 ⟨rfl,rfl⟩
       refine ZdD ?_
       rw [hx]
       refine Zg2 ?_
       refine ZdB ?_
       clear hS
       intro b1 wx1 hS
       refine Zbh ?_
       clear hS
       intro v5 O5 w5 hR5 hS
       rw [QdP D (c::r) (1+E.length) _ _ rfl] at hR5
       ·obtain ⟨A5,c5,rfl⟩:=hR5.form
        refine Zcr ?_
        refine ih (((c::r).drop (1+E.length))) _ _ _ _ ?_ ?_ Yb Yb Yc
        ·simp<;>omega
        ·have hwl2:Qz (c::r)=1+E.length:=by have e0:Qaq Qce (x::q)=0:=(by simp [Qaq,hx]);simp only [Qz,hlo,hup,Bool.or_true,if_true];rw [hsp,e0];rfl
         refine ⟨D++(c::r).take (1+E.length),acc++[(c::r).take (1+E.length)],O5,?_,?_,?_,hS,?_,?_⟩
         ·rw [List.append_assoc,List.take_append_drop]
         ·rw [hwl2] at hwl;simp<;>omega
         ·rw [List.map_append,List.length_append];exact hR5
         ·rw [hW,QaP r hw Ya,hwl2];simp
         ·rw [hwl2] at hwl;simp<;>omega
       ·omega
    |false=>
     have hnu:¬(65≤c.toNat∧c.toNat≤90):=by
      intro h
      have:upB c=true:=by simp [upB];omega
      rw [this] at hup;cases hup
     cases hdg:Qa7 c with
     |true=>
      have hd1:48≤c.toNat∧c.toNat≤57:=by simp [Qa7] at hdg;omega
      refine Zb9 ?_
      rintro _ w3 ⟨⟨i,rfl,hi⟩,rfl⟩
      refine Za ?_
      have hi0:i<0:=by rw [hw] at hi;have:=of_decide_eq_false hi;omega
      refine Zcq ?_
      rintro _ w4 ⟨rfl,rfl⟩
      refine Zag ?_
      rw [hlo]
      refine Zev ?_
      rintro _ w4 ⟨rfl,rfl⟩
      refine Zag ?_
      rw [hdg]
      refine Z4 ?_
      refine Zad ?_
      refine Za9 ?_
      refine Qp 8 (62::63::64::65::66::67::68::69::70::71::72::73::74::75::76::77::78::[]) (fun (Q:Str) v w'=>w'=w4∧∃E,r=E++Q∧v= .int .i64 ((1+E.length:Nat):Int)∧∀x∈E,Qa7 x=true) (fun Q=>Q.length) (r) ?_ Yb ?_
      ·exact ⟨rfl,[],rfl,rfl,by simp⟩
      rintro Q vq w6 jv4 ⟨rfl,E,hE,rfl,hall⟩ ih2
      have hlE:r.length=E.length+Q.length:=by rw [hE,List.length_append]
      have hsp:Qaq Qa7 r=E.length+Qaq Qa7 Q:=by rw [hE];exact QeZ E Q hall
      cases Q with
      |nil=>
       simp only [List.length_nil] at hlE
       refine Zha ?_
       refine ZcP ?_
       refine Zbk ?_
       refine ZdB ?_
       clear hS
       intro b1 wx1 hS
       refine Zbh ?_
       clear hS
       intro v5 O5 w5 hR5 hS
       rw [QdP D (c::r) (1+E.length) _ _ rfl] at hR5
       ·obtain ⟨A5,c5,rfl⟩:=hR5.form
        refine Zcr ?_
        refine ih (((c::r).drop (1+E.length))) _ _ _ _ ?_ ?_ Yb Yb Yc
        ·simp<;>omega
        ·have hwl2:Qz (c::r)=1+E.length:=by have e0:Qaq Qa7 ([]:Str)=0:=rfl;simp only [Qz,hlo,hup,hdg,Bool.or_self,Bool.false_eq_true,if_false,Bool.true_or,if_true];rw [hsp,e0];rfl
         refine ⟨D++(c::r).take (1+E.length),acc++[(c::r).take (1+E.length)],O5,?_,?_,?_,hS,?_,?_⟩
         ·rw [List.append_assoc,List.take_append_drop]
         ·rw [hwl2] at hwl;simp<;>omega
         ·rw [List.map_append,List.length_append];exact hR5
         ·rw [hW,QaP r hw Ya,hwl2];simp
         ·rw [hwl2] at hwl;simp<;>omega
       ·omega
      |cons x q=>
       simp only [List.length_cons] at hlE
       have hget2:(D++c::r)[(((D.length:Nat):Int)+((1+E.length:Nat):Int)).toNat]?=some x:=by
        have e1:(((D.length:Nat):Int)+((1+E.length:Nat):Int)).toNat=(D++c::E).length:=by simp;omega
        rw [e1,hE,show D++c::(E++x::q)=(D++c::E)++x::q by simp]
        simp
       cases hx:Qa7 x with
       |true=>
        refine ZdC ?_
        refine Calls.mono (QdX x _) ?_
        rintro _ w5 ⟨rfl,rfl⟩
        refine ZdD ?_
        rw [hx]
        refine Z2 ?_
        refine ZbF ?_
        refine Zx ?_
        refine Zv ?_
        refine Za1 ?_
        refine ih2 q _ _ _ ?_ ⟨rfl,E++[x],by rw [hE];simp,rfl,Qha hall hx⟩ (by first|(conv=>lhs;whnf);done|(show Value.int .i64 _=Value.int .i64 _;congr 1;simp;omega)) Yc
        simp
       |false=>
        refine ZdC ?_
        refine Calls.mono (QdX x _) ?_
        rintro _ w5 ⟨rfl,rfl⟩
        refine ZdD ?_
        rw [hx]
        refine Zg2 ?_
        refine ZdB ?_
        clear hS
        intro b1 wx1 hS
        refine Zbh ?_
        clear hS
        intro v5 O5 w5 hR5 hS
        rw [QdP D (c::r) (1+E.length) _ _ rfl] at hR5
        ·obtain ⟨A5,c5,rfl⟩:=hR5.form
         refine Zcr ?_
         refine ih (((c::r).drop (1+E.length))) _ _ _ _ ?_ ?_ Yb Yb Yc
         ·simp<;>omega
         ·have hwl2:Qz (c::r)=1+E.length:=by have e0:Qaq Qa7 (x::q)=0:=(by simp [Qaq,hx]);simp only [Qz,hlo,hup,hdg,Bool.or_self,Bool.false_eq_true,if_false,Bool.true_or,if_true];rw [hsp,e0];rfl
          refine ⟨D++(c::r).take (1+E.length),acc++[(c::r).take (1+E.length)],O5,?_,?_,?_,hS,?_,?_⟩
          ·rw [List.append_assoc,List.take_append_drop]
          ·rw [hwl2] at hwl;simp<;>omega
          ·rw [List.map_append,List.length_append];exact hR5
          ·rw [hW,QaP r hw Ya,hwl2];simp
          ·rw [hwl2] at hwl;simp<;>omega
        ·omega
     |false=>
      by_cases h45:c=45
      ·have h45':c.toNat=45:=by rw [h45];rfl
       have hb45:(c==45)=true:=by simp [h45]
       refine Zb9 ?_
       rintro _ w3 ⟨⟨i,rfl,hi⟩,rfl⟩
       refine Za ?_
       have hi0:i<0:=by rw [hw] at hi;have:=of_decide_eq_false hi;omega
       refine Zcq ?_
       rintro _ w4 ⟨rfl,rfl⟩
       refine Zag ?_
       rw [hlo]
       refine Zev ?_
       rintro _ w4 ⟨rfl,rfl⟩
       refine Zag ?_
       rw [hdg]
       refine Zb6 ?_
       refine Zad ?_
       refine Za9 ?_
       refine Qp 8 (62::63::64::65::66::67::68::69::70::71::72::73::74::75::76::77::78::[]) (fun (Q:Str) v w'=>w'=w4∧∃E,r=E++Q∧v= .int .i64 ((1+E.length:Nat):Int)∧∀x∈E,Qa7 x=true) (fun Q=>Q.length) (r) ?_ Yb ?_
       ·exact ⟨rfl,[],rfl,rfl,by simp⟩
       rintro Q vq w6 jv4 ⟨rfl,E,hE,rfl,hall⟩ ih2
       have hlE:r.length=E.length+Q.length:=by rw [hE,List.length_append]
       have hsp:Qaq Qa7 r=E.length+Qaq Qa7 Q:=by rw [hE];exact QeZ E Q hall
       cases Q with
       |nil=>
        simp only [List.length_nil] at hlE
        refine Zha ?_
        refine ZcP ?_
        refine Zbk ?_
        refine ZdB ?_
        clear hS
        intro b1 wx1 hS
        refine Zbh ?_
        clear hS
        intro v5 O5 w5 hR5 hS
        rw [QdP D (c::r) (1+E.length) _ _ rfl] at hR5
        ·obtain ⟨A5,c5,rfl⟩:=hR5.form
         refine Zcr ?_
         refine ih (((c::r).drop (1+E.length))) _ _ _ _ ?_ ?_ Yb Yb Yc
         ·simp<;>omega
         ·have hwl2:Qz (c::r)=1+E.length:=by have e0:Qaq Qa7 ([]:Str)=0:=rfl;simp only [Qz,hlo,hup,hdg,hb45,Bool.or_self,Bool.false_eq_true,if_false,Bool.false_or,if_true];rw [hsp,e0];rfl
          refine ⟨D++(c::r).take (1+E.length),acc++[(c::r).take (1+E.length)],O5,?_,?_,?_,hS,?_,?_⟩
          ·rw [List.append_assoc,List.take_append_drop]
          ·rw [hwl2] at hwl;simp<;>omega
          ·rw [List.map_append,List.length_append];exact hR5
          ·rw [hW,QaP r hw Ya,hwl2];simp
          ·rw [hwl2] at hwl;simp<;>omega
        ·omega
       |cons x q=>
        simp only [List.length_cons] at hlE
        have hget2:(D++c::r)[(((D.length:Nat):Int)+((1+E.length:Nat):Int)).toNat]?=some x:=by
         have e1:(((D.length:Nat):Int)+((1+E.length:Nat):Int)).toNat=(D++c::E).length:=by simp;omega
         rw [e1,hE,show D++c::(E++x::q)=(D++c::E)++x::q by simp]
         simp
        cases hx:Qa7 x with
        |true=>
         refine ZdC ?_
         refine Calls.mono (QdX x _) ?_
         rintro _ w5 ⟨rfl,rfl⟩
         refine ZdD ?_
         rw [hx]
         refine Z2 ?_
         refine ZbF ?_
         refine Zx ?_
         refine Zv ?_
         refine Za1 ?_
         refine ih2 q _ _ _ ?_ ⟨rfl,E++[x],by rw [hE];simp,rfl,Qha hall hx⟩ (by first|(conv=>lhs;whnf);done|(show Value.int .i64 _=Value.int .i64 _;congr 1;simp;omega)) Yc
         simp
        |false=>
         refine ZdC ?_
         refine Calls.mono (QdX x _) ?_
         rintro _ w5 ⟨rfl,rfl⟩
         refine ZdD ?_
         rw [hx]
         refine Zg2 ?_
         refine ZdB ?_
         clear hS
         intro b1 wx1 hS
         refine Zbh ?_
         clear hS
         intro v5 O5 w5 hR5 hS
         rw [QdP D (c::r) (1+E.length) _ _ rfl] at hR5
         ·obtain ⟨A5,c5,rfl⟩:=hR5.form
          refine Zcr ?_
          refine ih (((c::r).drop (1+E.length))) _ _ _ _ ?_ ?_ Yb Yb Yc
          ·simp<;>omega
          ·have hwl2:Qz (c::r)=1+E.length:=by have e0:Qaq Qa7 (x::q)=0:=(by simp [Qaq,hx]);simp only [Qz,hlo,hup,hdg,hb45,Bool.or_self,Bool.false_eq_true,if_false,Bool.false_or,if_true];rw [hsp,e0];rfl
           refine ⟨D++(c::r).take (1+E.length),acc++[(c::r).take (1+E.length)],O5,?_,?_,?_,hS,?_,?_⟩
           ·rw [List.append_assoc,List.take_append_drop]
           ·rw [hwl2] at hwl;simp<;>omega
           ·rw [List.map_append,List.length_append];exact hR5
           ·rw [hW,QaP r hw Ya,hwl2];simp
           ·rw [hwl2] at hwl;simp<;>omega
         ·omega
      have h45':c.toNat≠45:=fun h=>h45 (Ql8 (n:=45) h)
      have hb45:(c==45)=false:=by simp [h45]
      have hsg:=QtS c
      by_cases h58:c=58
      ·have h58':c.toNat=58:=by rw [h58];rfl
       have hs0:Qcc.contains c=false:=by rw [h58];decide
       rw [hs0] at hsg
       have hsn:Lib.indexByte Qcc c<0:=by have:=of_decide_eq_false hsg;omega
       have hnp:([58,45]:Str).isPrefixOf (c::r)=true∨Qz (c::r)=0:=by
        cases hp:([58,45]:Str).isPrefixOf (c::r) with
        |true=>exact .inl rfl
        |false=>right;simp only [Qz,hlo,hup,hdg,hb45,hp,hs0,Bool.or_self,Bool.false_eq_true,if_false]
       cases r with
       |nil=>
        have hbad:Qz [c]=0:=by
         rcases hnp with h|h
         ·simp [List.isPrefixOf] at h
         ·exact h
        simp only [List.length_nil] at hlen
        refine Zb9 ?_
        rintro _ w3 ⟨⟨i,rfl,hi⟩,rfl⟩
        refine Za ?_
        have hi0:i<0:=by rw [hw] at hi;have:=of_decide_eq_false hi;omega
        refine Zcq ?_
        rintro _ w4 ⟨rfl,rfl⟩
        refine Zag ?_
        rw [hlo]
        refine Zev ?_
        rintro _ w4 ⟨rfl,rfl⟩
        refine Zag ?_
        rw [hdg]
        refine Zb6 ?_
        refine Zid ?_
        refine Zv ?_
        refine ZH ?_
        refine Zdv ?_
        refine Zs ?_
        refine ZfH ?_
        refine ZaG ?_
        refine ZP ?_
        refine ZgA ?_
        rintro _ w5 ⟨rfl,rfl⟩
        refine Za ?_
        generalize Lib.indexByte Qcc c=si at*
        refine Zg7 ?_
        refine Zl ?_
        refine ZaC ?_
        clear hS
        intro b1 wx1 hS
        refine Zbh ?_
        clear hS
        intro v5 O5 w5 hR5 hS
        obtain ⟨A5,c5,rfl⟩:=hR5.form
        refine Zd ?_
        refine Zgz ?_
        refine ⟨_,O5,rfl,?_,hS⟩
        rw [hW,QeQ [] hw hbad,List.map_append,List.length_append]
        exact hR5
       |cons x q=>
        simp only [List.length_cons] at hlen
        have hget3:(D++c::x::q)[(((D.length:Nat):Int)+1).toNat]?=some x:=by
         have e1:(((D.length:Nat):Int)+1).toNat=(D++[c]).length:=by simp<;>omega
         rw [e1,show D++c::x::q=(D++[c])++x::q by simp]
         simp
        by_cases hx:x=45
        ·have hx':x.toNat=45:=by rw [hx];rfl
         refine Zb9 ?_
         rintro _ w3 ⟨⟨i,rfl,hi⟩,rfl⟩
         refine Za ?_
         have hi0:i<0:=by rw [hw] at hi;have:=of_decide_eq_false hi;omega
         refine Zcq ?_
         rintro _ w4 ⟨rfl,rfl⟩
         refine Zag ?_
         rw [hlo]
         refine Zev ?_
         rintro _ w4 ⟨rfl,rfl⟩
         refine Zag ?_
         rw [hdg]
         refine Zb6 ?_
         refine Zid ?_
         refine Zv ?_
         refine ZH ?_
         refine Zdv ?_
         refine Zs ?_
         refine Zaw ?_
         refine Z3 ?_
         refine ZiW ?_
         refine Zr ?_
         refine Zad ?_
         refine Zbe ?_
         refine Za1 ?_
         refine ZiV ?_
         clear hS
         intro b1 wx1 hS
         refine Zbh ?_
         clear hS
         intro v5 O5 w5 hR5 hS
         rw [QdP D (c::x::q) (2) _ _ rfl] at hR5
         ·obtain ⟨A5,c5,rfl⟩:=hR5.form
          refine Zcr ?_
          refine ih (((c::x::q).drop (2))) _ _ _ _ ?_ ?_ Yb Yb Yc
          ·simp<;>omega
          ·have hwl2:Qz (c::x::q)=2:=by subst h58 hx;rfl
           refine ⟨D++(c::x::q).take (2),acc++[(c::x::q).take (2)],O5,?_,?_,?_,hS,?_,?_⟩
           ·rw [List.append_assoc,List.take_append_drop]
           ·rw [hwl2] at hwl;simp<;>omega
           ·rw [List.map_append,List.length_append];exact hR5
           ·rw [hW,QaP (x::q) hw Ya,hwl2];simp
           ·rw [hwl2] at hwl;simp<;>omega
         ·omega
        ·have hx':x.toNat≠45:=fun h=>hx (Ql8 (n:=45) h)
         have hbad:Qz (c::x::q)=0:=by
          rcases hnp with h|h
          ·exfalso;simp [List.isPrefixOf] at h;exact hx h.2.symm
          ·exact h
         refine Zb9 ?_
         rintro _ w3 ⟨⟨i,rfl,hi⟩,rfl⟩
         refine Za ?_
         have hi0:i<0:=by rw [hw] at hi;have:=of_decide_eq_false hi;omega
         refine Zcq ?_
         rintro _ w4 ⟨rfl,rfl⟩
         refine Zag ?_
         rw [hlo]
         refine Zev ?_
         rintro _ w4 ⟨rfl,rfl⟩
         refine Zag ?_
         rw [hdg]
         refine Zb6 ?_
         refine Zid ?_
         refine Zv ?_
         refine ZH ?_
         refine Zdv ?_
         refine Zs ?_
         refine Zaw ?_
         refine Z3 ?_
         refine ZiW ?_
         refine Zr ?_
         refine ZaG ?_
         refine ZP ?_
         refine ZgA ?_
         rintro _ w5 ⟨rfl,rfl⟩
         refine Za ?_
         generalize Lib.indexByte Qcc c=si at*
         refine Zg7 ?_
         refine Zl ?_
         refine ZaC ?_
         clear hS
         intro b1 wx1 hS
         refine Zbh ?_
         clear hS
         intro v5 O5 w5 hR5 hS
         obtain ⟨A5,c5,rfl⟩:=hR5.form
         refine Zd ?_
         refine Zgz ?_
         refine ⟨_,O5,rfl,?_,hS⟩
         rw [hW,QeQ (x::q) hw hbad,List.map_append,List.length_append]
         exact hR5
      ·have h58':c.toNat≠58:=fun h=>h58 (Ql8 (n:=58) h)
       have hp:([58,45]:Str).isPrefixOf (c::r)=false:=by simp [List.isPrefixOf,Ne.symm h58]
       cases hs0:Qcc.contains c with
       |true=>
        rw [hs0] at hsg
        have hsn:0≤Lib.indexByte Qcc c:=of_decide_eq_true hsg
        have hc65:c.toNat<65:=by
         have hh:∀n:Fin 256,Qcc.contains (UInt8.ofNat n.val)=true→n.val<65:=by decide+kernel
         have:=hh ⟨c.toNat,c.toNat_lt⟩
         simp only [UInt8.ofNat_toNat] at this
         exact this hs0
        refine Zb9 ?_
        rintro _ w3 ⟨⟨i,rfl,hi⟩,rfl⟩
        refine Za ?_
        have hi0:i<0:=by rw [hw] at hi;have:=of_decide_eq_false hi;omega
        refine Zcq ?_
        rintro _ w4 ⟨rfl,rfl⟩
        refine Zag ?_
        rw [hlo]
        refine Zev ?_
        rintro _ w4 ⟨rfl,rfl⟩
        refine Zag ?_
        rw [hdg]
        refine Zb6 ?_
        refine Zbi ?_
        refine ZfB ?_
        refine ZfH ?_
        refine ZaG ?_
        refine ZP ?_
        refine ZgA ?_
        rintro _ w5 ⟨rfl,rfl⟩
        refine Za ?_
        generalize Lib.indexByte Qcc c=si at*
        refine ZO ?_
        refine ZbE ?_
        refine Zb2 ?_
        refine ZiV ?_
        clear hS
        intro b1 wx1 hS
        refine Zbh ?_
        clear hS
        intro v5 O5 w5 hR5 hS
        rw [QdP D (c::r) (1) _ _ rfl] at hR5
        ·obtain ⟨A5,c5,rfl⟩:=hR5.form
         refine Zcr ?_
         refine ih (((c::r).drop (1))) _ _ _ _ ?_ ?_ Yb Yb Yc
         ·simp<;>omega
         ·have hwl2:Qz (c::r)=1:=by simp only [Qz,hlo,hup,hdg,hb45,hp,hs0,Bool.or_self,Bool.false_eq_true,if_false,if_true]
          refine ⟨D++(c::r).take (1),acc++[(c::r).take (1)],O5,?_,?_,?_,hS,?_,?_⟩
          ·rw [List.append_assoc,List.take_append_drop]
          ·rw [hwl2] at hwl;simp<;>omega
          ·rw [List.map_append,List.length_append];exact hR5
          ·rw [hW,QaP r hw Ya,hwl2];simp
          ·rw [hwl2] at hwl;simp<;>omega
        ·omega
       |false=>
        rw [hs0] at hsg
        have hsn:Lib.indexByte Qcc c<0:=by have:=of_decide_eq_false hsg;omega
        have hbad:Qz (c::r)=0:=by simp only [Qz,hlo,hup,hdg,hb45,hp,hs0,Bool.or_self,Bool.false_eq_true,if_false]
        by_cases h65:65≤c.toNat
        ·have h90:90<c.toNat:=by omega
         refine Zb9 ?_
         rintro _ w3 ⟨⟨i,rfl,hi⟩,rfl⟩
         refine Za ?_
         have hi0:i<0:=by rw [hw] at hi;have:=of_decide_eq_false hi;omega
         refine Zcq ?_
         rintro _ w4 ⟨rfl,rfl⟩
         refine Zag ?_
         rw [hlo]
         refine ZiY ?_
         refine Zi1 ?_
         refine ZkA ?_
         rintro _ w4 ⟨rfl,rfl⟩
         refine Zag ?_
         rw [hdg]
         refine Zb6 ?_
         refine Zbi ?_
         refine ZfB ?_
         refine ZfH ?_
         refine ZaG ?_
         refine ZP ?_
         refine ZgA ?_
         rintro _ w5 ⟨rfl,rfl⟩
         refine Za ?_
         generalize Lib.indexByte Qcc c=si at*
         refine Zg7 ?_
         refine Zl ?_
         refine ZaC ?_
         clear hS
         intro b1 wx1 hS
         refine Zbh ?_
         clear hS
         intro v5 O5 w5 hR5 hS
         obtain ⟨A5,c5,rfl⟩:=hR5.form
         refine Zd ?_
         refine Zgz ?_
         refine ⟨_,O5,rfl,?_,hS⟩
         rw [hW,QeQ r hw hbad,List.map_append,List.length_append]
         exact hR5
        ·have h64:c.toNat<65:=by omega
         refine Zb9 ?_
         rintro _ w3 ⟨⟨i,rfl,hi⟩,rfl⟩
         refine Za ?_
         have hi0:i<0:=by rw [hw] at hi;have:=of_decide_eq_false hi;omega
         refine Zcq ?_
         rintro _ w4 ⟨rfl,rfl⟩
         refine Zag ?_
         rw [hlo]
         refine Zev ?_
         rintro _ w4 ⟨rfl,rfl⟩
         refine Zag ?_
         rw [hdg]
         refine Zb6 ?_
         refine Zbi ?_
         refine ZfB ?_
         refine ZfH ?_
         refine ZaG ?_
         refine ZP ?_
         refine ZgA ?_
         rintro _ w5 ⟨rfl,rfl⟩
         refine Za ?_
         generalize Lib.indexByte Qcc c=si at*
         refine Zg7 ?_
         refine Zl ?_
         refine ZaC ?_
         clear hS
         intro b1 wx1 hS
         refine Zbh ?_
         clear hS
         intro v5 O5 w5 hR5 hS
         obtain ⟨A5,c5,rfl⟩:=hR5.form
         refine Zd ?_
         refine Zgz ?_
         refine ⟨_,O5,rfl,?_,hS⟩
         rw [hW,QeQ r hw hbad,List.map_append,List.length_append]
         exact hR5
end
end Go.Proofs.YthliapbflkfdiacGreatDoor
