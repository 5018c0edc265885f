/- PWalk, Prn, EModel, NumB, RefM, RefN: texts that follow one another, laid into one file. -/
import Derived.Test.YthliapbflkfdiacGreatDoorZ0
import Derived.Test.YthliapbflkfdiacGreatDoorG1
import Derived.Test.YthliapbflkfdiacGreatDoorG4
import Derived.Laws.Runes
import Derived.Lib.ItoaLen
namespace Go.Proofs.YthliapbflkfdiacGreatDoor
open Go.RowKit Go.Shelf
set_option linter.unusedVariables false
set_option linter.unusedSimpArgs false
set_option maxRecDepth 100000
set_option maxHeartbeats 1000000
def QaG (n:Int):Str:=if n<0∨25<n then [90,122] else [UInt8.ofNat (65+n.toNat)]
def Qah (k n:Int) (s:Str):Str:=if k=0 then QaG n else if k=2 then Lib.itoa n else if k=1∨k=3 then s else []
theorem Qps (n:Int) (h0:0≤n) (h1:n≤25):Value.string (Utf8.encode (IntKind.i32.wrap (65+n)))=sv (QaG n):=by
 obtain ⟨m,rfl⟩:∃m:Nat,n=m:=⟨n.toNat,by omega⟩
 have h:∀i:Fin 26,Utf8.encode (IntKind.i32.wrap (65+((i.val:Nat):Int)))=⟨(QaG (i.val:Nat)).toArray⟩:=by decide+kernel
 rw [h ⟨m,by omega⟩]
section
variable {M:List Nat} {w0:World} {H:List (Nat×Obj)} {F:List (World→Prop)} {b:Nat}
theorem Qpj (n:Int) (w:World) (hn: -9223372036854775808≤n∧n≤9223372036854775807):Calls Tryz.prog 203 #[.int .i64 n] w fun e w'=>e= .returned (sv (QaG n))∧w'=w:=by
 by_cases h0:n<0
 ·have e1:QaG n=[90,122]:=by simp [QaG,h0]
  rw [e1]
  refine Qe Tryz.func203 rfl Tryz.ntmps203 rfl ?_
  refine ZQ ?_
  refine Zq ?_
  refine Zan ?_
  refine Za8 ?_
  refine Zfc ?_
  exact ⟨rfl,rfl⟩
 ·by_cases h1:n>25
  ·have e1:QaG n=[90,122]:=by simp [QaG];omega
   rw [e1]
   refine Qe Tryz.func203 rfl Tryz.ntmps203 rfl ?_
   refine ZQ ?_
   refine Ze2 ?_
   refine ZF ?_
   refine Za8 ?_
   refine Zfc ?_
   exact ⟨rfl,rfl⟩
  ·refine Qe Tryz.func203 rfl Tryz.ntmps203 rfl ?_
   refine ZQ ?_
   refine Ze2 ?_
   refine ZF ?_
   refine Zag ?_
   refine Zl ?_
   refine Zz ?_
   first
    |refine Qa (Qes rfl rfl rfl) rfl ?_
    |refine Qa (rfl) rfl ?_
   first
    |refine Qa (Qes rfl rfl rfl) rfl ?_
    |refine Qa (rfl) rfl ?_
   refine Zc ?_
   refine Zfc ?_
   exact ⟨by rw [Qps n Ya Ya],rfl⟩
def Qvy (n:Int) (w:World):Prop:=Calls Tryz.prog 67 #[.int .i64 n] w fun e w'=>e= .returned (sv (Lib.itoa n))∧Below w.heap.size w w'
theorem QtN (n:Int) (w:World) (hn: -9223372036854775808≤n∧n≤9223372036854775807) (g:Qdo w):Qvy n w:=by
 refine Calls.mono (Any.strconv_Itoa Tryz.laysM171 n hn.1 hn.2 w g.tab) ?_
 rintro e w'' ⟨rfl,k,os,rfl⟩
 exact ⟨rfl,Qjo _ _ _⟩
theorem Qrj (k n:Int) (s:Str) (v:Value) (w:World) (hn: -9223372036854775808≤n∧n≤9223372036854775807) (hG:∀w',Ext M w0 w'→Qdo w') (hS:St M w0 H F w):
  Calls Tryz.prog 166 #[.agg #[.int .i64 k,.int .i64 n,sv s,v]] w fun e w'=>e= .returned (sv (Qah k n s))∧St M w0 H F w':=by
 by_cases h0:k=0
 ·subst h0
  rw [show Qah 0 n s=QaG n by simp [Qah]]
  refine ZdS ?_
  refine Zd ?_
  clear hS
  intro b1 wx1 hS
  refine Zct ?_
  refine Zb5 ?_
  refine Zj ?_
  refine Calls.mono (Qpj n _ hn) ?_
  rintro _ w1 ⟨rfl,rfl⟩
  refine ZJ ?_
  refine ZdT ?_
  exact ⟨rfl,hS.drop⟩
 by_cases h2:k=2
 ·subst h2
  rw [show Qah 2 n s=Lib.itoa n by simp [Qah]]
  refine ZdS ?_
  refine Zd ?_
  clear hS
  intro b1 wx1 hS
  refine Zc4 ?_
  refine Zb5 ?_
  refine Zj ?_
  refine Calls.mono (QtN n _ hn (hG _ hS.ext)) ?_
  rintro _ w1 ⟨rfl,hb1⟩
  refine Za ?_
  replace hS:=hS.grow hb1
  refine Zc ?_
  refine ZdT ?_
  exact ⟨rfl,hS.drop⟩
 by_cases h1:k=1
 ·subst h1
  rw [show Qah 1 n s=s by simp [Qah]]
  refine ZdS ?_
  refine Zd ?_
  clear hS
  intro b1 wx1 hS
  refine Zcv ?_
  refine Zm ?_
  refine ZaF ?_
  refine ZaJ ?_
  refine Zy ?_
  refine ZcF ?_
  refine Zc ?_
  refine ZdT ?_
  exact ⟨rfl,hS.drop⟩
 by_cases h3:k=3
 ·subst h3
  rw [show Qah 3 n s=s by simp [Qah]]
  refine ZdS ?_
  refine Zd ?_
  clear hS
  intro b1 wx1 hS
  refine Zcv ?_
  refine Zm ?_
  refine Zae ?_
  refine Zbb ?_
  refine Zb2 ?_
  refine Zy ?_
  refine ZcF ?_
  refine Zc ?_
  refine ZdT ?_
  exact ⟨rfl,hS.drop⟩
 rw [show Qah k n s=[] by simp [Qah,h0,h1,h2,h3]]
 refine ZdS ?_
 refine Zd ?_
 clear hS
 intro b1 wx1 hS
 refine Zcv ?_
 refine Zm ?_
 refine Zae ?_
 refine Zbb ?_
 refine Zb2 ?_
 refine Zbm ?_
 refine Zk ?_
 refine ZdT ?_
 exact ⟨rfl,hS.drop⟩
structure Lv where
 v:Value
 T:Ts
 i:Nat
def lvs (L:List Lv):List Value:=L.flatMap fun x=>[x.v,.int .i64 (x.i:Nat)]
theorem QmY (L L':List Lv):lvs (L++L')=lvs L++lvs L':=by simp [lvs]
theorem Qq4 (L:List Lv):(lvs L).length=L.length*2:=by
 induction L with
 |nil=>rfl
 |cons x L ih=>simp [lvs] at ih⊢;omega
abbrev Opn (L:List Lv) (V:Value) (O:List (Nat×Obj)):Prop:=Row 227 2 V L.length (lvs L) O
def QbO (k:Int) (T:Ts):Bool:=QeQ k&&decide (0<T.length)
theorem Qif (p B V:Value) (l s:Str) (k n:Int) (T:Ts) (L:List Lv) (O O2:List (Nat×Obj)) (v:Value) (w:World) (hp:Qmm b p) (hB:Buf l B O) (hV:Opn L V O2) (hn: -9223372036854775808≤n∧n≤9223372036854775807)
  (hG:∀w',Ext M w0 w'→Qdo w') (hv:Sl w (fun _=>True) v T) (hl:l.length+(Qah k n s).length+1≤1099511627776) (hL:L.length+1≤1099511627776) (hS:St M w0 ((b,prn p B V)::(O++(O2++H))) F w):
  Calls Tryz.prog 109 #[QeI b,.agg #[.int .i64 k,.int .i64 n,sv s,v]] w fun e w'=>∃B' V' O' O2',e= .returned (.tuple #[])∧Buf (l++Qah k n s++if QbO k T then [40] else []) B' O'∧Opn (if QbO k T then L++[⟨v,T,0⟩] else L) V' O2'∧
   St M w0 ((b,prn (QeI b) B' V')::(O'++(O2'++H))) F w':=by
 obtain ⟨A,c,rfl,_⟩:=hv.form
 clear hv
 obtain ⟨A2,c2,rfl⟩:=hV.form
 obtain ⟨A1,c1,rfl⟩:=hB.form
 refine Qg Tryz.func109 rfl Tryz.ntmps109 rfl ?_
 refine Zd ?_
 clear hS
 intro b1 wx1 hS
 refine Zo ?_
 refine Qw (St _ w0 [_] _) 6 ((0,true)::(1,true)::(2,true)::(3,true)::(4,false)::(5,false)::[]) Yc Yc (hS.drew.only1) ?_
 replace hS:=hS.drew
 refine Zaz ?_
 refine Zem ?_
 refine Zt ?_
 refine Zj ?_
 refine Calls.mono (Qrj k n s _ _ hn hG hS) ?_
 rintro _ w1 ⟨rfl,hS'⟩
 refine Za ?_
 replace hS:=hS'
 clear hS'
 refine Zen ?_
 refine ZcG ?_
 refine Calls.mono (Qg4 p _ _ l _ O A2 _ c2 rfl _ hp hB Ya hS.sink1) ?_
 rintro _ w2 ⟨B',O',rfl,hB',hS'⟩
 refine Za ?_
 replace hS:=hS'
 clear hS'
 replace hS:=hS.raise1
 refine Zen ?_
 refine ZeW ?_
 refine Zf ?_
 refine Za1 ?_
 refine Zj ?_
 refine Calls.mono (Qkl k n ⟨s.toArray⟩ _ _) ?_
 rintro _ w3 ⟨rfl,hb3⟩
 refine Za ?_
 replace hS:=hS.grow hb3
 refine Zg ?_
 generalize hg:QeQ k=g
 cases g with
 |false=>
  have e1:QbO k T=false:=by simp [QbO,hg]
  refine Z4 ?_
  refine Z4 ?_
  refine Zag ?_
  refine QB Tryz.func109 rfl ?_
  exact ⟨_,_,O',O2,rfl,by rw [e1,if_neg Yd,List.append_nil];exact hB',by rw [e1,if_neg Yd];exact hV,hS.drop⟩
 |true=>
  by_cases hT:0<T.length
  ·have e1:QbO k T=true:=by simp [QbO,hg,hT]
   refine Zw ?_
   refine Zck ?_
   refine Zcr ?_
   refine Zcc ?_
   refine ZaO ?_
   refine Zas ?_
   refine Zi ?_
   refine Calls.mono (Qc0 (QeI b) _ _ _ 40 O' A2 _ c2 rfl _ (.inr rfl) hB' Yh hS.sink1) ?_
   rintro _ w4 ⟨B2,O3,rfl,hB2,hS'⟩
   refine Za ?_
   replace hS:=hS'
   clear hS'
   replace hS:=hS.raise1
   refine Zb ?_
   refine Qw (St _ w0 [_,_] _) 12 ((0,true)::(1,true)::(2,true)::(3,true)::(4,true)::(5,true)::(6,true)::(7,true)::(8,false)::(9,false)::(10,true)::(11,true)::[]) Yc Yc (hS.drew.only2) ?_
   replace hS:=hS.drew
   refine ZcE ?_
   refine Zdi ?_
   refine Ze7 ?_
   refine Z1 ?_
   refine Qd rfl (fun _ hS=>QK (cells:=[_,_]) (.cons Yb .nil) rfl) rfl ?_
   refine Zt ?_
   refine Zfd ?_
   clear hS
   intro b2 wx2 hS
   refine ZfT ?_
   refine Zt ?_
   refine QaW (sz:=2) (bts:=32) hS Yb rfl rfl rfl rfl (hV) rfl rfl (.cons _ (List.perm_append_comm_assoc (_::_::O3) O2 H)) Ya Ya rfl ?_
   clear hS
   intro V2 O4 w5 hV2 hS
   replace hS:=hS.perm (List.perm_append_comm_assoc O4 (_::_::O3) H)
   obtain ⟨A3,c3,rfl⟩:=hV2.form
   refine ZfT ?_
   refine ZaK ?_
   refine ZdK ?_
   refine ZbF ?_
   clear hS
   intro wx3 hS
   refine Zb ?_
   refine QB Tryz.func109 rfl ?_
   exact ⟨_,_,O3,O4,rfl,by rw [e1,if_pos rfl];exact hB2,by rw [e1,if_pos rfl];show Row _ _ _ (L++[_]).length (lvs (L++[_])) _;rw [List.length_append,QmY];exact hV2,hS.drop⟩
  ·have e1:QbO k T=false:=by simp [QbO,hT]
   refine Zw ?_
   refine Zck ?_
   refine Zcr ?_
   refine Zcc ?_
   refine Zag ?_
   refine QB Tryz.func109 rfl ?_
   exact ⟨_,_,O',O2,rfl,by rw [e1,if_neg Yd,List.append_nil];exact hB',by rw [e1,if_neg Yd];exact hV,hS.drop⟩
theorem Qq5 (L0:List Lv):0+((((L0.length+1:Nat):Int))-1).toNat*2=(lvs L0).length:=by rw [Qq4];omega
theorem Qy {g:Nat} {ct:TypeId} {w:World} {L0:List Lv} {v i:Value} {sp:List Value} (hS:St M w0 ((g,.cells (lvs L0++v::i::sp).toArray ct)::H) F w):w.cell? ⟨g,0+((((L0.length+1:Nat):Int))-1).toNat*2,none⟩=some v:=by
 rw [Qq5,Qt (hS.at_ .head)]
 simp
theorem Qx {g:Nat} {ct:TypeId} {w:World} {L0:List Lv} {v i:Value} {sp:List Value} (hS:St M w0 ((g,.cells (lvs L0++v::i::sp).toArray ct)::H) F w):w.cell? ⟨g,0+((((L0.length+1:Nat):Int))-1).toNat*2+1,none⟩=some i:=by
 rw [Qq5,Qt (hS.at_ .head)]
 simp
theorem Put.at_ {i v u:Value} {sp:List Value}:∀(l:List Value),Put (l++v::i::sp) (l.length+1) u (l++v::u::sp)
 |[]=> .s .z
 |x::l=> .s (Put.at_ l)
theorem QtG {v i u:Value} {sp:List Value} (L0:List Lv):Put (lvs L0++v::i::sp) (0+((((L0.length+1:Nat):Int))-1).toNat*2+1) u (lvs L0++v::u::sp):=by
 rw [Qq5];exact Put.at_ _
theorem Opn.top {L0:List Lv} {v V:Value} {T:Ts} {i:Nat} {O2:List (Nat×Obj)} (h:Opn (L0++[⟨v,T,i⟩]) V O2):∃g cap sp,V= .slice (some ⟨g,0,none⟩) (L0.length+1) cap∧O2=[(g,.cells (lvs L0++v:: .int .i64 (i:Nat)::sp).toArray 227)]∧L0.length+1≤cap∧
  (∀j:Nat,Opn (L0++[⟨v,T,j⟩]) V [(g,.cells (lvs L0++v:: .int .i64 (j:Nat)::sp).toArray 227)])∧Opn L0 (.slice (some ⟨g,0,none⟩) L0.length cap) O2:=by
 have h':Row 227 2 V (L0.length+1) (lvs L0++[v,.int .i64 (i:Nat)]) O2:=by
  have:=h;unfold Opn at this;rw [List.length_append,QmY] at this;exact this
 clear h
 generalize hn:L0.length+1=nn at h'
 generalize hx:lvs L0++[v,.int .i64 (i:Nat)]=xs at h'
 cases h' with
 |nil_=>omega
 |own_ h1 h2 h3 h4=>
  rename_i g cap sp
  subst hx
  have hl:=Qq4 L0
  refine ⟨g,cap,sp,by first|rfl|rw [hn],by simp,h3,fun j=> ?_,?_⟩
  ·have:Row 227 2 (.slice (some ⟨g,0,none⟩) nn cap) nn (lvs L0++[v,.int .i64 (j:Nat)]) [(g,.cells ((lvs L0++[v,.int .i64 (j:Nat)])++sp).toArray 227)]:= .own_ Yh (by simp at h2⊢;omega) h3 h4
   show Row _ _ _ (L0++[_]).length (lvs (L0++[_])) _
   rw [List.length_append,QmY,show L0.length+[Lv.mk v T j].length=nn from hn]
   simpa [lvs] using this
  ·have:Row 227 2 (.slice (some ⟨g,0,none⟩) L0.length cap) L0.length (lvs L0) [(g,.cells (lvs L0++(v:: .int .i64 (i:Nat)::sp)).toArray 227)]:= .own_ hl (by simp at h2⊢;omega) Ya h4
   simpa using this
theorem QoR (B V v:Value) (l:Str) (T:Ts) (L0:List Lv) (O O2:List (Nat×Obj)) (A:Option Addr) (c:Nat) (w:World) (hB:Buf l B O) (hV:Opn (L0++[⟨v,T,T.length⟩]) V O2) (hv:v= .slice A T.length c) (hl:l.length+1≤1099511627776) (hL:L0.length+1≤1099511627776)
  (hS:St M w0 ((b,prn (QeI b) B V)::(O++(O2++H))) F w):
  Calls Tryz.prog 110 #[QeI b] w fun e w'=>∃B' V' O',e= .returned (.tuple #[])∧Buf (l++[41]) B' O'∧Opn L0 V' O2∧St M w0 ((b,prn (QeI b) B' V')::(O'++(O2++H))) F w':=by
 subst hv
 obtain ⟨g,cap,sp,rfl,rfl,hcap,_,hV0⟩:=hV.top
 obtain ⟨A1,c1,rfl⟩:=hB.form
 replace hS:=St.raise1 hS
 refine Qe Tryz.func110 rfl Tryz.ntmps110 rfl ?_
 refine Zah ?_
 refine Za9 ?_
 refine Zc ?_
 refine Zah ?_
 refine Zg ?_
 refine Zeo ?_
 refine Zc7 ?_
 refine Zfe ?_
 replace hS:=hS.drew
 refine ZaH ?_
 refine Zaz ?_
 refine Z1 ?_
 refine Za0 ?_
 refine ZdU ?_
 refine ZP ?_
 refine Zx ?_
 refine Zas ?_
 refine Zi ?_
 refine Calls.mono (Qc0 (QeI b) _ _ l 41 O _ _ _ rfl _ (.inr rfl) hB Ya hS.sink1) ?_
 rintro _ w4 ⟨B2,O3,rfl,hB2,hS'⟩
 refine Za ?_
 replace hS:=hS'
 clear hS'
 replace hS:=hS.raise1
 refine ZbD ?_
 refine Z6 ?_
 refine Zcs ?_
 refine Zg ?_
 refine Qa (Q1 (sz:=2) rfl rfl rfl rfl Ya Ya) rfl ?_
 refine Zdg ?_
 refine Zs ?_
 clear hS
 intro wx1 hS
 refine Zb ?_
 refine QlP Tryz.func110 rfl  ?_
 rw [show ((((L0.length+1:Nat):Int))-1).toNat=L0.length by omega] at hS
 exact ⟨_,_,O3,rfl,hB2,hV0,hS.sink1⟩
theorem Qqi (B V v:Value) (l:Str) (k n:Int) (s:Str) (D a r:Ts) (L0:List Lv) (O O2:List (Nat×Obj)) (w:World) (hB:Buf l B O) (hV:Opn (L0++[⟨v,D.app (.cons k n ⟨s.toArray⟩ a r),D.length⟩]) V O2) (hv:Sl w0 (fun _=>True) v (D.app (.cons k n ⟨s.toArray⟩ a r)))
  (hn: -9223372036854775808≤n∧n≤9223372036854775807) (hG:∀w',Ext [] w0 w'→Qdo w') (hl:l.length+(Qah k n s).length+2≤1099511627776) (hL:L0.length+2≤1099511627776) (hD:D.length+1≤1099511627776)
  (hS:St [] w0 ((b,prn (QeI b) B V)::(O++(O2++H))) F w):
  Calls Tryz.prog 110 #[QeI b] w fun e w'=>∃va B' V' O' O2',e= .returned (.tuple #[])∧Sl w0 (fun _=>True) va a∧Buf (l++(if 0<D.length then [44] else [])++Qah k n s++if QbO k a then [40] else []) B' O'∧
   Opn (if QbO k a then (L0++[⟨v,D.app (.cons k n ⟨s.toArray⟩ a r),D.length+1⟩])++[⟨va,a,0⟩] else L0++[⟨v,D.app (.cons k n ⟨s.toArray⟩ a r),D.length+1⟩]) V' O2'∧St [] w0 ((b,prn (QeI b) B' V')::(O'++(O2'++H))) F w':=by
 obtain ⟨A,c,rfl,hv⟩:=hv.form
 obtain ⟨bb,o,rfl,hseg⟩:=Sl.at_ hv (by simp [Ts.length])
 obtain ⟨_,q0,q1,q2,⟨va,q3,hva⟩,_⟩:=Qaf.1 hseg
 have hlen:(D.app (.cons k n ⟨s.toArray⟩ a r)).length=D.length+(r.length+1):=by rw [Ts.length_app];rfl
 rw [show o+D.length*4=o+(((D.length:Nat):Int)+1-1).toNat*4 by omega] at q0 q1 q2 q3
 obtain ⟨g,cap,sp,rfl,rfl,hcap,hup,_⟩:=hV.top
 obtain ⟨A1,c1,rfl⟩:=hB.form
 replace hS:=St.raise1 hS
 by_cases hD0:0<D.length
 ·rw [if_pos hD0]
  refine Qe Tryz.func110 rfl Tryz.ntmps110 rfl ?_
  refine Zah ?_
  refine Za9 ?_
  refine Zc ?_
  refine Zah ?_
  refine Zg ?_
  refine Zeo ?_
  refine Zc7 ?_
  refine Zfe ?_
  replace hS:=hS.drew
  refine ZaH ?_
  refine Zaz ?_
  refine Z1 ?_
  refine Za0 ?_
  refine ZdU ?_
  refine ZP ?_
  refine ZW ?_
  refine Z5 ?_
  refine Zcy ?_
  refine ZF ?_
  refine Za6 ?_
  refine Za3 ?_
  refine Zi ?_
  refine Calls.mono (Qc0 (QeI b) _ _ l 44 O _ _ _ rfl _ (.inr rfl) hB Ya hS.sink1) ?_
  rintro _ w4 ⟨B2,O3,rfl,hB2,hS'⟩
  refine Za ?_
  replace hS:=hS'
  clear hS'
  replace hS:=hS.raise1
  obtain ⟨A2,c2,rfl⟩:=hB2.form
  refine Zb ?_
  refine Z5 ?_
  refine Zcy ?_
  refine Zz ?_
  refine ZbC ?_
  refine Q8 hS rfl Yb rfl rfl .head (QtG L0) .head ?_
  clear hS
  intro w5 hS
  refine Zb ?_
  refine ZfU ?_
  replace hS:=hS.drew
  refine ZO ?_
  refine Zaz ?_
  refine Z1 ?_
  refine ZaH ?_
  refine ZfV ?_
  refine Zep ?_
  refine Zem ?_
  refine ZP ?_
  refine Zi ?_
  refine Calls.mono (Qif (QeI b) _ _ _ s k n a _ O3 _ va _ (.inr rfl) hB2 (hup (D.length+1)) hn hG (hva.below hS.ext.below) Yh Yh hS.sink1) ?_
  rintro _ w6 ⟨B3,V3,O4,O5,rfl,hB3,hV3,hS'⟩
  refine Za ?_
  replace hS:=hS'
  clear hS'
  refine Zb ?_
  refine QB Tryz.func110 rfl ?_
  refine ⟨va,B3,V3,O4,O5,rfl,hva,?_,hV3,hS⟩
  exact hB3
 ·rw [if_neg hD0,List.append_nil]
  refine Qe Tryz.func110 rfl Tryz.ntmps110 rfl ?_
  refine Zah ?_
  refine Za9 ?_
  refine Zc ?_
  refine Zah ?_
  refine Zg ?_
  refine Zeo ?_
  refine Zc7 ?_
  refine Zfe ?_
  replace hS:=hS.drew
  refine ZaH ?_
  refine Zaz ?_
  refine Z1 ?_
  refine Za0 ?_
  refine ZdU ?_
  refine ZP ?_
  refine ZW ?_
  refine Z5 ?_
  refine Zcy ?_
  refine ZF ?_
  refine Zr ?_
  refine Z5 ?_
  refine Zcy ?_
  refine Zz ?_
  refine ZbC ?_
  refine Q8 hS rfl Yb rfl rfl .head (QtG L0) .head ?_
  clear hS
  intro w5 hS
  refine Zb ?_
  refine ZfU ?_
  replace hS:=hS.drew
  refine ZO ?_
  refine Zaz ?_
  refine Z1 ?_
  refine ZaH ?_
  refine ZfV ?_
  refine Zep ?_
  refine Zem ?_
  refine ZP ?_
  refine Zi ?_
  refine Calls.mono (Qif (QeI b) _ _ _ s k n a _ O _ va _ (.inr rfl) hB (hup (D.length+1)) hn hG (hva.below hS.ext.below) Yh Yh hS.sink1) ?_
  rintro _ w6 ⟨B3,V3,O4,O5,rfl,hB3,hV3,hS'⟩
  refine Za ?_
  replace hS:=hS'
  clear hS'
  refine Zb ?_
  refine QB Tryz.func110 rfl ?_
  refine ⟨va,B3,V3,O4,O5,rfl,hva,?_,hV3,hS⟩
  exact hB3
end
def QcP (c:Bool):Ts→Str
 | .nil=>[]
 | .cons k n s a r=>(if c then [44] else [])++Qah k n s.data.toList++(if QbO k a then 40::(QcP false a++[41]) else [])++QcP true r
def rng:Ts→Prop
 | .nil=>True
 | .cons k n s a r=>(-9223372036854775808≤n∧n≤9223372036854775807)∧rng a∧rng r
abbrev Lw:=Value×Ts×Ts
def lev:List Lw→List Lv
 |[]=>[]
 |(v,D,R)::K=>lev K++[⟨v,D.app R,D.length⟩]
def Qb1:List Lw→Str
 |[]=>[]
 |(v,D,R)::K=>QcP (decide (0<D.length)) R++41::Qb1 K
def work:List Lw→Nat
 |[]=>0
 |(v,D,R)::K=>1+2*R.nodes+work K
theorem Qrf:∀K:List Lw,(lev K).length≤(Qb1 K).length
 |[]=>Nat.le_refl _
 |(v,D,R)::K=>by have:=Qrf K;simp [lev,Qb1];omega
theorem Qtr (D:Ts) (k n:Int) (s:ByteArray) (a:Ts):(D.app (.cons k n s a .nil)).length=D.length+1:=by rw [Ts.length_app];rfl
def Qvv (w0:World) (N:Nat) (x:Lw):Prop:=Sl w0 (fun _=>True) x.1 (x.2.1.app x.2.2)∧(x.2.1.app x.2.2).nodes≤N∧rng x.2.2
theorem QqC (k n:Int) (s:Str) (a:Ts) (v:Value) (w0:World) (hG:∀w',Ext [] w0 w'→Qdo w') (hv:Sl w0 (fun _=>True) v a) (hn: -9223372036854775808≤n∧n≤9223372036854775807) (hr:rng a) (hN:a.nodes≤1048576)
  (hlen:(QcP false (.cons k n ⟨s.toArray⟩ a .nil)).length≤1073741824):
  Calls Tryz.prog 68 #[.agg #[.int .i64 k,.int .i64 n,sv s,v]] w0 fun e w'=>e= .returned (sv (QcP false (.cons k n ⟨s.toArray⟩ a .nil)))∧Below w0.heap.size w0 w':=by
 have hS:=St.start w0
 have e0:QcP false (.cons k n ⟨s.toArray⟩ a .nil)=Qah k n s++if QbO k a then 40::(QcP false a++[41]) else []:=by simp [QcP]
 rw [e0] at hlen⊢
 have hlab:(Qah k n s).length≤1073741824:=by simp at hlen;omega
 obtain ⟨A,c,rfl,hv⟩:=hv.form
 refine Qe Tryz.func68 rfl Tryz.ntmps68 rfl ?_
 refine Zd ?_
 clear hS
 intro b1 wx1 hS
 refine ZbJ ?_
 refine Qa (QK (cells:=[_,_,_]) .nil rfl) rfl ?_
 refine Zcj ?_
 clear hS
 intro b2 wx2 hS
 refine ZY ?_
 refine Za1 ?_
 refine Zi ?_
 refine Calls.mono (Qif (.pointer none) _ _ [] s k n a [] [] [] _ _ (.inl rfl) .nil_ .nil_ hn hG (hv.below hS.ext.below) Yh Yd hS) ?_
 rintro _ w1 ⟨B1,V1,O1,O2,rfl,hB1,hV1,hS'⟩
 refine Za ?_
 replace hS:=hS'
 clear hS'
 generalize htot:Qah k n s++(if QbO k a then 40::(QcP false a++[41]) else [])=tot at hlen⊢
 obtain ⟨H,hS⟩:∃H,St [] w0 ((b2,prn (QeI b2) B1 V1)::(O1++(O2++H))) [] w1:=⟨_,hS⟩
 refine Zo ?_
 refine Zbs ?_
 refine Qju  (9::10::11::12::13::14::15::16::[]) (fun (x:Str×List Lw) w'=>∃B V O O2,Buf x.1 B O∧Opn (lev x.2) V O2∧St [] w0 ((b2,prn (QeI b2) B V)::(O++(O2++H))) [] w'∧x.1++Qb1 x.2=tot∧∀y∈x.2,Qvv w0 a.nodes y) (fun x=>work x.2) ((Qah k n s++(if QbO k a then [40] else []),if QbO k a then [(.slice A a.length c,.nil,a)] else [])) ?_ ?_
 ·refine ⟨B1,V1,O1,O2,hB1,?_,hS,?_,?_⟩
  ·generalize QbO k a=g at hV1⊢
   cases g<;>exact hV1
  ·rw [←htot]
   generalize QbO k a=g
   cases g<;>simp [Qb1,Ts.length]
  ·generalize QbO k a=g
   cases g with
   |false=>simp
   |true=>
    intro y hy
    obtain rfl:y=_:=by simpa using hy
    exact ⟨hv,Nat.le_refl _,hr⟩
 clear hS hB1 hV1
 rintro ⟨l,K⟩ w2 jv ⟨B,V,O,O2,hB,hV,hS,htl,hK⟩ ih
 simp only at hB hV hS htl hK ih
 obtain ⟨A1,c1,rfl⟩:=hB.form
 cases K with
 |nil=>
  obtain ⟨A2,c2,hVe⟩:=Row.form hV
  obtain rfl:V= .slice A2 0 c2:=hVe
  refine Zm ?_
  refine Zah ?_
  refine ZaC ?_
  refine Zbj ?_
  refine Zas ?_
  have hl:l.length≤1099511627776:=by rw [←htl] at hlen;simp at hlen;omega
  refine Zj ?_
  refine Calls.mono (QoQ (QeI b2) _ _ l O A2 0 c2 rfl _ hB hl hS) ?_
  rintro _ w3 ⟨rfl,hS'⟩
  refine Za ?_
  replace hS:=hS'
  clear hS'
  refine Zc ?_
  refine Qc Tryz.func68 rfl Yb ?_
  exact ⟨by rw [←htl];simp [Qb1],hS.ext.below⟩
 |cons x K=>
  obtain ⟨u,D,R⟩:=x
  have hV':Opn (lev K++[⟨u,D.app R,D.length⟩]) V O2:=hV
  obtain ⟨hu,hN1,hR⟩:=hK (u,D,R) (.head _)
  simp only at hu hN1 hR
  have hlk:=Qrf K
  have hkl:l.length+((QcP (decide (0<D.length)) R).length+(Qb1 K).length+1)≤1073741824:=by rw [←htl] at hlen;simp [Qb1] at hlen;omega
  have hDn:=D.length_le
  rw [Ts.nodes_app] at hN1
  obtain ⟨g,cap,sp,rfl,_,hcap,_⟩:=hV'.top
  cases R with
  |nil=>
   rw [Ts.app_nil] at hV' hu
   obtain ⟨A3,c3,rfl,_⟩:=hu.form
   refine Zm ?_
   refine Zah ?_
   refine ZaC ?_
   refine Zx ?_
   refine Zb7 ?_
   refine ZM ?_
   refine Zj ?_
   refine Calls.mono (QoR _ _ _ l D (lev K) O O2 A3 c3 _ hB hV' rfl Ya Ya hS) ?_
   rintro _ w3 ⟨B',V',O',rfl,hB',hV2,hS'⟩
   refine Za ?_
   replace hS:=hS'
   clear hS'
   refine Zb ?_
   refine Zap ?_
   refine ih ((l++[41],K)) _ _ ?_ ?_ Yc
   ·simp only [work];omega
   ·exact ⟨B',V',O',O2,hB',hV2,hS,by rw [←htl];simp [Qb1,QcP],fun y hy=>hK y (.tail _ hy)⟩
  |cons k1 n1 s1 a1 r1=>
   obtain ⟨s1,rfl⟩:=QtC s1
   refine Zm ?_
   refine Zah ?_
   refine ZaC ?_
   refine Zx ?_
   refine Zb7 ?_
   refine ZM ?_
   have hlab1:(Qah k1 n1 s1).length≤(QcP (decide (0<D.length)) (.cons k1 n1 ⟨s1.toArray⟩ a1 r1)).length:=by simp [QcP];omega
   refine Zj ?_
   refine Calls.mono (Qqi _ _ _ l k1 n1 s1 D a1 r1 (lev K) O O2 _ hB hV' hu hR.1 hG Ya Ya Ya hS) ?_
   rintro _ w3 ⟨va,B',V',O',O3,rfl,hva,hB',hV2,hS'⟩
   refine Za ?_
   replace hS:=hS'
   clear hS'
   refine Zb ?_
   refine Zap ?_
   have hD1:(D.app (.cons k1 n1 ⟨s1.toArray⟩ a1 .nil)).app r1=D.app (.cons k1 n1 ⟨s1.toArray⟩ a1 r1):=by rw [Ts.app_assoc];rfl
   have hD2:=Qtr D k1 n1 ⟨s1.toArray⟩ a1
   generalize D.app (.cons k1 n1 ⟨s1.toArray⟩ a1 .nil)=D1 at hD1 hD2
   have hu1:Qvv w0 a.nodes (u,D1,r1):=⟨by rw [hD1];exact hu,by show (D1.app r1).nodes≤_;rw [hD1,Ts.nodes_app];exact hN1,hR.2.2⟩
   have hnod:(Ts.cons k1 n1 ⟨s1.toArray⟩ a1 r1).nodes=a1.nodes+r1.nodes+1:=rfl
   have hL1:lev ((u,D1,r1)::K)=lev K++[⟨u,D.app (.cons k1 n1 ⟨s1.toArray⟩ a1 r1),D.length+1⟩]:=by simp only [lev];rw [hD1,hD2]
   have hpos:decide (0<D1.length)=true:=by simp;omega
   generalize hg:QbO k1 a1=g1 at hV2 hB'
   have htl':l++(QcP (decide (0<D.length)) (.cons k1 n1 ⟨s1.toArray⟩ a1 r1)++41::Qb1 K)=tot:=htl
   cases g1 with
   |true=>
    refine ih ((l++(if 0<D.length then [44] else [])++Qah k1 n1 s1++[40],(va,.nil,a1)::(u,D1,r1)::K)) _ _ ?_ ?_ Yc
    ·simp only [work,hnod];omega
    ·refine ⟨B',V',O',O3,hB',?_,hS,?_,?_⟩
     ·show Opn (lev ((u,D1,r1)::K)++[_]) V' O3
      rw [hL1];exact hV2
     ·rw [←htl'];simp only [Qb1,hpos,QcP,hg];simp [Ts.length]
     ·intro y hy
      rcases List.mem_cons.1 hy with rfl|hy
      ·exact ⟨hva,by show a1.nodes≤_;omega,hR.2.1⟩
      rcases List.mem_cons.1 hy with rfl|hy
      ·exact hu1
      ·exact hK y (.tail _ hy)
   |false=>
    refine ih ((l++(if 0<D.length then [44] else [])++Qah k1 n1 s1,(u,D1,r1)::K)) _ _ ?_ ?_ Yc
    ·simp only [work,hnod];omega
    ·refine ⟨B',V',O',O3,?_,?_,hS,?_,?_⟩
     ·simpa only [Bool.false_eq_true,if_false,List.append_nil] using hB'
     ·show Opn (lev ((u,D1,r1)::K)) V' O3
      rw [hL1];exact hV2
     ·rw [←htl'];simp only [Qb1,hpos,QcP,hg];simp [Ts.length]
     ·intro y hy
      rcases List.mem_cons.1 hy with rfl|hy
      ·exact hu1
      ·exact hK y (.tail _ hy)
def QaS:Nat→Ts→Str
 |_,.nil=>[]
 |i,.cons k n s a r=>(([32]++Lib.itoa (i:Nat))++[61])++QcP false (.cons k n s a .nil)++QaS (i+1) r
def Qg6 (k:Int):Str:=
 if k=1 then [121,101,115] else if k=2 then [100,111,110,101] else if k=3 then [102,117,101,108] else if k=4 then [108,97,114,103,101] else if k=5 then [102,97,117,108,116] else if k=6 then [101,110,111,117,103,104] else []
def QaI (k:Int) (T:Ts):Str:=if k=1 then [121,101,115]++QaS 0 T else Qg6 k
theorem QgF:∀(i:Nat) (D R:Ts),QaS i (D.app R)=QaS i D++QaS (i+D.length) R
 |i,.nil,R=>by simp [Ts.app,QaS,Ts.length]
 |i,.cons k n s a r,R=>by
  have:=QgF (i+1) r R
  simp only [Ts.app,QaS,this,Ts.length]
  rw [show i+1+r.length=i+(r.length+1) by omega]
  simp
theorem Qst (i:Nat) (k n:Int) (s:ByteArray) (a:Ts):QaS i (.cons k n s a .nil)=(([32]++Lib.itoa (i:Nat))++[61])++QcP false (.cons k n s a .nil):=by simp [QaS]
theorem Qlj:∀(l m:Str) (acc a:Nat),Lib.parseUint10 acc l= .ok a→Lib.parseUint10 acc (l++m)=Lib.parseUint10 a m
 |[],m,acc,a,h=>by
  simp only [Lib.parseUint10,Lib.NumEnd.ok.injEq] at h
  subst h;rfl
 | c :: r, m, acc, a, h => by
  simp only [List.cons_append,Lib.parseUint10] at h⊢
  split at h
  ·rename_i hc
   rw [if_pos hc]
   split at h
   ·cases h
   ·rename_i h1
    rw [if_neg h1]
    split at h
    ·cases h
    ·rename_i h2
     rw [if_neg h2]
     exact Qlj r m _ a h
  ·cases h
theorem Qh9 (d:Nat) (h:d<10):(UInt8.ofNat (48+d)).toNat=48+d:=by
 rw [UInt8.toNat_ofNat'];omega
theorem Qgq (u:Nat) (h:u<9223372036854775808):Lib.parseUint10 0 (Lib.decDigits u)= .ok u:=by
 induction u using Nat.strongRecOn with
 |ind u ih=>
  by_cases h10:u<10
  ·rw [Lib.decDigits_one h10]
   have:=Qh9 u h10
   simp only [Lib.parseUint10,this]
   rw [if_pos Ya,if_neg Ya,if_neg Ya]
   simp
  ·rw [Lib.decDigits,dif_neg h10,Qlj _ _ _ _ (ih (u/10) Ya Ya)]
   have:=Qh9 (u%10) Ya
   simp only [Lib.parseUint10,this]
   rw [if_pos Ya,if_neg Ya,if_neg Ya]
   congr 1
   omega
theorem QdW (u:Nat):Lib.decDigits u≠[]:=by
 rw [Lib.decDigits]
 split<;>simp
theorem Qjz (u:Nat):∀c∈Lib.decDigits u,Qbw c=true:=by
 have hd:∀d,d<10→Qbw (UInt8.ofNat (48+d))=true:=fun d h=>by
  have:=Qh9 d h
  simp only [Qbw,this]
  simp;omega
 induction u using Nat.strongRecOn with
 |ind u ih=>
  by_cases h10:u<10
  ·rw [Lib.decDigits_one h10]
   intro c hc
   rw [List.mem_singleton.1 hc]
   exact hd u h10
  ·rw [Lib.decDigits,dif_neg h10]
   intro c hc
   rcases List.mem_append.1 hc with hc|hc
   ·exact ih (u/10) Ya c hc
   ·rw [List.mem_singleton.1 hc]
    exact hd _ Ya
theorem QfX:∀(k u:Nat),u<10^(k+1)→Lib.nDigits u≤k+1
 |0,u,h=>by rw [Lib.nDigits_small (by simpa using h)];omega
 |k+1,u,h=>by
  by_cases h10:u<10
  ·rw [Lib.nDigits_small h10];omega
  ·rw [Lib.nDigits_big h10]
   have:=QfX k (u/10) (by rw [Nat.pow_succ] at h;omega)
   omega
theorem QuO (c:UInt8) (h:Qbw c=true):c.toNat≠43∧c.toNat≠45:=by
 simp [Qbw] at h;omega
theorem QrS (n:Int) (h0: -1099511627776≤n) (h1:n≤1099511627776):Lib.atoiAll (Lib.itoa n)= .ok n:=by
 unfold Lib.itoa
 split
 ·have hp:=Qgq n.natAbs Ya
  have hne:=QdW n.natAbs
  simp only [Lib.atoiAll,Lib.parseMag]
  have e1:(UInt8.toNat 45=43∨UInt8.toNat 45=45)=True:=eq_true Yg
  have e2:(UInt8.toNat 45=45)=True:=eq_true Yg
  simp only [e2,or_true,if_true]
  rw [if_neg hne,hp]
  simp only [not_true_eq_false,false_and,if_false,true_and]
  rw [if_neg Ya]
  congr 1;omega
 ·have hp:=Qgq n.toNat Ya
  cases hl:Lib.decDigits n.toNat with
  |nil=>exact absurd hl (QdW _)
  |cons c r=>
   have hc:=QuO c (Qjz n.toNat c (by rw [hl];exact .head _))
   rw [hl] at hp
   simp only [Lib.atoiAll,Lib.parseMag]
   simp only [hc.1,hc.2,or_self,if_false]
   rw [if_neg Yd,hp]
   simp only [not_false_eq_true,true_and,false_and,if_false]
   rw [if_neg Ya]
   congr 1;omega
theorem QqR (n:Int) (h0: -1099511627776≤n) (h1:n≤1099511627776):Q0 (Lib.itoa n)=some n:=by
 unfold Q0
 rw [QrS n h0 h1]
 simp only
 rw [if_pos ⟨trivial,h0,h1⟩]
def Qav:Str→Nat
 |[]=>0
 |c::r=>
  if QdL c||upB c then 1+Qbl QdL r
  else if Qbw c||(c==45) then 1+Qbl Qbw r
  else if ([58,45]:Str).isPrefixOf (c::r) then 2
  else if Qei.contains c then 1
  else 0
def Qb4:Nat→Str→List Str
 |0,_=>[]
 |f+1,[]=>[]
 |f+1,c::r=>
  if QiK c then Qb4 f r
  else if Qav (c::r)=0 then [[]]
  else (c::r).take (Qav (c::r))::Qb4 f ((c::r).drop (Qav (c::r)))
def Qcx (l:Str):List Str:=Qb4 l.length l
theorem QcK:∀(n:Nat) (l:Str),l.length≤n→Qb4 n l=Qcx l:=by
 intro n
 induction n using Nat.strongRecOn with
 | _ n ih =>
  intro l hn
  cases l with
  |nil=>cases n<;>rfl
  |cons c r=>
   obtain ⟨m,rfl⟩:∃m,n=m+1:=⟨n-1,by simp at hn;omega⟩
   unfold Qcx
   simp only [List.length_cons] at hn⊢
   simp only [Qb4]
   split
   ·rw [ih m Ya r Ya];rfl
   split
   ·rfl
   ·rename_i hw
    have hl:((c::r).drop (Qav (c::r))).length≤r.length:=by
     rw [List.length_drop];simp;omega
    rw [ih m Ya _ Ya]
    by_cases e:m=r.length
    ·rw [e] at ih;rw [←ih r.length Ya _ hl]
    ·rw [←ih r.length Ya _ hl]
theorem Qmt {c:UInt8} (r:Str) (h:QiK c=true):Qcx (c::r)=Qcx r:=by
 rw [←QcK (r.length+1) (c::r) Yd,Qb4,if_pos h,QcK _ r (Nat.le_refl _)]
theorem QpV {c:UInt8} (r:Str) (h:QiK c=false) (hw:Qav (c::r)=0):Qcx (c::r)=[[]]:=by
 rw [←QcK (r.length+1) (c::r) Yd,Qb4,if_neg (by simp [h]),if_pos hw]
theorem QiI {c:UInt8} (r:Str) (h:QiK c=false) (hw:Qav (c::r)≠0):Qcx (c::r)=(c::r).take (Qav (c::r))::Qcx ((c::r).drop (Qav (c::r))):=by
 rw [←QcK (r.length+1) (c::r) Yd,Qb4,if_neg (by simp [h]),if_neg hw,QcK _ _ (by rw [List.length_drop];simp;omega)]
structure PS where
 l:List Str
 vars:List Str
 bad:Bool
def PS.has (p:PS) (t:Str):Bool:=p.l.head?==some t
def PS.pop (p:PS):PS:={ p with l:=p.l.tail }
def PS.spoil (p:PS):PS:={ p with bad:=true }
def PS.close (p:PS) (t:Str):PS:=if p.bad then p else if p.has t then p.pop else p.spoil
def PS.var (p:PS) (x:Str):Nat×PS:=if x∈p.vars then (Qfk p.vars x,p) else (p.vars.length,{ p with vars:=p.vars++[x] })
def Qmp (d:Str):Nat:=d.foldl (fun n c=>10*n+(c-48).toNat) 0
def QrQ (s:Str):Str:=match s with|45::r=>r|_=>s
def QcL (s:Str):Option Int:=
 let d:=QrQ s
 if d=[]∨13<d.length∨(Qem d=48∧s≠[48]) then none
 else if 1099511627776<Qmp d then none
 else some (if d=s then (Qmp d:Int) else -(Qmp d:Int))
def QO (f:PS→Nd×PS):Nat→PS→List Nd×PS
 |0,p=>([],p)
 |fuel+1,p=>if p.bad=false∧p.has [44]=true then
   let a:=f p.pop
   let q:=QO f fuel a.2
   (a.1::q.1,q.2)
  else ([],p)
def Qag (f:PS→Nd×PS) (t:Str) (p:PS):List Nd×PS:=
 let a:=f p
 let q:=QO f a.2.l.length a.2
 (a.1::q.1,q.2.close t)
def QN : Nat → PS → Nd × PS
 |0,p=>(Nd.zero,p.spoil)
 |d+1,p=>match p.l with
  |[]=>(Nd.zero,p.spoil)
  |[]::_=>(Nd.zero,p.spoil)
  |(c::r)::_=>
   if c::r=[33] then (⟨1,0,[33],.nil⟩,p.pop)
   else if upB c then (⟨0,(p.pop.var (c::r)).1,[],.nil⟩,(p.pop.var (c::r)).2)
   else if (c==45)||Qbw c then (⟨2,(QcL (c::r)).getD 0,[],.nil⟩,{ p.pop with bad:=p.bad||(QcL (c::r)).isNone })
   else if QdL c=false then (Nd.zero,p.spoil)
   else if p.pop.has [40] then
    (⟨3,0,c::r,Qby (Qag (QN d) [41] p.pop.pop).1⟩,(Qag (QN d) [41] p.pop.pop).2)
   else (⟨1,0,c::r,.nil⟩,p.pop)
def QaX (p:PS):List Nd×PS:=Qag (QN 24) [46] p
def QaP (p:PS):List Nd×PS:=if p.bad=false∧p.has [58,45]=true then QaX p.pop else ([],p.close [46])
theorem Qi7 (p:PS):p.pop.l.length≤p.l.length:=by simp [PS.pop]
theorem Qkp (p:PS) (t:Str):(p.close t).l.length≤p.l.length:=by
 unfold PS.close
 split
 ·exact Nat.le_refl _
 split
 ·exact Qi7 p
 ·exact Nat.le_refl _
theorem QhX {p:PS} {t:Str} (h:p.has t=true):p.pop.l.length<p.l.length∧p.l=t::p.pop.l:=by
 unfold PS.has at h
 cases hl:p.l with
 |nil=>rw [hl] at h;simp at h
 |cons x r=>rw [hl] at h;simp at h;simp [PS.pop,hl,h]
def Qns (f:PS→Nd×PS):Prop:=∀p,(f p).2.l.length≤p.l.length
theorem Qi4 {f:PS→Nd×PS} (hf:Qns f):∀(n:Nat) (p:PS),(QO f n p).2.l.length≤p.l.length
 |0,p=>Nat.le_refl _
 |n+1,p=>by
  unfold QO
  split
  ·have h1:=Qi4 hf n (f p.pop).2
   have h2:=hf p.pop
   have h3:=Qi7 p
   simp only
   omega
  ·exact Nat.le_refl _
theorem QeF {f:PS→Nd×PS} (hf:Qns f) (t:Str) (p:PS):(Qag f t p).2.l.length≤p.l.length:=by
 have h1:=Qi4 hf (f p).2.l.length (f p).2
 have h2:=hf p
 have h3:=Qkp (QO f (f p).2.l.length (f p).2).2 t
 simp only [Qag]
 omega
theorem Qqy (p:PS) (x:Str):(p.var x).2.l=p.l∧(p.var x).2.bad=p.bad:=by
 unfold PS.var
 split<;>exact ⟨rfl,rfl⟩
theorem Qcg:∀d,Qns (QN d)
 |0,p=>Nat.le_refl _
 |d+1,p=>by
  unfold QN
  have h1:=Qi7 p
  split
  ·exact Nat.le_refl _
  ·exact Nat.le_refl _
  ·rename_i c r q hl
   split
   ·exact h1
   split
   ·rw [(Qqy _ _).1];exact h1
   split
   ·exact h1
   split
   ·exact Nat.le_refl _
   split
   ·have h2:=QeF (Qcg d) [41] p.pop.pop
    have h3:=Qi7 p.pop
    simp only;omega
   ·exact h1
theorem Qk9 {f:PS→Nd×PS} (hf:Qns f):∀(n:Nat) (p:PS),p.l.length≤n→QO f n p=QO f p.l.length p:=by
 intro n
 induction n using Nat.strongRecOn with
 |_ n ih=>
  intro p hn
  by_cases ht:p.bad=false∧p.has [44]=true
  ·have h1:=(QhX ht.2).1
   have h2:=hf p.pop
   obtain ⟨m,rfl⟩:∃m,n=m+1:=⟨n-1,by omega⟩
   obtain ⟨l,hl⟩:∃l,p.l.length=l+1:=⟨p.l.length-1,by omega⟩
   rw [hl]
   simp only [QO,if_pos ht]
   rw [ih m Ya (f p.pop).2 Ya,ih l Ya (f p.pop).2 Ya]
  ·have h0:∀k,QO f k p=([],p):=fun k=>by cases k with|zero=>rfl|succ k=>simp only [QO,if_neg ht]
   rw [h0,h0]
theorem Qk8 {f:PS→Nd×PS} (hf:Qns f) {p:PS} (ht:p.bad=false∧p.has [44]=true):QO f p.l.length p=((f p.pop).1::(QO f (f p.pop).2.l.length (f p.pop).2).1,(QO f (f p.pop).2.l.length (f p.pop).2).2):=by
 have h1:=(QhX ht.2).1
 have h2:=hf p.pop
 obtain ⟨l,hl⟩:∃l,p.l.length=l+1:=⟨p.l.length-1,by omega⟩
 rw [hl]
 simp only [QO,if_pos ht]
 rw [Qk9 hf l (f p.pop).2 Ya]
theorem Qgn {f:PS→Nd×PS} {p:PS} (ht:¬(p.bad=false∧p.has [44]=true)):QO f p.l.length p=([],p):=by
 cases p.l.length with
 |zero=>rfl
 |succ k=>simp only [QO,if_neg ht]
theorem QlZ (d:Str) (c:UInt8):Qmp (d++[c])=10*Qmp d+(c-48).toNat:=by simp [Qmp,List.foldl_append]
theorem QuN {c:UInt8} (h:Qbw c=true):(c-48).toNat<10∧UInt8.ofNat (48+(c-48).toNat)=c:=by
 have hh:∀n:Fin 256,Qbw (UInt8.ofNat n.val)=true→(UInt8.ofNat n.val-48).toNat<10∧UInt8.ofNat (48+(UInt8.ofNat n.val-48).toNat)=UInt8.ofNat n.val:=by decide+kernel
 have:=hh ⟨c.toNat,c.toNat_lt⟩
 simp only [UInt8.ofNat_toNat] at this
 exact this h
theorem QmA (d:Nat) (h:d<10):(UInt8.ofNat (48+d)-48).toNat=d:=by
 have hh:∀n:Fin 10,(UInt8.ofNat (48+n.val)-48).toNat=n.val:=by decide+kernel
 exact hh ⟨d,h⟩
theorem Qh5 (u:Nat):Qmp (Lib.decDigits u)=u:=by
 induction u using Nat.strongRecOn with
 |ind u ih=>
  by_cases h10:u<10
  ·rw [Lib.decDigits_one h10]
   have:=QmA u h10
   simp only [Qmp,List.foldl_cons,List.foldl_nil]
   omega
  ·rw [Lib.decDigits,dif_neg h10,QlZ,ih (u/10) Ya,QmA _ Ya]
   omega
theorem QoS:∀(l:Str),l=[]∨∃e c,l=e++[c]:=fun l=>by
 rcases List.eq_nil_or_concat l with h|⟨e,c,h⟩
 ·exact .inl h
 ·exact .inr ⟨e,c,by simpa using h⟩
theorem Qh8:∀(n:Nat) (d:Str),d.length=n→(∀c∈d,Qbw c=true)→d≠[]→Qem d≠48→Lib.decDigits (Qmp d)=d∧0<Qmp d:=by
 intro n
 induction n with
 |zero=>intro d hl _ hne;exact absurd (List.eq_nil_of_length_eq_zero hl) hne
 |succ n ih=>
  intro d hl hd hne h48
  rcases QoS d with rfl|⟨e,c,rfl⟩
  ·exact absurd rfl hne
  have hc:=QuN (hd c Yd)
  rw [QlZ]
  cases e with
  |nil=>
   have h0:(c-48).toNat≠0:=fun h0=>by
    have:=hc.2
    rw [h0] at this
    exact h48 (by show c=48;rw [←this];rfl)
   have e0:Qmp []=0:=rfl
   rw [e0,Nat.mul_zero,Nat.zero_add,Lib.decDigits_one hc.1,hc.2]
   exact ⟨rfl,by omega⟩
  |cons x e=>
   have h1:=ih (x::e) (by simp at hl⊢;omega) (fun y hy=>hd y (List.mem_append_left _ hy)) Yd h48
   have h2:¬10*Qmp (x::e)+(c-48).toNat<10:=by omega
   have h3:(10*Qmp (x::e)+(c-48).toNat)/10=Qmp (x::e):=by omega
   have h4:(10*Qmp (x::e)+(c-48).toNat)%10=(c-48).toNat:=by omega
   rw [Lib.decDigits,dif_neg h2,h3,h4,hc.2,h1.1]
   exact ⟨rfl,by omega⟩
theorem QrA:Qmp [48]=0:=rfl
theorem Qh6:Lib.decDigits 0=[48]:=by rw [Lib.decDigits_one Ya];rfl
theorem Qh7 (u:Nat) (h:0<u):Qem (Lib.decDigits u)≠48:=by
 induction u using Nat.strongRecOn with
 |ind u ih=>
  by_cases h10:u<10
  ·rw [Lib.decDigits_one h10]
   intro e
   have:=QmA u h10
   rw [show UInt8.ofNat (48+u)=48 from e] at this
   have h0:((48:UInt8)-48).toNat=0:=by decide
   omega
  ·rw [Lib.decDigits,dif_neg h10]
   have h1:=ih (u/10) Ya Ya
   have h2:=QdW (u/10)
   cases hl:Lib.decDigits (u/10) with
   |nil=>exact absurd hl h2
   |cons x r=>rw [hl] at h1;exact h1
theorem Qow {c:UInt8} {r:Str} (h:Qbw c=true):QrQ (c::r)=c::r:=by
 unfold QrQ
 split
 ·rename_i e;cases e;exact absurd h Yg
 ·rfl
def Qsd (t:Str):Prop:=(t≠[]∧∀c∈t,Qbw c=true)∨∃r,t=45::r∧r≠[]∧∀c∈r,Qbw c=true
theorem QoO {t:Str} {v:Int} (ht:Qsd t) (h:QcL t=some v):t=Lib.itoa v∧-1099511627776≤v∧v≤1099511627776:=by
 unfold QcL at h
 simp only at h
 split at h
 ·cases h
 rename_i h1
 split at h
 ·cases h
 rename_i h2
 simp only [not_or,not_and] at h1
 obtain ⟨h11,h12,h13⟩:=h1
 rcases ht with ⟨hne,hd⟩|⟨r,rfl,hne,hd⟩
 ·cases t with
  |nil=>exact absurd rfl hne
  |cons c r=>
   have hb:=Qow (r:=r) (hd c (.head _))
   rw [hb] at h h13 h2
   rw [if_pos rfl] at h
   cases h
   refine ⟨?_,by omega,by omega⟩
   unfold Lib.itoa
   rw [if_neg Ya,Int.toNat_natCast]
   by_cases h48:Qem (c::r)=48
   ·have:=h13 h48
    have h5:c::r=[48]:=by simpa using this
    rw [h5,QrA,Qh6]
   ·exact (Qh8 _ _ rfl hd Yd h48).1.symm
 ·have hb:QrQ (45::r)=r:=rfl
  rw [hb] at h h13 h2
  have hner:r≠45::r:=fun e=>by have:=congrArg List.length e;simp at this
  rw [if_neg hner] at h
  cases h
  have h48:Qem r≠48:=fun e=>absurd (h13 e) Yd
  have h5:=Qh8 _ _ rfl hd hne h48
  refine ⟨?_,by omega,by omega⟩
  unfold Lib.itoa
  rw [if_pos Ya,Int.natAbs_neg,Int.natAbs_natCast,h5.1]
theorem QoP (v:Int) (h0: -1099511627776≤v) (h1:v≤1099511627776):QcL (Lib.itoa v)=some v:=by
 unfold Lib.itoa
 split
 ·have hd:=Qh5 v.natAbs
  have hh:=Qh7 v.natAbs Ya
  have hn:=QdW v.natAbs
  have hl:=QfX 12 v.natAbs Ya
  rw [←Lib.decDigits_length] at hl
  generalize Lib.decDigits v.natAbs=d at*
  have hner:d≠45::d:=fun e=>by have:=congrArg List.length e;simp at this
  have hb:QrQ (45::d)=d:=rfl
  unfold QcL
  simp only [hb]
  rw [if_neg (by simp [hn,hh];omega),hd,if_neg Ya,if_neg hner]
  congr 1;omega
 ·have hd:=Qh5 v.toNat
  have hn:=QdW v.toNat
  have hl:=QfX 12 v.toNat Ya
  rw [←Lib.decDigits_length] at hl
  have hh:Qem (Lib.decDigits v.toNat)=48→Lib.decDigits v.toNat=[48]:=fun e=>by
   by_cases hz:v.toNat=0
   ·rw [hz];exact Qh6
   ·exact absurd e (Qh7 _ Ya)
  have hall:=Qjz v.toNat
  generalize Lib.decDigits v.toNat=d at*
  cases d with
  |nil=>exact absurd rfl hn
  |cons c r=>
   have hb:=Qow (r:=r) (hall c (.head _))
   unfold QcL
   simp only [hb]
   rw [if_neg (by
    rintro (h|h|⟨h,h'⟩)
    ·exact hn h
    ·omega
    ·exact h' (hh h)),hd,if_neg Ya,if_pos trivial]
   congr 1;omega
theorem QqO {t:Str} (ht:Qsd t):Q0 t=QcL t:=by
 cases hv:QcL t with
 |some v=>
  obtain ⟨e,h0,h1⟩:=QoO ht hv
  rw [e];exact QqR v h0 h1
 |none=>
  cases hn:Q0 t with
  |none=>rfl
  |some v=>
   unfold Q0 at hn
   split at hn
   ·split at hn
    ·rename_i h
     cases hn
     rw [←h.1,QoP _ h.2.1 h.2.2] at hv
     cases hv
    ·cases hn
   ·cases hn
theorem Qmw:QcL [45]=none:=by decide
end Go.Proofs.YthliapbflkfdiacGreatDoor
