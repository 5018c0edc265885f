/- PWalk, Prn, EModel, EBld, EWalk1, Arr: texts that follow one another, laid into one file. -/
import Derived.Test.YthliapbflkfdiacGreatDoorZ0
import Derived.Test.YthliapbflkfdiacGreatDoorG1
import Derived.Test.YthliapbflkfdiacGreatDoorG4
import Derived.Laws.Runes
import Derived.Lib.ItoaLen
import Derived.Test.YthliapbflkfdiacGreatDoorG0
namespace Go.Proofs.YthliapbflkfdiacGreatDoor
open Go.RowKit Go.Shelf
set_option linter.unusedVariables false
set_option linter.unusedSimpArgs false
set_option maxRecDepth 100000
set_option maxHeartbeats 1000000
def QcU (n:Int):Str:=if n<0∨25<n then [90,122] else [UInt8.ofNat (65+n.toNat)]
def QaP (k n:Int) (s:Str):Str:=if k=0 then QcU n else if k=2 then Lib.itoa n else if k=1∨k=3 then s else []
theorem QpW (n:Int) (h0:0≤n) (h1:n≤25):Value.string (Utf8.encode (IntKind.i32.wrap (65+n)))=sv (QcU n):=by
 obtain ⟨m,rfl⟩:∃m:Nat,n=m:=⟨n.toNat,by omega⟩
 have h:∀i:Fin 26,Utf8.encode (IntKind.i32.wrap (65+((i.val:Nat):Int)))=⟨(QcU (i.val:Nat)).toArray⟩:=by decide+kernel
 rw [h ⟨m,by omega⟩]
section
variable {M:List Nat} {w0:World} {H:List (Nat×Obj)} {F:List (World→Prop)} {b:Nat}
theorem QpM (n:Int) (w:World) (hn: -9223372036854775808≤n∧n≤9223372036854775807):Calls Tryz.prog 203 #[.int .i64 n] w fun e w'=>e= .returned (sv (QcU n))∧w'=w:=by
 by_cases h0:n<0
 ·have e1:QcU n=[90,122]:=by simp [QcU,h0]
  rw [e1];refine Qh Tryz.func203 rfl Tryz.ntmps203 rfl ?_;refine ZaL ?_;refine ZJ ?_;refine Za0 ?_;refine Z1 ?_;refine Zgi ?_;exact ⟨rfl,rfl⟩
 ·by_cases h1:n>25
  ·have e1:QcU n=[90,122]:=by simp [QcU];omega
   rw [e1];refine Qh Tryz.func203 rfl Tryz.ntmps203 rfl ?_;refine ZaL ?_;refine ZJ ?_;refine Za7 ?_;refine Z1 ?_;refine Zgi ?_;exact ⟨rfl,rfl⟩
  ·refine Qh Tryz.func203 rfl Tryz.ntmps203 rfl ?_;refine ZaL ?_;refine ZJ ?_;refine Za7 ?_;refine Z2 ?_;refine Zm ?_;refine ZB ?_
   first
    |refine Qa (QeP rfl rfl rfl) rfl ?_
    |refine Qa (rfl) rfl ?_
   first
    |refine Qa (QeP rfl rfl rfl) rfl ?_
    |refine Qa (rfl) rfl ?_
   refine Zd ?_;refine Zgi ?_;exact ⟨by rw [QpW n Ya Ya],rfl⟩
def Qv8 (n:Int) (w:World):Prop:=Calls Tryz.prog 67 #[.int .i64 n] w fun e w'=>e= .returned (sv (Lib.itoa n))∧Below w.heap.size w w'
theorem Qus (n:Int) (w:World) (hn: -9223372036854775808≤n∧n≤9223372036854775807) (g:QcF w):Qv8 n w:=by
 refine Calls.mono (Any.strconv_Itoa Tryz.laysM171 n hn.1 hn.2 w g.tab) ?_;rintro e w'' ⟨rfl,k,os,rfl⟩;exact ⟨rfl,QjX _ _ _⟩
theorem QrN (k n:Int) (s:Str) (v:Value) (w:World) (hn: -9223372036854775808≤n∧n≤9223372036854775807) (hG:∀w',Ext M w0 w'→QcF w') (hS:St M w0 H F w):
  Calls Tryz.prog 166 #[.agg #[.int .i64 k,.int .i64 n,sv s,v]] w fun e w'=>e= .returned (sv (QaP k n s))∧St M w0 H F w':=by
 by_cases h0:k=0
 ·subst h0;rw [show QaP 0 n s=QcU n by simp [QaP]];refine ZeK ?_;refine Zf ?_;clear hS;intro b1 wx1 hS;refine ZdR ?_;refine ZcD ?_;refine Zj ?_;refine Calls.mono (QpM n _ hn) ?_;rintro _ w1 ⟨rfl,rfl⟩;refine Zv ?_;refine ZeL ?_;exact ⟨rfl,hS.drop⟩
 by_cases h2:k=2
 ·subst h2;rw [show QaP 2 n s=Lib.itoa n by simp [QaP]];refine ZeK ?_;refine Zf ?_;clear hS;intro b1 wx1 hS;refine Ze9 ?_;refine ZcD ?_;refine Zj ?_;refine Calls.mono (Qus n _ hn (hG _ hS.ext)) ?_;rintro _ w1 ⟨rfl,hb1⟩;refine Za ?_;replace hS:=hS.grow hb1;refine Zd ?_;refine ZeL ?_;exact ⟨rfl,hS.drop⟩
 by_cases h1:k=1
 ·subst h1;rw [show QaP 1 n s=s by simp [QaP]];refine ZeK ?_;refine Zf ?_;clear hS;intro b1 wx1 hS;refine ZdW ?_;refine Zl ?_;refine Zc1 ?_;refine Za9 ?_;refine ZaF ?_;refine Zg ?_;refine Z7 ?_;refine Zd ?_;refine ZeL ?_;exact ⟨rfl,hS.drop⟩
 by_cases h3:k=3
 ·subst h3;rw [show QaP 3 n s=s by simp [QaP]];refine ZeK ?_;refine Zf ?_;clear hS;intro b1 wx1 hS;refine ZdW ?_;refine Zl ?_;refine ZaJ ?_;refine Zbk ?_;refine Zq ?_;refine Zbp ?_;refine Zg ?_;refine Z7 ?_;refine Zd ?_;refine ZeL ?_;exact ⟨rfl,hS.drop⟩
 rw [show QaP k n s=[] by simp [QaP,h0,h1,h2,h3]];refine ZeK ?_;refine Zf ?_;clear hS;intro b1 wx1 hS;refine ZdW ?_;refine Zl ?_;refine ZaJ ?_;refine Zbk ?_;refine Zq ?_;refine ZaH ?_;refine Zbx ?_;refine Zk ?_;refine ZeL ?_;exact ⟨rfl,hS.drop⟩
structure Lv where
 v:Value
 T:Ts
 i:Nat
def lvs (L:List Lv):List Value:=L.flatMap fun x=>[x.v,.int .i64 (x.i:Nat)]
theorem Qnl (L L':List Lv):lvs (L++L')=lvs L++lvs L':=by simp [lvs]
theorem Qrz (L:List Lv):(lvs L).length=L.length*2:=by
 induction L with
 |nil=>rfl
 |cons x L ih=>simp [lvs] at ih⊢;omega
abbrev Opn (L:List Lv) (V:Value) (O:List (Nat×Obj)):Prop:=Row 227 2 V L.length (lvs L) O
def Qc3 (k:Int) (T:Ts):Bool:=QiA k&&decide (0<T.length)
theorem QiN (p B V:Value) (l s:Str) (k n:Int) (T:Ts) (L:List Lv) (O O2:List (Nat×Obj)) (v:Value) (w:World) (hp:QmR b p) (hB:Buf l B O) (hV:Opn L V O2) (hn: -9223372036854775808≤n∧n≤9223372036854775807)
  (hG:∀w',Ext M w0 w'→QcF w') (hv:Sl w (fun _=>True) v T) (hl:l.length+(QaP k n s).length+1≤1099511627776) (hL:L.length+1≤1099511627776) (hS:St M w0 ((b,prn p B V)::(O++(O2++H))) F w):
  Calls Tryz.prog 109 #[Qe6 b,.agg #[.int .i64 k,.int .i64 n,sv s,v]] w fun e w'=>∃B' V' O' O2',e= .returned (.tuple #[])∧Buf (l++QaP k n s++if Qc3 k T then [40] else []) B' O'∧Opn (if Qc3 k T then L++[⟨v,T,0⟩] else L) V' O2'∧
   St M w0 ((b,prn (Qe6 b) B' V')::(O'++(O2'++H))) F w':=by
 obtain ⟨A,c,rfl,_⟩:=hv.form;clear hv;obtain ⟨A2,c2,rfl⟩:=hV.form;obtain ⟨A1,c1,rfl⟩:=hB.form;refine Qf Tryz.func109 rfl Tryz.ntmps109 rfl ?_;refine Zf ?_;clear hS;intro b1 wx1 hS;refine ZG ?_;refine Qq (St _ w0 [_] _) 6 ((0,true)::(1,true)::(2,true)::(3,true)::(4,false)::(5,false)::[]) Yc Yc (hS.drew.only1) ?_;replace hS:=hS.drew;refine Zas ?_;refine Zb8 ?_;refine Zp ?_;refine Zj ?_;refine Calls.mono (QrN k n s _ _ hn hG hS) ?_;rintro _ w1 ⟨rfl,hS'⟩;refine Za ?_;replace hS:=hS';clear hS';refine ZcP ?_;refine ZbT ?_;refine Calls.mono (Qhx p _ _ l _ O A2 _ c2 rfl _ hp hB Ya hS.sink1) ?_;rintro _ w2 ⟨B',O',rfl,hB',hS'⟩;refine Za ?_;replace hS:=hS';clear hS';replace hS:=hS.raise1;refine ZcP ?_;refine Zf7 ?_;refine Zg ?_;refine Zab ?_;refine Zj ?_;refine Calls.mono (QkV k n ⟨s.toArray⟩ _ _) ?_;rintro _ w3 ⟨rfl,hb3⟩;refine Za ?_;replace hS:=hS.grow hb3;refine Ze ?_;generalize hg:QiA k=g
 cases g with
 |false=>
  have e1:Qc3 k T=false:=by simp [Qc3,hg]
  refine Zah ?_;refine Zah ?_;refine Z2 ?_;refine QC Tryz.func109 rfl ?_;exact ⟨_,_,O',O2,rfl,by rw [e1,if_neg Yd,List.append_nil];exact hB',by rw [e1,if_neg Yd];exact hV,hS.drop⟩
 |true=>
  by_cases hT:0<T.length
  ·have e1:Qc3 k T=true:=by simp [Qc3,hg,hT]
   refine Zx ?_;refine ZbU ?_;refine Zao ?_;refine ZaI ?_;refine Zac ?_;refine Zi ?_;refine Calls.mono (Qde (Qe6 b) _ _ _ 40 O' A2 _ c2 rfl _ (.inr rfl) hB' Yh hS.sink1) ?_;rintro _ w4 ⟨B2,O3,rfl,hB2,hS'⟩;refine Za ?_;replace hS:=hS';clear hS';replace hS:=hS.raise1;refine Zb ?_;refine Qq (St _ w0 [_,_] _) 12 ((0,true)::(1,true)::(2,true)::(3,true)::(4,true)::(5,true)::(6,true)::(7,true)::(8,false)::(9,false)::(10,true)::(11,true)::[]) Yc Yc (hS.drew.only2) ?_;replace hS:=hS.drew;refine ZbS ?_;refine Zb5 ?_;refine Zax ?_;refine Zdj ?_;refine Qc rfl (fun _ hS=>QH (cells:=[_,_]) (.cons Yb .nil) rfl) rfl ?_;refine Zp ?_;refine ZeM ?_;clear hS;intro b2 wx2 hS;refine Zg5 ?_;refine Zp ?_;refine QaN (sz:=2) (bts:=32) hS Yb rfl rfl rfl rfl (hV) rfl rfl (.cons _ (List.perm_append_comm_assoc (_::_::O3) O2 H)) Ya Ya rfl ?_;clear hS;intro V2 O4 w5 hV2 hS;replace hS:=hS.perm (List.perm_append_comm_assoc O4 (_::_::O3) H);obtain ⟨A3,c3,rfl⟩:=hV2.form;refine Zg5 ?_;refine Zaa ?_;refine Zb5 ?_;refine Zaz ?_;clear hS;intro wx3 hS;refine Zb ?_;refine QC Tryz.func109 rfl ?_;exact ⟨_,_,O3,O4,rfl,by rw [e1,if_pos rfl];exact hB2,by rw [e1,if_pos rfl];show Row _ _ _ (L++[_]).length (lvs (L++[_])) _;rw [List.length_append,Qnl];exact hV2,hS.drop⟩
  ·have e1:Qc3 k T=false:=by simp [Qc3,hT]
   refine Zx ?_;refine ZbU ?_;refine Zao ?_;refine Z2 ?_;refine QC Tryz.func109 rfl ?_;exact ⟨_,_,O',O2,rfl,by rw [e1,if_neg Yd,List.append_nil];exact hB',by rw [e1,if_neg Yd];exact hV,hS.drop⟩
theorem QrA (L0:List Lv):0+((((L0.length+1:Nat):Int))-1).toNat*2=(lvs L0).length:=by rw [Qrz];omega
theorem Qv {g:Nat} {ct:TypeId} {w:World} {L0:List Lv} {v i:Value} {sp:List Value} (hS:St M w0 ((g,.cells (lvs L0++v::i::sp).toArray ct)::H) F w):w.cell? ⟨g,0+((((L0.length+1:Nat):Int))-1).toNat*2,none⟩=some v:=by
 rw [QrA,Qp (hS.at_ .head)];simp
theorem Qu {g:Nat} {ct:TypeId} {w:World} {L0:List Lv} {v i:Value} {sp:List Value} (hS:St M w0 ((g,.cells (lvs L0++v::i::sp).toArray ct)::H) F w):w.cell? ⟨g,0+((((L0.length+1:Nat):Int))-1).toNat*2+1,none⟩=some i:=by
 rw [QrA,Qp (hS.at_ .head)];simp
theorem Put.at_ {i v u:Value} {sp:List Value}:∀(l:List Value),Put (l++v::i::sp) (l.length+1) u (l++v::u::sp)
 |[]=> .s .z
 |x::l=> .s (Put.at_ l)
theorem Qun {v i u:Value} {sp:List Value} (L0:List Lv):Put (lvs L0++v::i::sp) (0+((((L0.length+1:Nat):Int))-1).toNat*2+1) u (lvs L0++v::u::sp):=by
 rw [QrA];exact Put.at_ _
theorem Opn.top {L0:List Lv} {v V:Value} {T:Ts} {i:Nat} {O2:List (Nat×Obj)} (h:Opn (L0++[⟨v,T,i⟩]) V O2):∃g cap sp,V= .slice (some ⟨g,0,none⟩) (L0.length+1) cap∧O2=[(g,.cells (lvs L0++v:: .int .i64 (i:Nat)::sp).toArray 227)]∧L0.length+1≤cap∧
  (∀j:Nat,Opn (L0++[⟨v,T,j⟩]) V [(g,.cells (lvs L0++v:: .int .i64 (j:Nat)::sp).toArray 227)])∧Opn L0 (.slice (some ⟨g,0,none⟩) L0.length cap) O2:=by
 have h':Row 227 2 V (L0.length+1) (lvs L0++[v,.int .i64 (i:Nat)]) O2:=by
  have:=h;unfold Opn at this;rw [List.length_append,Qnl] at this;exact this
 clear h;generalize hn:L0.length+1=nn at h';generalize hx:lvs L0++[v,.int .i64 (i:Nat)]=xs at h'
 cases h' with
 |nil_=>omega
 |own_ h1 h2 h3 h4=>
  rename_i g cap sp;subst hx;have hl:=Qrz L0;refine ⟨g,cap,sp,by first|rfl|rw [hn],by simp,h3,fun j=> ?_,?_⟩
  ·have:Row 227 2 (.slice (some ⟨g,0,none⟩) nn cap) nn (lvs L0++[v,.int .i64 (j:Nat)]) [(g,.cells ((lvs L0++[v,.int .i64 (j:Nat)])++sp).toArray 227)]:= .own_ Yh (by simp at h2⊢;omega) h3 h4;show Row _ _ _ (L0++[_]).length (lvs (L0++[_])) _;rw [List.length_append,Qnl,show L0.length+[Lv.mk v T j].length=nn from hn];simpa [lvs] using this
  ·have:Row 227 2 (.slice (some ⟨g,0,none⟩) L0.length cap) L0.length (lvs L0) [(g,.cells (lvs L0++(v:: .int .i64 (i:Nat)::sp)).toArray 227)]:= .own_ hl (by simp at h2⊢;omega) Ya h4;simpa using this
theorem Qpi (B V v:Value) (l:Str) (T:Ts) (L0:List Lv) (O O2:List (Nat×Obj)) (A:Option Addr) (c:Nat) (w:World) (hB:Buf l B O) (hV:Opn (L0++[⟨v,T,T.length⟩]) V O2) (hv:v= .slice A T.length c) (hl:l.length+1≤1099511627776) (hL:L0.length+1≤1099511627776)
  (hS:St M w0 ((b,prn (Qe6 b) B V)::(O++(O2++H))) F w):
  Calls Tryz.prog 110 #[Qe6 b] w fun e w'=>∃B' V' O',e= .returned (.tuple #[])∧Buf (l++[41]) B' O'∧Opn L0 V' O2∧St M w0 ((b,prn (Qe6 b) B' V')::(O'++(O2++H))) F w':=by
 subst hv;obtain ⟨g,cap,sp,rfl,rfl,hcap,_,hV0⟩:=hV.top;obtain ⟨A1,c1,rfl⟩:=hB.form;replace hS:=St.raise1 hS;refine Qh Tryz.func110 rfl Tryz.ntmps110 rfl ?_;refine ZaU ?_;refine ZcI ?_;refine ZaU ?_;refine Ze ?_;refine Zft ?_;refine Zfd ?_;refine Zgj ?_;replace hS:=hS.drew;refine Za3 ?_;refine ZbV ?_;refine Zbc ?_;refine ZeN ?_;refine ZF ?_;refine ZR ?_;refine Zac ?_;refine Zi ?_;refine Calls.mono (Qde (Qe6 b) _ _ l 41 O _ _ _ rfl _ (.inr rfl) hB Ya hS.sink1) ?_;rintro _ w4 ⟨B2,O3,rfl,hB2,hS'⟩;refine Za ?_;replace hS:=hS';clear hS';replace hS:=hS.raise1;refine Zbg ?_;refine ZY ?_;refine Z7 ?_;refine Ze ?_;refine Qa (Qam (sz:=2) rfl rfl rfl rfl Ya Ya) rfl ?_;refine Zd5 ?_;refine ZA ?_;clear hS;intro wx1 hS;refine Zb ?_;refine Qmp Tryz.func110 rfl  ?_;rw [show ((((L0.length+1:Nat):Int))-1).toNat=L0.length by omega] at hS;exact ⟨_,_,O3,rfl,hB2,hV0,hS.sink1⟩
theorem QqK (B V v:Value) (l:Str) (k n:Int) (s:Str) (D a r:Ts) (L0:List Lv) (O O2:List (Nat×Obj)) (w:World) (hB:Buf l B O) (hV:Opn (L0++[⟨v,D.app (.cons k n ⟨s.toArray⟩ a r),D.length⟩]) V O2) (hv:Sl w0 (fun _=>True) v (D.app (.cons k n ⟨s.toArray⟩ a r)))
  (hn: -9223372036854775808≤n∧n≤9223372036854775807) (hG:∀w',Ext [] w0 w'→QcF w') (hl:l.length+(QaP k n s).length+2≤1099511627776) (hL:L0.length+2≤1099511627776) (hD:D.length+1≤1099511627776)
  (hS:St [] w0 ((b,prn (Qe6 b) B V)::(O++(O2++H))) F w):
  Calls Tryz.prog 110 #[Qe6 b] w fun e w'=>∃va B' V' O' O2',e= .returned (.tuple #[])∧Sl w0 (fun _=>True) va a∧Buf (l++(if 0<D.length then [44] else [])++QaP k n s++if Qc3 k a then [40] else []) B' O'∧
   Opn (if Qc3 k a then (L0++[⟨v,D.app (.cons k n ⟨s.toArray⟩ a r),D.length+1⟩])++[⟨va,a,0⟩] else L0++[⟨v,D.app (.cons k n ⟨s.toArray⟩ a r),D.length+1⟩]) V' O2'∧St [] w0 ((b,prn (Qe6 b) B' V')::(O'++(O2'++H))) F w':=by
 obtain ⟨A,c,rfl,hv⟩:=hv.form;obtain ⟨bb,o,rfl,hseg⟩:=Sl.at_ hv (by simp [Ts.length]);obtain ⟨_,q0,q1,q2,⟨va,q3,hva⟩,_⟩:=QaM.1 hseg
 have hlen:(D.app (.cons k n ⟨s.toArray⟩ a r)).length=D.length+(r.length+1):=by rw [Ts.length_app];rfl
 rw [show o+D.length*4=o+(((D.length:Nat):Int)+1-1).toNat*4 by omega] at q0 q1 q2 q3;obtain ⟨g,cap,sp,rfl,rfl,hcap,hup,_⟩:=hV.top;obtain ⟨A1,c1,rfl⟩:=hB.form;replace hS:=St.raise1 hS;by_cases hD0:0<D.length
 ·rw [if_pos hD0];refine Qh Tryz.func110 rfl Tryz.ntmps110 rfl ?_;refine ZaU ?_;refine ZcI ?_;refine ZaU ?_;refine Ze ?_;refine Zft ?_;refine Zfd ?_;refine Zgj ?_;replace hS:=hS.drew;refine Za3 ?_;refine ZbV ?_;refine Zbc ?_;refine ZeN ?_;refine ZF ?_;refine Zn ?_;refine ZW ?_;refine Zge ?_;refine Zao ?_;refine Zdc ?_;refine ZaM ?_;refine Zi ?_;refine Calls.mono (Qde (Qe6 b) _ _ l 44 O _ _ _ rfl _ (.inr rfl) hB Ya hS.sink1) ?_;rintro _ w4 ⟨B2,O3,rfl,hB2,hS'⟩;refine Za ?_;replace hS:=hS';clear hS';replace hS:=hS.raise1;obtain ⟨A2,c2,rfl⟩:=hB2.form;refine Zb ?_;refine Zd4 ?_;refine ZB ?_;refine ZbJ ?_;refine Q6 hS rfl Yb rfl rfl .head (Qun L0) .head ?_;clear hS;intro w5 hS;refine Zb ?_;refine Zg6 ?_;replace hS:=hS.drew;refine Zs ?_;refine ZbV ?_;refine Za3 ?_;refine Zg7 ?_;refine ZbC ?_;refine Zb8 ?_;refine ZF ?_;refine Zi ?_;refine Calls.mono (QiN (Qe6 b) _ _ _ s k n a _ O3 _ va _ (.inr rfl) hB2 (hup (D.length+1)) hn hG (hva.below hS.ext.below) Yh Yh hS.sink1) ?_;rintro _ w6 ⟨B3,V3,O4,O5,rfl,hB3,hV3,hS'⟩;refine Za ?_;replace hS:=hS';clear hS';refine Zb ?_;refine QC Tryz.func110 rfl ?_;refine ⟨va,B3,V3,O4,O5,rfl,hva,?_,hV3,hS⟩;exact hB3
 ·rw [if_neg hD0,List.append_nil];refine Qh Tryz.func110 rfl Tryz.ntmps110 rfl ?_;refine ZaU ?_;refine ZcI ?_;refine ZaU ?_;refine Ze ?_;refine Zft ?_;refine Zfd ?_;refine Zgj ?_;replace hS:=hS.drew;refine Za3 ?_;refine ZbV ?_;refine Zbc ?_;refine ZeN ?_;refine ZF ?_;refine Zn ?_;refine ZW ?_;refine Zge ?_;refine Zao ?_;refine Zn ?_;refine Zd4 ?_;refine ZB ?_;refine ZbJ ?_;refine Q6 hS rfl Yb rfl rfl .head (Qun L0) .head ?_;clear hS;intro w5 hS;refine Zb ?_;refine Zg6 ?_;replace hS:=hS.drew;refine Zs ?_;refine ZbV ?_;refine Za3 ?_;refine Zg7 ?_;refine ZbC ?_;refine Zb8 ?_;refine ZF ?_;refine Zi ?_;refine Calls.mono (QiN (Qe6 b) _ _ _ s k n a _ O _ va _ (.inr rfl) hB (hup (D.length+1)) hn hG (hva.below hS.ext.below) Yh Yh hS.sink1) ?_;rintro _ w6 ⟨B3,V3,O4,O5,rfl,hB3,hV3,hS'⟩;refine Za ?_;replace hS:=hS';clear hS';refine Zb ?_;refine QC Tryz.func110 rfl ?_;refine ⟨va,B3,V3,O4,O5,rfl,hva,?_,hV3,hS⟩;exact hB3
end
def Qhh (c:Bool):Ts→Str
 | .nil=>[]
 | .cons k n s a r=>(if c then [44] else [])++QaP k n s.data.toList++(if Qc3 k a then 40::(Qhh false a++[41]) else [])++Qhh true r
def rng:Ts→Prop
 | .nil=>True
 | .cons k n s a r=>(-9223372036854775808≤n∧n≤9223372036854775807)∧rng a∧rng r
abbrev Lw:=Value×Ts×Ts
def lev:List Lw→List Lv
 |[]=>[]
 |(v,D,R)::K=>lev K++[⟨v,D.app R,D.length⟩]
def Qb7:List Lw→Str
 |[]=>[]
 |(v,D,R)::K=>Qhh (decide (0<D.length)) R++41::Qb7 K
def work:List Lw→Nat
 |[]=>0
 |(v,D,R)::K=>1+2*R.nodes+work K
theorem QrJ:∀K:List Lw,(lev K).length≤(Qb7 K).length
 |[]=>Nat.le_refl _
 |(v,D,R)::K=>by have:=QrJ K;simp [lev,Qb7];omega
theorem Qt7 (D:Ts) (k n:Int) (s:ByteArray) (a:Ts):(D.app (.cons k n s a .nil)).length=D.length+1:=by rw [Ts.length_app];rfl
def Qv4 (w0:World) (N:Nat) (x:Lw):Prop:=Sl w0 (fun _=>True) x.1 (x.2.1.app x.2.2)∧(x.2.1.app x.2.2).nodes≤N∧rng x.2.2
theorem Qq6 (k n:Int) (s:Str) (a:Ts) (v:Value) (w0:World) (hG:∀w',Ext [] w0 w'→QcF w') (hv:Sl w0 (fun _=>True) v a) (hn: -9223372036854775808≤n∧n≤9223372036854775807) (hr:rng a) (hN:a.nodes≤1048576)
  (hlen:(Qhh false (.cons k n ⟨s.toArray⟩ a .nil)).length≤1073741824):
  Calls Tryz.prog 68 #[.agg #[.int .i64 k,.int .i64 n,sv s,v]] w0 fun e w'=>e= .returned (sv (Qhh false (.cons k n ⟨s.toArray⟩ a .nil)))∧Below w0.heap.size w0 w':=by
 have hS:=St.start w0
 have e0:Qhh false (.cons k n ⟨s.toArray⟩ a .nil)=QaP k n s++if Qc3 k a then 40::(Qhh false a++[41]) else []:=by simp [Qhh]
 rw [e0] at hlen⊢
 have hlab:(QaP k n s).length≤1073741824:=by simp at hlen;omega
 obtain ⟨A,c,rfl,hv⟩:=hv.form;refine Qh Tryz.func68 rfl Tryz.ntmps68 rfl ?_;refine Zf ?_;clear hS;intro b1 wx1 hS;refine Zd8 ?_;refine Qa (QH (cells:=[_,_,_]) .nil rfl) rfl ?_;refine Zaw ?_;clear hS;intro b2 wx2 hS;refine Z4 ?_;refine Zab ?_;refine Zi ?_;refine Calls.mono (QiN (.pointer none) _ _ [] s k n a [] [] [] _ _ (.inl rfl) .nil_ .nil_ hn hG (hv.below hS.ext.below) Yh Yd hS) ?_;rintro _ w1 ⟨B1,V1,O1,O2,rfl,hB1,hV1,hS'⟩;refine Za ?_;replace hS:=hS';clear hS';generalize htot:QaP k n s++(if Qc3 k a then 40::(Qhh false a++[41]) else [])=tot at hlen⊢
 obtain ⟨H,hS⟩:∃H,St [] w0 ((b2,prn (Qe6 b2) B1 V1)::(O1++(O2++H))) [] w1:=⟨_,hS⟩
 refine Zdm ?_;refine Qex  (9::10::11::12::13::14::15::16::[]) (fun (x:Str×List Lw) w'=>∃B V O O2,Buf x.1 B O∧Opn (lev x.2) V O2∧St [] w0 ((b2,prn (Qe6 b2) B V)::(O++(O2++H))) [] w'∧x.1++Qb7 x.2=tot∧∀y∈x.2,Qv4 w0 a.nodes y) (fun x=>work x.2) ((QaP k n s++(if Qc3 k a then [40] else []),if Qc3 k a then [(.slice A a.length c,.nil,a)] else [])) ?_ ?_
 ·refine ⟨B1,V1,O1,O2,hB1,?_,hS,?_,?_⟩
  ·generalize Qc3 k a=g at hV1⊢;cases g<;>exact hV1
  ·rw [←htot];generalize Qc3 k a=g;cases g<;>simp [Qb7,Ts.length]
  ·generalize Qc3 k a=g
   cases g with
   |false=>simp
   |true=>
    intro y hy;obtain rfl:y=_:=by simpa using hy
    exact ⟨hv,Nat.le_refl _,hr⟩
 clear hS hB1 hV1;rintro ⟨l,K⟩ w2 jv ⟨B,V,O,O2,hB,hV,hS,htl,hK⟩ ih;simp only at hB hV hS htl hK ih;obtain ⟨A1,c1,rfl⟩:=hB.form
 cases K with
 |nil=>
  obtain ⟨A2,c2,hVe⟩:=Row.form hV;obtain rfl:V= .slice A2 0 c2:=hVe;refine ZW ?_;refine Z7 ?_;refine ZaE ?_;refine ZaR ?_;refine Zac ?_
  have hl:l.length≤1099511627776:=by rw [←htl] at hlen;simp at hlen;omega
  refine Zj ?_;refine Calls.mono (Qph (Qe6 b2) _ _ l O A2 0 c2 rfl _ hB hl hS) ?_;rintro _ w3 ⟨rfl,hS'⟩;refine Za ?_;replace hS:=hS';clear hS';refine Zd ?_;refine Qd Tryz.func68 rfl Yb ?_;exact ⟨by rw [←htl];simp [Qb7],hS.ext.below⟩
 |cons x K=>
  obtain ⟨u,D,R⟩:=x;have hV':Opn (lev K++[⟨u,D.app R,D.length⟩]) V O2:=hV;obtain ⟨hu,hN1,hR⟩:=hK (u,D,R) (.head _);simp only at hu hN1 hR;have hlk:=QrJ K
  have hkl:l.length+((Qhh (decide (0<D.length)) R).length+(Qb7 K).length+1)≤1073741824:=by rw [←htl] at hlen;simp [Qb7] at hlen;omega
  have hDn:=D.length_le;rw [Ts.nodes_app] at hN1;obtain ⟨g,cap,sp,rfl,_,hcap,_⟩:=hV'.top
  cases R with
  |nil=>
   rw [Ts.app_nil] at hV' hu;obtain ⟨A3,c3,rfl,_⟩:=hu.form;refine ZW ?_;refine Z7 ?_;refine ZaE ?_;refine ZR ?_;refine Zbw ?_;refine ZP ?_;refine Zj ?_;refine Calls.mono (Qpi _ _ _ l D (lev K) O O2 A3 c3 _ hB hV' rfl Ya Ya hS) ?_;rintro _ w3 ⟨B',V',O',rfl,hB',hV2,hS'⟩;refine Za ?_;replace hS:=hS';clear hS';refine Zb ?_;refine Zam ?_;refine ih ((l++[41],K)) _ _ ?_ ?_ Yc
   ·simp only [work];omega
   ·exact ⟨B',V',O',O2,hB',hV2,hS,by rw [←htl];simp [Qb7,Qhh],fun y hy=>hK y (.tail _ hy)⟩
  |cons k1 n1 s1 a1 r1=>
   obtain ⟨s1,rfl⟩:=Quj s1;refine ZW ?_;refine Z7 ?_;refine ZaE ?_;refine ZR ?_;refine Zbw ?_;refine ZP ?_
   have hlab1:(QaP k1 n1 s1).length≤(Qhh (decide (0<D.length)) (.cons k1 n1 ⟨s1.toArray⟩ a1 r1)).length:=by simp [Qhh];omega
   refine Zj ?_;refine Calls.mono (QqK _ _ _ l k1 n1 s1 D a1 r1 (lev K) O O2 _ hB hV' hu hR.1 hG Ya Ya Ya hS) ?_;rintro _ w3 ⟨va,B',V',O',O3,rfl,hva,hB',hV2,hS'⟩;refine Za ?_;replace hS:=hS';clear hS';refine Zb ?_;refine Zam ?_
   have hD1:(D.app (.cons k1 n1 ⟨s1.toArray⟩ a1 .nil)).app r1=D.app (.cons k1 n1 ⟨s1.toArray⟩ a1 r1):=by rw [Ts.app_assoc];rfl
   have hD2:=Qt7 D k1 n1 ⟨s1.toArray⟩ a1;generalize D.app (.cons k1 n1 ⟨s1.toArray⟩ a1 .nil)=D1 at hD1 hD2
   have hu1:Qv4 w0 a.nodes (u,D1,r1):=⟨by rw [hD1];exact hu,by show (D1.app r1).nodes≤_;rw [hD1,Ts.nodes_app];exact hN1,hR.2.2⟩
   have hnod:(Ts.cons k1 n1 ⟨s1.toArray⟩ a1 r1).nodes=a1.nodes+r1.nodes+1:=rfl
   have hL1:lev ((u,D1,r1)::K)=lev K++[⟨u,D.app (.cons k1 n1 ⟨s1.toArray⟩ a1 r1),D.length+1⟩]:=by simp only [lev];rw [hD1,hD2]
   have hpos:decide (0<D1.length)=true:=by simp;omega
   generalize hg:Qc3 k1 a1=g1 at hV2 hB';have htl':l++(Qhh (decide (0<D.length)) (.cons k1 n1 ⟨s1.toArray⟩ a1 r1)++41::Qb7 K)=tot:=htl
   cases g1 with
   |true=>
    refine ih ((l++(if 0<D.length then [44] else [])++QaP k1 n1 s1++[40],(va,.nil,a1)::(u,D1,r1)::K)) _ _ ?_ ?_ Yc
    ·simp only [work,hnod];omega
    ·refine ⟨B',V',O',O3,hB',?_,hS,?_,?_⟩
     ·show Opn (lev ((u,D1,r1)::K)++[_]) V' O3;rw [hL1];exact hV2
     ·rw [←htl'];simp only [Qb7,hpos,Qhh,hg];simp [Ts.length]
     ·intro y hy;rcases List.mem_cons.1 hy with rfl|hy
      ·exact ⟨hva,by show a1.nodes≤_;omega,hR.2.1⟩
      rcases List.mem_cons.1 hy with rfl|hy
      ·exact hu1
      ·exact hK y (.tail _ hy)
   |false=>
    refine ih ((l++(if 0<D.length then [44] else [])++QaP k1 n1 s1,(u,D1,r1)::K)) _ _ ?_ ?_ Yc
    ·simp only [work,hnod];omega
    ·refine ⟨B',V',O',O3,?_,?_,hS,?_,?_⟩
     ·simpa only [Bool.false_eq_true,if_false,List.append_nil] using hB'
     ·show Opn (lev ((u,D1,r1)::K)) V' O3;rw [hL1];exact hV2
     ·rw [←htl'];simp only [Qb7,hpos,Qhh,hg];simp [Ts.length]
     ·intro y hy;rcases List.mem_cons.1 hy with rfl|hy
      ·exact hu1
      ·exact hK y (.tail _ hy)
def Qb4:Nat→Ts→Str
 |_,.nil=>[]
 |i,.cons k n s a r=>(([32]++Lib.itoa (i:Nat))++[61])++Qhh false (.cons k n s a .nil)++Qb4 (i+1) r
def QiY (k:Int):Str:=
 if k=1 then [121,101,115] else if k=2 then [100,111,110,101] else if k=3 then [102,117,101,108] else if k=4 then [108,97,114,103,101] else if k=5 then [102,97,117,108,116] else if k=6 then [101,110,111,117,103,104] else []
def Qbs (k:Int) (T:Ts):Str:=if k=1 then [121,101,115]++Qb4 0 T else QiY k
theorem Qkk:∀(i:Nat) (D R:Ts),Qb4 i (D.app R)=Qb4 i D++Qb4 (i+D.length) R
 |i,.nil,R=>by simp [Ts.app,Qb4,Ts.length]
 |i,.cons k n s a r,R=>by
  have:=Qkk (i+1) r R;simp only [Ts.app,Qb4,this,Ts.length];rw [show i+1+r.length=i+(r.length+1) by omega];simp
theorem Qs3 (i:Nat) (k n:Int) (s:ByteArray) (a:Ts):Qb4 i (.cons k n s a .nil)=(([32]++Lib.itoa (i:Nat))++[61])++Qhh false (.cons k n s a .nil):=by simp [Qb4]
abbrev Quz (p B:Value):Obj:= .cells [p,B].toArray 118
section
variable {M:List Nat} {w0:World} {H:List (Nat×Obj)} {F:List (World→Prop)} {b:Nat}
theorem QeR (p:Value) (A:Option Addr) (l c:Nat) (w:World) (hp:QmR b p) (hS:St M w0 ((b,Quz p (.slice A l c))::H) F w):
  Calls Tryz.prog 107 #[Qe6 b] w fun e w'=>e= .returned (.tuple #[])∧St M w0 ((b,Quz (Qe6 b) (.slice A l c))::H) F w':=by
 have hsh:=Qfq (hS.at_ .head);rcases hp with rfl|rfl
 ·refine Zfo ?_;refine ZdX ?_;refine ZcQ ?_;refine ZdY ?_;refine ZgT ?_;refine ZgU ?_;refine ZgV ?_;refine ZaM ?_;refine ZA ?_;clear hS;intro wx1 hS;refine Zb ?_;refine QC Tryz.func107 rfl ?_;exact ⟨rfl,hS⟩
 ·refine Zfo ?_;refine ZdX ?_;refine ZcQ ?_;refine Zf4 ?_;refine Zac ?_;refine ZbM ?_;refine ZgW ?_;refine Zn ?_;refine QC Tryz.func107 rfl ?_;exact ⟨rfl,hS⟩
theorem Qdt (p B:Value) (l x:Str) (O:List (Nat×Obj)) (w:World) (hp:QmR b p) (hB:Buf l B O) (hl:l.length+x.length≤1099511627776) (hS:St M w0 ((b,Quz p B)::(O++H)) F w):
  Calls Tryz.prog 66 #[Qe6 b,sv x] w fun e w'=>∃B' O',e= .returned (.tuple #[.int .i64 (x.length:Nat),.nilIface])∧Buf (l++x) B' O'∧St M w0 ((b,Quz (Qe6 b) B')::(O'++H)) F w':=by
 obtain ⟨A,c,rfl⟩:=hB.form;refine Qf Tryz.func66 rfl Tryz.ntmps66 rfl ?_;refine ZdZ ?_;refine ZC ?_;refine Calls.mono (QeR p A _ c _ hp hS) ?_;rintro _ w1 ⟨rfl,hS'⟩;refine Za ?_;replace hS:=hS';clear hS';refine Zbg ?_;refine Zc8 ?_;refine QjT hS Yb rfl rfl rfl rfl hB List.perm_middle.symm Ya rfl ?_;clear hS;intro B' O' w2 hB' hS;replace hS:=hS.raise;obtain ⟨A',c',rfl⟩:=hB'.form;refine Zbt ?_;clear hS;intro wx1 hS;refine Zbu ?_;refine Zbn ?_;refine Zo ?_;refine QaS Tryz.func66 rfl Yb Yb ?_;refine ⟨_,O',rfl,?_,hS⟩;show Row _ _ _ (l++x).length (Q4 (l++x)) _;rw [List.length_append,show Q4 (l++x)=Q4 l++Q4 x by simp [Q4]];exact hB'
theorem QeL (p B:Value) (l:Str) (c:UInt8) (O:List (Nat×Obj)) (w:World) (hp:QmR b p) (hB:Buf l B O) (hl:l.length+1≤1099511627776) (hS:St M w0 ((b,Quz p B)::(O++H)) F w):
  Calls Tryz.prog 65 #[Qe6 b,.int .u8 c.toNat] w fun e w'=>∃B' O',e= .returned .nilIface∧Buf (l++[c]) B' O'∧St M w0 ((b,Quz (Qe6 b) B')::(O'++H)) F w':=by
 obtain ⟨A,cc,rfl⟩:=hB.form;refine Qf Tryz.func65 rfl Tryz.ntmps65 rfl ?_;refine Zc9 ?_;refine Calls.mono (QeR p A _ cc _ hp hS) ?_;rintro _ w1 ⟨rfl,hS'⟩;refine Za ?_;replace hS:=hS';clear hS';refine Zbg ?_;refine Zc8 ?_;refine ZaZ ?_;clear hS;intro b1 wx1 hS;refine ZgX ?_;clear hS;intro B' O' w2 hB' hS;replace hS:=hS.raise;obtain ⟨A',c',rfl⟩:=hB'.form;refine Zbt ?_;clear hS;intro wx2 hS;refine Zay ?_;refine Qd Tryz.func65 rfl Yb ?_;refine ⟨_,O',rfl,?_,hS⟩;show Row _ _ _ (l++[c]).length (Q4 (l++[c])) _;rw [List.length_append,show Q4 (l++[c])=Q4 l++Q4 [c] by simp [Q4]];exact hB'
theorem Qm4 (p B:Value) (l:Str) (O:List (Nat×Obj)) (w:World) (hB:Buf l B O) (hl:l.length≤1099511627776) (hS:St M w0 ((b,Quz p B)::(O++H)) F w):
  Calls Tryz.prog 69 #[Qe6 b] w fun e w'=>e= .returned (sv l)∧St M w0 H F w':=by
 have hF:=hS;have hB2:Row 5 1 B l.length (Q4 l) O:=hB;clear hB;generalize hll:l.length=ll at hB2;generalize hbl:Q4 l=bl at hB2
 cases hB2 with
 |nil_=>
  obtain rfl:l=[]:=List.eq_nil_of_length_eq_zero hll;clear hF;refine Zfp ?_;refine ZcE ?_;refine Zfq ?_;replace hS:=hS.drew;refine Za3 ?_;refine Za3 ?_;refine Zbc ?_;refine Zp ?_;refine Qa (Qce rfl rfl) rfl ?_;refine QaW hS ?_;refine Zp ?_;refine Zfr ?_;refine QaW hS ?_;refine Zd0 ?_;exact ⟨rfl,hS.drop⟩
 |own_ h1 h2 h3 h4=>
  rename_i g cap sp;have hg:w.heap[g]?=some (.cells (bl++sp).toArray 5):=hF.own (g,_) Yd;replace hS:=St.dropMid' hS;refine Zfp ?_;refine ZcE ?_;refine Zfq ?_;replace hS:=hS.drew;refine Za3 ?_;refine Za3 ?_;refine Zbc ?_;refine Zp ?_;refine Qa (Qce rfl (Lib.run_unsafeSliceData_row _ _ _ _ _ _ Ya)) rfl ?_;refine QaW hS ?_;refine Zp ?_;by_cases hl0:l=[]
  ·subst hl0;obtain rfl:0=ll:=hll;refine Zfr ?_;refine QaW hS ?_;refine Zd0 ?_;exact ⟨rfl,hS.drop⟩
  ·have hus:=Lib.run_unsafeString_row (P:=Tryz.prog) w.drew 167 3 9 5 Yc Yc g (bl++sp).length (Qfq (w:=w.drew) hg) l hl0 (by simp at h2⊢;omega) Ya ?_
   ·rw [hll] at hus;replace hS:=(St.swap hF.drew).lose (Qj3 _ g ll);refine Qa (Qdi rfl rfl hus) rfl ?_;refine QaW hS ?_;refine Zd0 ?_;exact ⟨rfl,hS.drop⟩
   ·intro j x hx;subst hbl;have hj:j<l.length:=(List.getElem?_eq_some_iff.1 hx).1
    have:(Q4 l++sp)[j]?=some (.int .u8 x.toNat):=by
     rw [List.getElem?_append_left (by simp [Q4];omega)];simp [Q4,hx]
    rw [←this,←Qp (w:=w.drew) hg j];simp only [Addr.add];split
    ·rename_i h0;subst h0;rfl
    ·simp
end
theorem QdY {α:Type} (a b:α) (O H:List α):(a::b::(O++H)).Perm (b::(O++a::H)):=(List.Perm.swap b a _).trans (.cons b List.perm_middle.symm)
theorem Qtm {D R:Ts} (h:rng (D.app R)):rng R:=by
 induction D with
 |nil=>exact h
 |cons k n s a r _ ih=>exact ih h.2.2
theorem Qpc (T:Ts) (v:Value) (w0:World) (hG:∀w',Ext [] w0 w'→QcF w') (hv:Sl w0 (fun _=>True) v T) (hr:rng T) (hN:T.nodes≤1048576) (hl:(Qb4 0 T).length≤1073741824):
  Calls Tryz.prog 36 #[v] w0 fun e w'=>e= .returned (sv (Qb4 0 T))∧Below w0.heap.size w0 w':=by
 have hS:=St.start w0;obtain ⟨A,c,rfl,hv⟩:=hv.form;have hTl:=T.length_le;refine Qh Tryz.func36 rfl Tryz.ntmps36 rfl ?_;refine Zk ?_;refine Zg ?_;refine Zbb ?_;clear hS;intro b1 wx1 hS;refine Zdh ?_;refine ZQ ?_;refine Qn 8 (9::10::11::12::5::4::13::14::15::16::17::18::19::20::21::[]) (fun (R:Ts) v w'=>∃(D:Ts) (p B:Value) (O:List (Nat×Obj)),T=D.app R∧v= .int .i64 (D.length:Nat)∧QmR b1 p∧Buf (Qb4 0 D) B O∧St [] w0 ((b1,Quz p B)::(O++[])) [] w') (fun R=>R.length) (T) ?_ Yb ?_
 ·exact ⟨.nil,_,_,[],rfl,rfl,.inl rfl,Row.nil_,hS⟩
 clear hS;rintro R _ w2 jv ⟨D,p,B,O,hD,rfl,hp,hB,hS⟩ ih;have hlD:T.length=D.length+R.length:=by rw [hD,Ts.length_app]
 cases R with
 |nil=>
  rw [Ts.app_nil] at hD;subst hD;simp only [Ts.length] at hlD;refine ZL ?_;refine Zg ?_;refine Zj ?_;refine Calls.mono (Qm4 p B (Qb4 0 T) O _ hB Ya hS) ?_;rintro _ w3 ⟨rfl,hS'⟩;refine Za ?_;replace hS:=hS';clear hS';refine Zd ?_;refine Qd Tryz.func36 rfl Yb ?_;exact ⟨rfl,hS.ext.below⟩
 |cons k n s a R=>
  obtain ⟨s,rfl⟩:=Quj s;simp only [Ts.length] at hlD;obtain ⟨b5,o5,rfl,hsq⟩:=Sl.at_ (D:=D) (R:= .cons k n ⟨s.toArray⟩ a R) (by rw [←hD];exact hv) (by simp [Ts.length]);obtain ⟨_,p0,p1,p2,⟨v',p3,hsl⟩,_⟩:=QaM.1 hsq;obtain ⟨A6,c6,rfl,hsl⟩:=hsl.form;have hrr:rng (.cons k n ⟨s.toArray⟩ a R):=Qtm (D:=D) (by rw [←hD];exact hr);have hnod:T.nodes=D.nodes+(Ts.cons k n ⟨s.toArray⟩ a R).nodes:=by rw [hD,Ts.nodes_app]
  simp only [Ts.nodes] at hnod;have hvl:(Qb4 0 T).length=(Qb4 0 D).length+(Qb4 (0+D.length) (.cons k n ⟨s.toArray⟩ a R)).length:=by rw [hD,Qkk,List.length_append]
  simp only [Qb4,List.length_append,List.length_cons,List.length_nil,Nat.zero_add] at hvl;have hbyte:(Value.int .u8 32)= .int .u8 ((32:UInt8).toNat:Nat):=rfl;have hbyte2:(Value.int .u8 61)= .int .u8 ((61:UInt8).toNat:Nat):=rfl;refine Zd9 ?_;refine Zab ?_;refine Zw ?_;clear hS;intro b2 wx2 hS;refine Zbz ?_;clear hS;intro wx3 hS;refine ZaV ?_;refine Zi ?_;refine Calls.mono (QeL p B (Qb4 0 D) 32 O _ hp hB Ya (hS.perm (QdY _ _ _ _))) ?_;rintro _ w3 ⟨B3,O3,rfl,hB3,hS'⟩;refine Za ?_;replace hS:=hS';clear hS';replace hS:=hS.perm (QdY _ _ _ _).symm;refine Zb ?_;refine ZC ?_;refine Calls.mono (Qus (D.length:Nat) _ Ya (hG _ hS.ext)) ?_;rintro _ w4 ⟨rfl,hb4⟩;refine Za ?_;replace hS:=hS.grow hb4;refine Zi ?_;refine Calls.mono (Qdt _ B3 (Qb4 0 D++[32]) (Lib.itoa (D.length:Nat)) O3 _ (.inr rfl) hB3 Yj (hS.perm (QdY _ _ _ _))) ?_;rintro _ w5 ⟨B5,O5,rfl,hB5,hS'⟩;refine Za ?_;replace hS:=hS';clear hS';replace hS:=hS.perm (QdY _ _ _ _).symm;refine ZaV ?_;refine Zi ?_;refine Calls.mono (QeL _ B5 ((Qb4 0 D++[32])++Lib.itoa (D.length:Nat)) 61 O5 _ (.inr rfl) hB5 Yj (hS.perm (QdY _ _ _ _))) ?_;rintro _ w6 ⟨B6,O6,rfl,hB6,hS'⟩;refine Za ?_;replace hS:=hS';clear hS';replace hS:=hS.perm (QdY _ _ _ _).symm;refine Zb ?_;refine Zbk ?_;refine Zab ?_;refine Zj ?_;refine Calls.mono (Qq6 k n s a _ w6 (fun w' h=>hG w' (hS.ext.trans h)) (hsl.below hS.ext.below) hrr.1 hrr.2.1 Ya Ya) ?_;rintro _ w7 ⟨rfl,hb7⟩;refine Za ?_;replace hS:=hS.grow hb7;refine Zi ?_;refine Calls.mono (Qdt _ B6 ((Qb4 0 D++[32])++Lib.itoa (D.length:Nat)++[61]) (Qhh false (.cons k n ⟨s.toArray⟩ a .nil)) O6 _ (.inr rfl) hB6 Yj (hS.perm (QdY _ _ _ _))) ?_;rintro _ w8 ⟨B8,O8,rfl,hB8,hS'⟩;refine Za ?_;replace hS:=hS';clear hS';replace hS:=(hS.perm (QdY _ _ _ _).symm).drop;refine ZaA ?_;refine ih (R) _ _ _ ?_ ?_ Yb Yc
  ·simp [Ts.length]
  ·refine ⟨D.app (.cons k n ⟨s.toArray⟩ a .nil),_,B8,O8,by rw [Ts.app_assoc];exact hD,by rw [Ts.length_app];simp [Ts.length],.inr rfl,?_,hS⟩;rw [Qkk,Nat.zero_add,Qs3];simpa using hB8
section
variable {P:Program} {n:Nat} {e:Env} {w:World} {ty:TypeId} {pos:String} {after:Array Edge} {x y:Operand} {dst:Option Nat} {t:TypeId} {b o:Nat}
def Qut (P:Program) (t:TypeId):Option (Nat×TypeId):=match P.underlying t with|some (.array n el)=>some (n,el)|_=>none
theorem QlH {el sz len:Nat} {i:Int} (hx:ev n e x= .pointer (some ⟨b,o,none⟩)) (hy:ev n e y= .int .i64 i) (hT:Qut P t=some (len,el)) (hs:QaL P el=some sz) (h0:0≤i) (h1:i<len):
  (execOp (ev n e) ⟨dst,.indexAddr t x y,ty,pos,after,none⟩).run P w= .ok (.value (.pointer (some ⟨b,o+i.toNat*sz,none⟩))) w:=by
 have hu:P.underlying t=some (.array len el):=by
  unfold Qut at hT;split at hT
  ·rename_i h;simp only [Option.some.injEq,Prod.mk.injEq] at hT;rw [h,hT.1,hT.2]
  ·cases hT
 have h2:=run_underlying hu w;have h3:=Qah (w:=w) hs;simp only [execOp,Instr.indexAt,Instr.sureAddr,hx,hy,asIntOf,bind,pure,Sem.bind];rw [Sem.run_bind',Sem.run_bind',h2];simp only [Result.andThen_ok,Sem.bind];rw [Sem.run_bind',h2];simp only [Result.andThen_ok,if_pos (And.intro h0 h1)];rw [Sem.run_bind',h3];simp only [Result.andThen_ok,Qae,Sem.run]
end
end Go.Proofs.YthliapbflkfdiacGreatDoor
