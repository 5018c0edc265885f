/- RWalk2, RLib, Rd, RWalk3, RWalk4, Named, IsName, Copy: texts that follow one another, laid into one file. -/
import Derived.Test.YthliapbflkfdiacGreatDoorZ0
import Derived.Test.YthliapbflkfdiacGreatDoorG1
import Derived.Test.YthliapbflkfdiacGreatDoorG0
import Derived.Test.YthliapbflkfdiacGreatDoorRows
import Derived.Deep.LoopGhost
import Derived.Ground.NamesProg
import Derived.Shelf.Strings.SlTrimAscii
import Derived.Lib.Hide
namespace Go.Proofs.YthliapbflkfdiacGreatDoor
open Go.RowKit
set_option linter.unusedVariables false
set_option maxRecDepth 100000
set_option maxHeartbeats 1000000
abbrev rdr (s:RS) (V:Value):Obj:= .cells [sv s.token,sv s.rest,V,.int .i64 s.err].toArray 77
abbrev ptr (b:Nat):Value:= .pointer (some ⟨b,0,none⟩)
section
variable {M:List Nat} {w0:World} {H:List (Nat×Obj)} {F:List (World→Prop)} {b:Nat} {A:Option Addr} {vl vc:Nat}
theorem QcP (s:RS) (x:Int) (w:World) (hS:St M w0 ((b,rdr s (.slice A vl vc))::H) F w):
  Calls Tryz.prog 42 #[ptr b,.int .i64 x] w fun e w'=>e= .returned (.tuple #[])∧St M w0 ((b,rdr (s.fail x) (.slice A vl vc))::H) F w':=by
 refine Qf Tryz.func42 rfl Tryz.ntmps42 rfl ?_;refine ZaS ?_;refine Zq ?_;refine Zb ?_;refine QcA rfl (fun h=> ?_) (fun h=> ?_)
 ·have h':s.err=0:=by simpa using h
  refine Z8 ?_;refine ZY ?_;refine Zd2 ?_;clear hS;intro wx1 hS;refine Zd3 ?_;refine ZaM ?_;refine ZA ?_;clear hS;intro wx2 hS;refine Zbt ?_;clear hS;intro wx3 hS;refine Zb ?_;refine QC Tryz.func42 rfl ?_;refine ⟨rfl,?_⟩;show St M w0 ((b,rdr ⟨[],[],s.vars,if s.err=0 then x else s.err⟩ _)::H) F _;rw [if_pos h'];exact hS
 ·have h':¬s.err=0:=by simpa using h
  refine Za9 ?_;refine Z8 ?_;refine ZaM ?_;refine ZA ?_;clear hS;intro wx1 hS;refine Zbt ?_;clear hS;intro wx2 hS;refine Zb ?_;refine QC Tryz.func42 rfl ?_;refine ⟨rfl,?_⟩;show St M w0 ((b,rdr ⟨[],[],s.vars,if s.err=0 then x else s.err⟩ _)::H) F _;rw [if_neg h'];exact hS
def Qqk:Prop:=∀(l:Str) (w:World),l.length≤1048576→Calls Tryz.prog 112 #[sv l,sv [32,10,13,9]] w fun e w'=>e= .returned (sv (Qcd l))∧Below w.heap.size w w'
theorem Qfe (L1:Qqe) (L2:Qqk) (s:RS) (w:World) (hl:s.rest.length≤1048576) (hS:St M w0 ((b,rdr s (.slice A vl vc))::H) F w):
  Calls Tryz.prog 71 #[ptr b] w fun e w'=>e= .returned (.tuple #[])∧St M w0 ((b,rdr s.adv (.slice A vl vc))::H) F w':=by
 have h1:=Qn7 s.rest;have h2:=Qlu (Qcd s.rest);refine Qh Tryz.func71 rfl Tryz.ntmps71 rfl ?_;refine Zd4 ?_;refine Zi ?_;refine Calls.mono (L2 s.rest _ hl) ?_;rintro _ w1 ⟨rfl,hb1⟩;refine Za ?_;replace hS:=hS.grow hb1;refine Z4 ?_;by_cases h0:Qac (Qcd s.rest)=0
 ·refine Zj ?_;refine Calls.mono (QdM L1 (Qcd s.rest) _ Ya) ?_;rintro _ w2 ⟨rfl,rfl⟩;refine Za ?_;refine ZZ ?_;refine Zq ?_;refine ZI ?_;refine Zbe ?_;refine Zr ?_;refine Zb ?_;refine QcA rfl (fun h=> ?_) (fun h=> ?_)
  ·have h':Qcd s.rest≠[]:=by simpa using h
   refine ZbR ?_;refine ZcR ?_;rintro _ w3 ⟨rfl,hS'⟩;refine Za ?_;replace hS:=hS';clear hS';refine Zb ?_;refine Qmp Tryz.func71 rfl  ?_;refine ⟨rfl,?_⟩
   have e:s.adv=s.fail 1:=by simp only [RS.adv];rw [if_pos ⟨h0,h'⟩]
   rw [e];exact hS
  ·have h':Qcd s.rest=[]:=by simpa using h
   refine Za9 ?_;refine ZgY ?_;replace hS:=hS.drew;refine Z0 ?_;refine Z0 ?_;refine ZgZ ?_;refine Z0 ?_;refine Zg0 ?_;refine Zaa ?_;refine ZaC ?_;refine Zp ?_;refine ZA ?_;clear hS;intro wx1 hS;refine QaW trivial ?_;refine Zaa ?_;refine Zcq ?_;refine Zaz ?_;clear hS;intro wx2 hS;refine Zb ?_;refine QC Tryz.func71 rfl ?_;refine ⟨rfl,?_⟩
   have e:s.adv=⟨(Qcd s.rest).take (Qac (Qcd s.rest)),(Qcd s.rest).drop (Qac (Qcd s.rest)),s.vars,s.err⟩:=by simp only [RS.adv];rw [if_neg (fun h=>h.2 h')]
   rw [e];exact hS
 ·refine Zj ?_;refine Calls.mono (QdM L1 (Qcd s.rest) _ Ya) ?_;rintro _ w2 ⟨rfl,rfl⟩;refine Za ?_;refine ZZ ?_;refine Zq ?_;refine Za0 ?_;refine Z2 ?_;refine ZgY ?_;replace hS:=hS.drew;refine Z0 ?_;refine Z0 ?_;refine ZgZ ?_;refine Z0 ?_;refine Zg0 ?_;refine Zaa ?_;refine ZaC ?_;refine Zp ?_;refine ZA ?_;clear hS;intro wx1 hS;refine QaW trivial ?_;refine Zaa ?_;refine Zcq ?_;refine Zaz ?_;clear hS;intro wx2 hS;refine Zb ?_;refine QC Tryz.func71 rfl ?_;refine ⟨rfl,?_⟩
  have e:s.adv=⟨(Qcd s.rest).take (Qac (Qcd s.rest)),(Qcd s.rest).drop (Qac (Qcd s.rest)),s.vars,s.err⟩:=by simp only [RS.adv];rw [if_neg (fun h=>h0 h.1)]
  rw [e];exact hS
theorem Qg9 (L1:Qqe) (L2:Qqk) (s:RS) (tok:Str) (w:World) (hl:s.rest.length≤1048576) (hS:St M w0 ((b,rdr s (.slice A vl vc))::H) F w):
  Calls Tryz.prog 44 #[ptr b,sv tok] w fun e w'=>e= .returned (.tuple #[])∧St M w0 ((b,rdr (s.take tok) (.slice A vl vc))::H) F w':=by
 refine Qf Tryz.func44 rfl Tryz.ntmps44 rfl ?_;refine Zc6 ?_;refine ZbM ?_;refine Zbe ?_;refine Zb ?_;refine QcA rfl (fun h=> ?_) (fun h=> ?_)
 ·have h':¬s.token=tok:=by simpa using h
  refine ZP ?_;refine Zi ?_;refine ZcR ?_;rintro _ w3 ⟨rfl,hS'⟩;refine Za ?_;replace hS:=hS';clear hS';refine Zdb ?_;refine Zj ?_;refine Calls.mono (Qfe L1 L2 (s.fail 1) _ (by simp [RS.fail]) hS) ?_;rintro _ w4 ⟨rfl,hS'⟩;refine Za ?_;replace hS:=hS';clear hS';refine Zb ?_;refine QC Tryz.func44 rfl ?_;refine ⟨rfl,?_⟩
  have e:s.take tok=(s.fail 1).adv:=by simp only [RS.take];rw [if_neg h']
  rw [e];exact hS
 ·have h':s.token=tok:=by simpa using h
  refine Za9 ?_;refine ZP ?_;refine Zj ?_;refine Calls.mono (Qfe L1 L2 s _ hl hS) ?_;rintro _ w4 ⟨rfl,hS'⟩;refine Za ?_;replace hS:=hS';clear hS';refine Zb ?_;refine QC Tryz.func44 rfl ?_;refine ⟨rfl,?_⟩
  have e:s.take tok=s.adv:=by simp only [RS.take];rw [if_pos h']
  rw [e];exact hS
def RS.start (l:Str):RS:=if 2000<l.length then (RS.fail ⟨[],l,[],0⟩ 3).adv else (RS.adv ⟨[],l,[],0⟩)
theorem QfE (L1:Qqe) (L2:Qqk) (l:Str) (w:World) (hl:l.length≤1125899906842624) (hS:St M w0 H F w):
  Calls Tryz.prog 40 #[sv l] w fun e w'=>∃b,e= .returned (ptr b)∧St M w0 ((b,rdr (RS.start l) (.slice none 0 0))::H) F w':=by
 by_cases h:2000<l.length
 ·have e:RS.start l=(RS.fail ⟨[],l,[],0⟩ 3).adv:=by simp only [RS.start];rw [if_pos h]
  rw [e];refine Qh Tryz.func40 rfl Tryz.ntmps40 rfl ?_;refine Zbv ?_;refine Qa (QH (cells:=[_,_,_,_]) (.cons Yb .nil) rfl) rfl ?_;refine Zaw ?_;clear hS;intro b1 wx1 hS;refine ZZ ?_;refine Zbn ?_;refine Zao ?_;refine Zdc ?_;refine Zi ?_;refine Calls.mono (QcP ⟨[],l,[],0⟩ 3 _ hS) ?_;rintro _ w3 ⟨rfl,hS'⟩;refine Za ?_;replace hS:=hS';clear hS';refine Zb ?_;refine ZC ?_;refine Calls.mono (Qfe L1 L2 (RS.fail ⟨[],l,[],0⟩ 3) _ (by simp [RS.fail]) hS) ?_;rintro _ w4 ⟨rfl,hS'⟩;refine Za ?_;replace hS:=hS';clear hS';refine Zdd ?_;refine Qd Tryz.func40 rfl Yb ?_;exact ⟨_,rfl,hS⟩
 ·have e:RS.start l=RS.adv ⟨[],l,[],0⟩:=by simp only [RS.start];rw [if_neg h]
  rw [e];refine Qh Tryz.func40 rfl Tryz.ntmps40 rfl ?_;refine Zbv ?_;refine Qa (QH (cells:=[_,_,_,_]) (.cons Yb .nil) rfl) rfl ?_;refine Zaw ?_;clear hS;intro b1 wx1 hS;refine ZZ ?_;refine Zbn ?_;refine Zao ?_;refine Zn ?_;refine ZC ?_;refine Calls.mono (Qfe L1 L2 ⟨[],l,[],0⟩ _ (by show l.length≤1048576;omega) hS) ?_;rintro _ w4 ⟨rfl,hS'⟩;refine Za ?_;replace hS:=hS';clear hS';refine Zdd ?_;refine Qd Tryz.func40 rfl Yb ?_;exact ⟨_,rfl,hS⟩
end
theorem Qid:∀(m l:Str),(decide (m.length≤l.length)&&(l.take m.length==m))=m.isPrefixOf l
 |[],l=>by simp [List.isPrefixOf]
 |c::m,[]=>by simp [List.isPrefixOf]
 |c::m,d::l=>by
  have ih:=Qid m l;simp only [List.isPrefixOf,List.length_cons,List.take_succ_cons,Nat.add_le_add_iff_right];rw [←ih]
  have:(d::l.take m.length==c::m)=((c==d)&&(l.take m.length==m)):=by
   rw [List.cons_beq_cons];congr 1;exact BEq.comm
  rw [this];cases decide (m.length≤l.length)<;>cases (c==d)<;>simp
theorem Qjb (l m:Str) (w:World):Calls Tryz.prog 207 #[sv l,sv m] w fun e w'=>e= .returned (.bool (m.isPrefixOf l))∧w'=w:=by
 have hp:=Qid m l;by_cases h:m.length≤l.length
 ·refine Qf Tryz.func207 rfl Tryz.ntmps207 rfl ?_;refine Zbv ?_;refine Zbn ?_;refine Ze ?_;refine Zbn ?_;refine Z6 ?_;refine ZI ?_;refine ZD ?_;refine Zbn ?_;refine Zx ?_;refine Qa (QgJ rfl rfl rfl Ya (by first|omega|(simp;done)|(simp;omega))) rfl ?_;refine Z9 ?_;refine Zaf ?_;refine Z3 ?_;refine Qd Tryz.func207 rfl Yb ?_;rw [←hp,decide_eq_true h];exact ⟨rfl,rfl⟩
 ·refine Qf Tryz.func207 rfl Tryz.ntmps207 rfl ?_;refine Zbv ?_;refine Zbn ?_;refine Ze ?_;refine Zbn ?_;refine Z6 ?_;refine Zde ?_;refine Z3 ?_;refine Qd Tryz.func207 rfl Yb ?_;rw [←hp,decide_eq_false h];exact ⟨rfl,rfl⟩
theorem QkS (l m:Str) (w:World):Calls Tryz.prog 173 #[sv l,sv m] w fun e w'=>e= .returned (.bool (m.isPrefixOf l))∧w'=w:=by
 refine Qf Tryz.func173 rfl Tryz.ntmps173 rfl ?_;refine Zk ?_;refine Zat ?_;refine Calls.mono (Qjb l m _) ?_;rintro _ w1 ⟨rfl,rfl⟩;refine Zv ?_;refine Qd Tryz.func173 rfl Yb ?_;exact ⟨rfl,rfl⟩
def Qvi (vs:List Str) (x:Str):Int:=if x∈vs then (QfL vs x:Nat) else -1
theorem QrS {x:Str}:∀{D:List Str} (R:List Str),x∉D→QfL (D++x::R) x=D.length
 |[],R,_=>by simp [QfL]
 |v::D,R,h=>by
  have h1:¬v=x:=fun e=>h (by simp [e]);have h2:x∉D:=fun e=>h (by simp [e]);simp only [List.cons_append,QfL,if_neg h1,List.length_cons];rw [QrS R h2]
section
variable {M:List Nat} {w0:World} {H:List (Nat×Obj)} {F:List (World→Prop)} {b:Nat}
theorem Qmg (vs:List Str) (x:Str) (V:Value) (O:List (Nat×Obj)) (w:World) (hr:Row 9 1 V vs.length (vs.map sv) O) (hS:St M w0 (O++H) F w) (hb:vs.length≤1048576):
  Calls Tryz.prog 174 #[V,sv x] w fun e w'=>e= .returned (.int .i64 (Qvi vs x))∧w'=w:=by
 obtain ⟨A,c,rfl⟩:=hr.form;refine Qf Tryz.func174 rfl Tryz.ntmps174 rfl ?_;refine Zdf ?_;refine Qn 8 (9::10::5::11::12::13::14::15::16::17::4::18::[]) (fun (R:List Str) v w'=>w'=w∧∃D,vs=D++R∧v= .int .i64 (D.length:Nat)∧x∉D) (fun R=>R.length) (vs) ?_ Yb ?_
 ·exact ⟨rfl,[],rfl,rfl,by simp⟩
 rintro R _ w1 jv ⟨rfl,D,hD,rfl,hx⟩ ih;have hlen:vs.length=D.length+R.length:=by rw [hD,List.length_append]
 cases R with
 |nil=>
  simp only [List.length_nil] at hlen;refine Zcd ?_;refine Qd Tryz.func174 rfl Yb ?_;refine ⟨?_,rfl⟩
  have:x∉vs:=by rw [hD,List.append_nil];exact hx
  simp only [Qvi,if_neg this]
 |cons y r=>
  simp only [List.length_cons] at hlen;generalize hxs:vs.map sv=xs at hr;generalize hvl:vs.length=vl at*
  cases hr with
  |nil_=>omega
  |own_ h1 h2 h3 hcp=>
   rename_i bl sp
   have hcell:w1.cell? ⟨bl,0+((D.length:Nat):Int).toNat*1,none⟩=some (sv y):=by
    have hbl:w1.heap[bl]?=some (.cells (xs++sp).toArray 9):=hS.own (bl,_) Yd;rw [Qp hbl,←hxs,hD];simp
   refine ZaT ?_;refine ZcB ?_;refine ZK ?_;refine ZE ?_;refine Zaf ?_;refine Zb ?_;refine QcA rfl (fun h=> ?_) (fun h=> ?_)
   ·obtain rfl:x=y:=by simpa using h
    refine Zar ?_;refine Qd Tryz.func174 rfl Yb ?_;refine ⟨?_,rfl⟩
    have:x∈vs:=by rw [hD];simp
    simp only [Qvi,if_pos this];rw [hD,QrS r hx]
   ·have h':¬x=y:=by simpa using h
    refine Za9 ?_;refine ZbI ?_;refine ih (r) _ _ _ ?_ ?_ Yb Yc
    ·simp
    ·exact ⟨rfl,D++[y],by rw [hD,List.append_assoc];rfl,by simp,by simp [hx,h']⟩
end
section
variable {M:List Nat} {w0 w w':World} {H:List (Nat×Obj)} {F:List (World→Prop)} {v:Value} {T:Ts} {p:Nat→Prop}
theorem St.keys_lt (hS:St M w0 H F w) {k:Nat} (hk:k∈H.map (·.1)):k<w.heap.size:=by
 obtain ⟨q,hq,rfl⟩:=List.mem_map.1 hk;exact QcL (hS.own q hq)
end
abbrev Qo5 (vs:List Str) (V:Value) (VH:List (Nat×Obj)):Prop:=Row 9 1 V vs.length (vs.map sv) VH
section
variable {M:List Nat} {w0:World} {H:List (Nat×Obj)} {F:List (World→Prop)} {b:Nat}
theorem Qll (s:RS) (x:Str) (V:Value) (VH:List (Nat×Obj)) (w:World) (hV:Qo5 s.vars V VH) (hb:s.vars.length≤1048576) (hS:St M w0 ((b,rdr s V)::(VH++H)) F w):
  Calls Tryz.prog 115 #[ptr b,sv x] w fun e w'=>∃V' VH',e= .returned (.int .i64 ((s.var x).1:Nat))∧Qo5 (s.var x).2.vars V' VH'∧St M w0 ((b,rdr (s.var x).2 V')::(VH'++H)) F w':=by
 obtain ⟨A,c,rfl⟩:=hV.form;by_cases hx:x∈s.vars
 ·have hI:Qvi s.vars x=(QfL s.vars x:Nat):=by simp only [Qvi,if_pos hx]
  have e:s.var x=(QfL s.vars x,s):=by simp only [RS.var,if_pos hx]
  have hc:=Qmg s.vars x _ VH w hV hS.drop hb;rw [hI] at hc;rw [e];refine Qf Tryz.func115 rfl Tryz.ntmps115 rfl ?_;refine Zk ?_;refine ZaU ?_;refine Zak ?_;refine Calls.mono (hc) ?_;rintro _ w1 ⟨rfl,rfl⟩;refine Za ?_;refine Zdg ?_;refine Zar ?_;refine Qd Tryz.func115 rfl Yb ?_;exact ⟨_,_,rfl,hV,hS⟩
 ·have hI:Qvi s.vars x= -1:=by simp only [Qvi,if_neg hx]
  have e:s.var x=(s.vars.length,{ s with vars:=s.vars++[x] }):=by simp only [RS.var,if_neg hx]
  have hc:=Qmg s.vars x _ VH w hV hS.drop hb;rw [hI] at hc;rw [e];refine Qf Tryz.func115 rfl Tryz.ntmps115 rfl ?_;refine Zk ?_;refine ZaU ?_;refine Zak ?_;refine Calls.mono (hc) ?_;rintro _ w1 ⟨rfl,rfl⟩;refine Za ?_;refine ZbN ?_;refine ZR ?_;refine ZaU ?_;refine Zy ?_;refine Zd ?_;refine Z8 ?_;refine ZY ?_;refine Z7 ?_;refine Ze ?_;refine ZaZ ?_;clear hS;intro b1 wx1 hS;refine QaN (sz:=1) (bts:=16) hS Yb rfl rfl rfl rfl (hV) rfl rfl (.cons _ List.perm_middle.symm) Ya Ya rfl ?_;clear hS;intro V' VH' w2 hV' hS;replace hS:=hS.raise;obtain ⟨A',c',rfl⟩:=hV'.form;refine Zd5 ?_;refine ZA ?_;clear hS;intro wx2 hS;refine Zdd ?_;refine Qd Tryz.func115 rfl Yb ?_;refine ⟨_,VH',rfl,?_,hS⟩;show Row _ _ _ (s.vars++[x]).length ((s.vars++[x]).map sv) _;rw [List.map_append,List.length_append];exact hV'
def QvB (num : Str → Option Int) (G : World → Prop) : Prop := ∀ (tok : Str) (s : RS) (A : Option Addr) (vl vc : Nat) (M : List Nat) (w0 w : World) (H : List (Nat × Obj)) (F : List (World → Prop)) (b : Nat), (∀ w', Ext M w0 w' → G w') → tok.length ≤ 1048576 → St M w0 ((b, rdr s (.slice A vl vc)) :: H) F w →
    Calls Tryz.prog 119 #[ptr b,sv tok] w fun e w'=>e= .returned (.int .i64 (s.number num tok).1)∧St M w0 ((b,rdr (s.number num tok).2 (.slice A vl vc))::H) F w'
def Qk9 (num : Str → Option Int) (G : World → Prop) (d : Nat) : Prop := ∀ (s : RS) (V : Value) (VH : List (Nat × Obj)) (M : List Nat) (w0 w : World) (H : List (Nat × Obj)) (F : List (World → Prop)) (b : Nat), (∀ w', Ext M w0 w' → G w') →
    s.left≤1048576→s.vars.length+s.left≤1048576→Qo5 s.vars V VH→St M w0 ((b,rdr s V)::(VH++H)) F w→
    Calls Tryz.prog 72 #[ptr b,.int .i64 (d:Nat)] w fun e w'=>∃v V' VH',e= .returned (.agg #[.int .i64 (QA num d s).1.k,.int .i64 (QA num d s).1.n,sv (QA num d s).1.s,v])∧
     Qo5 (QA num d s).2.vars V' VH'∧St M w0 ((b,rdr (QA num d s).2 V')::(VH'++H)) ((fun w=>Sl w (fun _=>True) v (QA num d s).1.ar)::F) w'
def Qf7 (num : Str → Option Int) (G : World → Prop) (d : Nat) : Prop := ∀ (s : RS) (V : Value) (VH : List (Nat × Obj)) (M : List Nat) (w0 w : World) (H : List (Nat × Obj)) (F : List (World → Prop)) (b : Nat), (∀ w', Ext M w0 w' → G w') →
    s.left≤1048576→s.vars.length+s.left≤1048576→Qo5 s.vars V VH→St M w0 ((b,rdr s V)::(VH++H)) F w→
    Calls Tryz.prog 43 #[ptr b,.int .i64 (d:Nat)] w fun e w'=>∃v V' VH',e= .returned v∧
     Qo5 (QQ (QA num d) s).2.vars V' VH'∧St M w0 ((b,rdr (QQ (QA num d) s).2 V')::(VH'++H)) ((fun w=>Sl w (fun _=>True) v (QbG (QQ (QA num d) s).1))::F) w'
theorem Qg6 (s:RS) (x:Str):(s.var x).2.left=s.left∧(s.var x).2.vars.length≤s.vars.length+1:=by
 unfold RS.var RS.left;split
 ·simp
 ·simp
theorem Qcv (num:Str→Option Int) (s:RS) (x:Str):(s.number num x).2.left≤s.left∧(s.number num x).2.vars=s.vars:=by
 unfold RS.number;split
 ·simp
 ·simp [RS.fail,RS.left]
theorem QbR (s:RS):s.adv.vars=s.vars:=by
 unfold RS.adv;simp only;split<;>rfl
theorem QbT (s:RS) (t:Str):(s.take t).vars=s.vars:=by
 unfold RS.take;split
 ·exact QbR s
 ·rw [QbR];rfl
def QvC (f:RS→Nd×RS):Prop:=∀s,(f s).2.left≤s.left∧(f s).2.vars.length+(f s).2.left≤s.vars.length+s.left
theorem Ql9 {f:RS→Nd×RS} (hf:QvC f):∀(n:Nat) (s:RS),(Qa3 f n s).2.left≤s.left∧(Qa3 f n s).2.vars.length+(Qa3 f n s).2.left≤s.vars.length+s.left
 |0,s=>by simp [Qa3]
 |n+1,s=>by
  unfold Qa3;split
  ·rename_i h;have h1:=Qdd s (by rw [h];simp);have h2:=hf s.adv;have h3:=Ql9 hf n (f s.adv).2;rw [QbR] at h2;simp only;omega
  ·simp
theorem Qc0 {f:RS→Nd×RS} (hf:QvC f) (s:RS):(QQ f s).2.left≤s.left∧(QQ f s).2.vars.length+(QQ f s).2.left≤s.vars.length+s.left:=by
 unfold QQ;have h2:=hf s;have h3:=Ql9 hf (f s).2.left (f s).2;simp only;omega
theorem Qa9 (num:Str→Option Int):∀d,QvC (QA num d)
 |0,s=>by simp [QA,RS.fail,RS.left]
 |d+1,s=>by
  unfold QA;split
  ·simp [RS.fail,RS.left]
  ·rename_i ht;have h1:=Qdd s ht;have hv:=QbR s;simp only;split
   ·have:=Qg6 s.adv s.token;rw [hv] at this;simp only;omega
   split
   ·have h4:=take_left s.adv [40];have h5:=QbT s.adv [40];have h6:=Qc0 (Qa9 num d) (s.adv.take [40]);have h7:=take_left (QQ (QA num d) (s.adv.take [40])).2 [41];have h8:=QbT (QQ (QA num d) (s.adv.take [40])).2 [41];rw [h5,hv] at h6;simp only;rw [h8];omega
   split
   ·simp only;rw [hv];omega
   split
   ·have:=Qcv num s.adv s.token;simp only;rw [this.2,hv];omega
   ·simp [RS.fail,RS.left,hv]
theorem QrD {f:RS→Nd×RS} (hf:QvC f):∀(n:Nat) (s:RS),s.left≤n→Qa3 f n s=Qa3 f s.left s:=by
 intro n
 induction n using Nat.strongRecOn with
 |_ n ih=>
  intro s hn;by_cases ht:s.token=[44]
  ·have h1:=Qdd s (by rw [ht];simp);have h2:=hf s.adv
   obtain ⟨m,rfl⟩:∃m,n=m+1:=⟨n-1,by omega⟩
   obtain ⟨l,hl⟩:∃l,s.left=l+1:=⟨s.left-1,by omega⟩
   rw [hl];simp only [Qa3,if_pos ht];rw [ih m Ya (f s.adv).2 Ya,ih l Ya (f s.adv).2 Ya]
  ·have h0:∀k,Qa3 f k s=([],s):=fun k=>by cases k<;>simp [Qa3,ht]
   rw [h0,h0]
theorem Ql8 {f:RS→Nd×RS} (hf:QvC f) {s:RS} (ht:s.token=[44]):Qa3 f s.left s=((f s.adv).1::(Qa3 f (f s.adv).2.left (f s.adv).2).1,(Qa3 f (f s.adv).2.left (f s.adv).2).2):=by
 have h1:=Qdd s (by rw [ht];simp);have h2:=hf s.adv
 obtain ⟨l,hl⟩:∃l,s.left=l+1:=⟨s.left-1,by omega⟩
 rw [hl];simp only [Qa3,if_pos ht];rw [QrD hf l (f s.adv).2 Ya]
theorem Qc4 {f:RS→Nd×RS} {s:RS} (ht:¬s.token=[44]):Qa3 f s.left s=([],s):=by
 cases s.left<;>simp [Qa3,ht]
theorem Qn6:∀(a b:List Nd),QbG (a++b)=(QbG a).app (QbG b)
 |[],b=>rfl
 |x::a,b=>by simp only [List.cons_append,QbG,Ts.app,Qn6 a b]
theorem QeU:∀l:List Nd,(QbG l).length=l.length
 |[]=>rfl
 |x::r=>by simp [QbG,Ts.length,QeU r]
theorem St.conv {φ ψ:World→Prop} {w:World} (h:St M w0 H (φ::F) w) (hp:∀w,φ w→ψ w):St M w0 H (ψ::F) w:=
 ⟨h.own,h.apart,h.ext,h.new,fun χ hχ w2 hw=>by
  rcases List.mem_cons.1 hχ with rfl|hχ
  ·exact hp _ (h.facts φ (List.mem_cons_self ..) w2 hw)
  ·exact h.facts χ (List.mem_cons_of_mem _ hχ) w2 hw⟩
theorem St.conv2 {φ χ ψ:World→Prop} {w:World} (h:St M w0 H (φ::χ::F) w) (hp:∀w,φ w→χ w→ψ w):St M w0 H (ψ::F) w:=
 ⟨h.own,h.apart,h.ext,h.new,fun ξ hξ w2 hw=>by
  rcases List.mem_cons.1 hξ with rfl|hξ
  ·exact hp _ (h.facts φ (List.mem_cons_self ..) w2 hw) (h.facts χ (List.mem_cons_of_mem _ (List.mem_cons_self ..)) w2 hw)
  ·exact h.facts ξ (List.mem_cons_of_mem _ (List.mem_cons_of_mem _ hξ)) w2 hw⟩
theorem St.shut {v:Value} {xs:List Value} {O:List (Nat×Obj)} {T:Ts} {w:World} {el:Nat} (hr:Row el 4 v T.length xs O) (hS:St M w0 (O++H) ((fun w=>Cs w (fun _=>True) T xs)::F) w):
  St M w0 H ((fun w=>Sl w (fun _=>True) v T)::F) w:=by
 have hC:=hS.facts _ (List.mem_cons_self ..);have hb:=(hS.unlearn.dropL).learn (φ:=fun w=>Sl w (fun _=>True) v T) fun w' hx=> ?_
 ·exact hb
 generalize hl:T.length=tl at hr
 cases hr with
 |nil_=>exact ⟨none,0,by rw [hl],by omega,fun h=>by omega⟩
 |own_ h1 h2 h3 hcp=>
  rename_i bl cap sp;have hbl:w.heap[bl]?=some (.cells (xs++sp).toArray el):=hS.own (bl,_) Yd
  have hnk:bl∉H.map (·.1):=fun hk=>by
   obtain ⟨q,hq,e⟩:=List.mem_map.1 hk;exact (List.pairwise_cons.1 hS.apart).1 q hq e.symm
  have hbl':w'.heap[bl]?=some (.cells (xs++sp).toArray el):=by rw [hx.block bl (QcL hbl) hnk];exact hbl
  have hcs:=hC w' (hx.mono fun k _ hk=>by simp at hk⊢;exact .inr hk);refine ⟨_,cap,by rw [hl],by omega,fun _=>⟨bl,0,rfl,Cs.seg hcs (fun _=>trivial) fun j u hj=> ?_⟩⟩
  have hjl:j<xs.length:=by
   rcases Nat.lt_or_ge j xs.length with h|h
   ·exact h
   ·rw [List.getElem?_eq_none h] at hj;cases hj
  rw [Qp hbl',Nat.zero_add,List.getElem?_append_left hjl];exact hj
theorem Qlw (num:Str→Option Int) (G:World→Prop) (L1:Qqe) (L2:Qqk) (d:Nat) (hd:d≤100) (ht:Qk9 num G d):Qf7 num G d:=by
 intro s V VH M w0 w H F b hG hl hl2 hV hS;have hf:=Qa9 num d;obtain ⟨A,c,rfl⟩:=hV.form;refine Qf Tryz.func43 rfl Tryz.ntmps43 rfl ?_;refine Zk ?_;refine Zat ?_;refine Calls.mono (ht s _ VH M w0 _ H F b hG hl hl2 hV hS) ?_;rintro _ w1 ⟨v,V1,VH1,rfl,hV1,hS'⟩;refine Za ?_;replace hS:=hS';clear hS';obtain ⟨A1,c1,rfl,_⟩:=(hS.fact (.head _)).form;refine ZeI ?_;clear hS;intro b1 wx1 hS;refine Zd ?_;refine Zbo ?_;have hi:QQ (QA num d) s=([(QA num d s).1]++(Qa3 (QA num d) (QA num d s).2.left (QA num d s).2).1,(Qa3 (QA num d) (QA num d s).2.left (QA num d s).2).2):=rfl;have hles:=hf s;generalize hr:QA num d s=r at*;obtain ⟨nd,s1⟩:=r
 have hS0:=(St.sink (L:=(b,rdr s1 V1)::VH1) hS).conv (ψ:=fun w=>Cs w (fun _=>True) (QbG [nd]) [.int .i64 nd.k,.int .i64 nd.n,sv nd.s,.slice A1 nd.ar.length c1]) fun w h=>⟨_,[],rfl,h,rfl⟩
 clear hS;have hi':QQ (QA num d) s=([nd]++(Qa3 (QA num d) s1.left s1).1,(Qa3 (QA num d) s1.left s1).2):=hi;clear hi;refine Qn 5 (10::11::12::13::14::15::16::17::18::19::20::21::22::[]) (fun (x:List Nd×RS) v w'=>∃V VH O xs,Qo5 x.2.vars V VH∧Row 63 4 v x.1.length xs O∧St M w0 ((b,rdr x.2 V)::(VH++(O++H))) ((fun w=>Cs w (fun _=>True) (QbG x.1) xs)::F) w'∧x.1.length+x.2.left≤1048577∧x.2.left≤1048576∧x.2.vars.length+x.2.left≤1048576∧QQ (QA num d) s=(x.1++(Qa3 (QA num d) x.2.left x.2).1,(Qa3 (QA num d) x.2.left x.2).2)) (fun x=>x.2.left) (([nd],s1)) ?_ Yb ?_
 ·exact ⟨V1,VH1,_,_,hV1,Row.built rfl Ya,hS0,by simp at hles⊢;omega,by simp at hles⊢;omega,by simp at hles⊢;omega,hi'⟩
 clear hS0 hi' hV1;rintro ⟨D,s2⟩ v2 w2 jv ⟨V2,VH2,O2,xs2,hV2,hR2,hS,hD1,hD2,hD3,hi⟩ ih;simp only at hV2 hR2 hS hD1 hD2 hD3 hi;obtain ⟨A2,c2,rfl⟩:=hV2.form;obtain ⟨Ao,co,rfl⟩:=hR2.form;refine Zc6 ?_;refine ZE ?_;refine Zaf ?_;refine Zb ?_;refine QcA rfl (fun h=> ?_) (fun h=> ?_)
 ·have h':s2.token=[44]:=by simpa using h
  have hlt:=Qdd s2 (by rw [h'];simp)
  have hrest:s2.rest.length≤1048576:=by unfold RS.left at hD2;omega
  have hv:=QbR s2;refine Zbw ?_;refine ZC ?_;refine Calls.mono (Qfe L1 L2 s2 _ hrest hS) ?_;rintro _ w3 ⟨rfl,hS'⟩;refine Za ?_;replace hS:=hS';clear hS';refine Zd3 ?_;refine Zak ?_;refine Calls.mono (ht s2.adv _ VH2 M w0 _ (O2++H) _ b hG Ya (by rw [hv];omega) (by rw [hv];exact hV2) hS) ?_;rintro _ w4 ⟨v,V3,VH3,rfl,hV3,hS'⟩;refine Za ?_;replace hS:=hS';clear hS';obtain ⟨A3,c3,rfl,_⟩:=(hS.fact (.head _)).form;have hst:=Ql8 hf h';have hles3:=hf s2.adv;rw [hv] at hles3;generalize QA num d s2.adv=r3 at*;obtain ⟨nd3,s3⟩:=r3;simp only at*;refine ZeI ?_;clear hS;intro b2 wx2 hS;refine QaN (sz:=4) (bts:=56) hS Yb rfl rfl rfl rfl (hR2) rfl rfl (.cons _ (List.perm_append_comm_assoc (_::VH3) O2 H)) Ya Ya rfl ?_;clear hS;intro v4 O4 w5 hR4 hS
  replace hS:=(hS.perm (List.perm_append_comm_assoc O4 ((b,rdr s3 V3)::VH3) H)).conv2 (ψ:=fun w=>Cs w (fun _=>True) (QbG (D++[nd3])) (xs2++[.int .i64 nd3.k,.int .i64 nd3.n,sv nd3.s,.slice A3 nd3.ar.length c3])) fun w h1 h2=>by
   rw [Qn6];exact Cs.app h2 ⟨_,[],rfl,h1,rfl⟩
  obtain ⟨A4,c4,rfl⟩:=hR4.form;refine Zd ?_;refine Zam ?_;refine ih ((D++[nd3],s3)) _ _ _ ?_ ?_ Yb Yc
  ·simp only;omega
  ·refine ⟨V3,VH3,O4,_,hV3,?_,hS,?_,?_,?_,?_⟩
   ·simp only [List.length_append,List.length_cons,List.length_nil];exact hR4
   ·simp only [List.length_append,List.length_cons,List.length_nil];omega
   ·simp only;omega
   ·simp only;omega
   ·simp only;rw [hi,hst];simp
 ·have h':¬s2.token=[44]:=by simpa using h
  rw [Qc4 h',List.append_nil] at hi;simp only at hi;refine ZbA ?_;refine Zar ?_;refine Qd Tryz.func43 rfl Yb ?_;rw [hi];refine ⟨_,_,VH2,rfl,hV2,?_⟩;have hS2:=hS.perm (List.perm_append_comm_assoc ((b,rdr s2 (.slice A2 s2.vars.length c2))::VH2) O2 H);rw [←QeU D] at hR2;rw [←QeU D];exact St.shut hR2 hS2
end
theorem Qk5 (num:Str→Option Int) (G:World→Prop) (L1:Qqe) (L2:Qqk) (d:Nat) (ht:Qf7 num G d) (s:RS) (V:Value) (VH:List (Nat×Obj)) (M:List Nat) (w0 w:World) (H:List (Nat×Obj)) (F:List (World→Prop)) (b:Nat) (hG:∀w',Ext M w0 w'→G w')
  (hl:s.left≤1048576) (hl2:s.vars.length+s.left≤1048576) (hV:Qo5 s.vars V VH) (hS:St M w0 ((b,rdr s V)::(VH++H)) F w):
  Calls Tryz.prog 117 #[ptr b,.int .i64 (d:Nat)] w fun e w'=>∃v V' VH',e= .returned v∧
   Qo5 ((QQ (QA num d) (s.take [40])).2.take [41]).vars V' VH'∧St M w0 ((b,rdr ((QQ (QA num d) (s.take [40])).2.take [41]) V')::(VH'++H)) ((fun w=>Sl w (fun _=>True) v (QbG (QQ (QA num d) (s.take [40])).1))::F) w':=by
 have hrest:s.rest.length≤1048576:=by unfold RS.left at hl;omega
 have h1:=take_left s [40];have h2:=QbT s [40];have h3:=Qc0 (Qa9 num d) (s.take [40]);obtain ⟨A,c,rfl⟩:=hV.form;refine Qf Tryz.func117 rfl Tryz.ntmps117 rfl ?_;refine Zbv ?_;refine Zi ?_;refine Calls.mono (Qg9 L1 L2 s [40] _ hrest hS) ?_;rintro _ w1 ⟨rfl,hS'⟩;refine Za ?_;replace hS:=hS';clear hS';refine Zb ?_;refine Zat ?_;refine Calls.mono (ht (s.take [40]) _ VH M w0 _ H F b hG Ya (by rw [h2];omega) (by rw [h2];exact hV) hS) ?_;rintro _ w2 ⟨v,V1,VH1,rfl,hV1,hS'⟩;refine Za ?_;replace hS:=hS';clear hS';obtain ⟨A1,c1,rfl⟩:=hV1.form;obtain ⟨A2,c2,rfl,_⟩:=(hS.fact (.head _)).form;refine Z4 ?_
 have hrest2:(QQ (QA num d) (s.take [40])).2.rest.length≤1048576:=by
  have:=h3.1;unfold RS.left at*;omega
 refine Zi ?_;refine Calls.mono (Qg9 L1 L2 _ [41] _ hrest2 hS) ?_;rintro _ w3 ⟨rfl,hS'⟩;refine Za ?_;replace hS:=hS';clear hS';refine Zdd ?_;refine Qd Tryz.func117 rfl Yb ?_;exact ⟨_,_,VH1,rfl,by rw [QbT];exact hV1,hS⟩
theorem QaU (num:Str→Option Int) (d:Nat) {s:RS} {c:UInt8} {r:Str} (h:s.token=c::r):QA num (d+1) s=
  if upB c then (⟨0,(s.adv.var (c::r)).1,[],.nil⟩,(s.adv.var (c::r)).2)
  else if Qd2 c&&(s.adv.token==[40]) then (⟨3,0,c::r,QbG (QQ (QA num d) (s.adv.take [40])).1⟩,(QQ (QA num d) (s.adv.take [40])).2.take [41])
  else if Qd2 c||(c==33) then (⟨1,0,c::r,.nil⟩,s.adv)
  else if QbE c||(c==45) then (⟨2,(s.adv.number num (c::r)).1,[],.nil⟩,(s.adv.number num (c::r)).2)
  else (Nd.zero,s.adv.fail 1):=by
 rw [QA,if_neg (by rw [h];simp)];simp only [h,QeH]
theorem Qn9 (num : Str → Option Int) (G : World → Prop) (L1 : Qqe) (L2 : Qqk) (L3 : QvB num G) (d : Nat) (hd : d ≤ 100) (ht : ∀ e, d = e + 1 → Qf7 num G e) : Qk9 num G d := by
 intro s V VH M w0 w H F b hG hl hl2 hV hS;obtain ⟨A,vc,rfl⟩:=hV.form
 have hnil:∀w:World,Sl w (fun _=>True) (.slice none 0 0) .nil:=fun w=>⟨none,0,rfl,Nat.le_refl _,fun h=>by cases h⟩
 cases d with
 |zero=>
  refine Qf Tryz.func72 rfl Tryz.ntmps72 rfl ?_;refine Zg ?_;refine Zw ?_;clear hS;intro b1 wx1 hS;refine Zdh ?_;refine Zq ?_;refine Zaj ?_;refine ZaO ?_;refine ZaI ?_;refine Zm ?_;replace hS:=hS.swap;refine Zi ?_;refine ZcR ?_;rintro _ w1 ⟨rfl,hS'⟩;refine Za ?_;replace hS:=hS';clear hS';refine ZaV ?_;refine Zby ?_;clear hS;intro wx2 hS;refine Zce ?_;exact ⟨.slice none 0 0,_,VH,rfl,hV,hS.swap.drop.learn fun w _=>hnil w⟩
 | succ d =>
  obtain ⟨tok,rst,vars,er⟩:=s
  cases tok with
  |nil=>
   refine Qf Tryz.func72 rfl Tryz.ntmps72 rfl ?_;refine Zg ?_;refine Zw ?_;clear hS;intro b1 wx1 hS;refine Zdh ?_;refine Zq ?_;refine Zdi ?_;refine Zd6 ?_;refine Zaf ?_;refine ZaI ?_;refine Zm ?_;replace hS:=hS.swap;refine Zi ?_;refine Calls.mono (QcP ⟨[],rst,vars,er⟩ 1 _ hS) ?_;rintro _ w1 ⟨rfl,hS'⟩;refine Za ?_;replace hS:=hS';clear hS';refine ZaV ?_;refine Zby ?_;clear hS;intro wx2 hS;refine Zce ?_;exact ⟨.slice none 0 0,_,VH,rfl,hV,hS.swap.drop.learn fun w _=>hnil w⟩
  | cons c r =>
   generalize hs:(⟨c::r,rst,vars,er⟩:RS)=s at*;have htk:s.token=c::r:=by rw [←hs]
   have hhd:QeH s.token=c:=by rw [htk];rfl
   have hne:¬s.token=[]:=by rw [htk];simp
   have hlt:=Qdd s hne
   have hrest:s.rest.length≤1048576:=by unfold RS.left at hl;omega
   have hv:=QbR s;have hvl:=Qg6 s.adv (c::r)
   have hV1:Qo5 s.adv.vars (.slice A s.vars.length vc) VH:=by rw [hv];exact hV
   subst hs;refine Qf Tryz.func72 rfl Tryz.ntmps72 rfl ?_;refine Zg ?_;refine Zw ?_;clear hS;intro b1 wx1 hS;refine Zdh ?_;refine Zq ?_;refine Zdi ?_;refine Zd6 ?_;refine Zaf ?_;refine Z2 ?_;refine ZdX ?_;refine Z4 ?_;replace hS:=hS.sink1;refine Zj ?_;refine Calls.mono (Qfe L1 L2 ⟨c::r,rst,vars,er⟩ _ hrest hS) ?_;rintro _ w1 ⟨rfl,hS'⟩;refine Za ?_;replace hS:=hS';clear hS';refine Zdh ?_;refine Zcs ?_;refine Zd ?_;refine Zb3 ?_;refine ZC ?_;refine Calls.mono (Qio c _) ?_;rintro _ w2 ⟨rfl,rfl⟩;refine Zv ?_;generalize hs:(⟨c::r,rst,vars,er⟩:RS)=s at*;rw [htk]
   cases hu:upB c with
   |true=>
    have e:QA num (d+1) s=(⟨0,(s.adv.var (c::r)).1,[],.nil⟩,(s.adv.var (c::r)).2):=by
     rw [QaU num d htk];simp [*]
    refine ZaF ?_;refine Zat ?_;refine Calls.mono (Qll s.adv (c::r) _ VH _ hV1 (by rw [hv];omega) hS) ?_;rintro _ w3 ⟨V',VH',rfl,hV',hS'⟩;refine Za ?_;replace hS:=hS'.raise1;clear hS';refine ZcF ?_;clear hS;intro wx2 hS;refine Zce ?_;rw [e];exact ⟨.slice none 0 0,V',VH',rfl,hV',hS.drop.learn fun w _=>hnil w⟩
   |false=>
    refine Zb2 ?_;refine ZC ?_;refine Calls.mono (QbM c _) ?_;rintro _ w3 ⟨rfl,rfl⟩;refine Za ?_;refine Ze ?_
    cases hlo:Qd2 c with
    |true=>
     refine Z9 ?_;refine Zia ?_;refine Zd6 ?_;refine Zaf ?_;refine Z3 ?_;refine QcA rfl (fun h=> ?_) (fun h=> ?_)
     ·have h':(s.adv.token==[40])=true:=h
      have e:QA num (d+1) s=(⟨3,0,c::r,QbG (QQ (QA num d) (s.adv.take [40])).1⟩,(QQ (QA num d) (s.adv.take [40])).2.take [41]):=by
       rw [QaU num d htk];simp [*]
      refine ZcB ?_;refine Zbl ?_;refine Zi ?_;have ha:=Qk5 num G L1 L2 d (ht d rfl) s.adv _ VH M w0 _ _ F b hG Ya (by rw [hv];omega) hV1 hS;rw [show ((d:Nat):Int)=((d+1:Nat):Int)-1 by omega] at ha;refine Calls.mono ha ?_;rintro _ w4 ⟨v,V',VH',rfl,hV',hS'⟩;refine Za ?_;replace hS:=hS'.raise1;clear hS';obtain ⟨A2,c2,rfl,_⟩:=(hS.fact (.head _)).form;refine Zg1 ?_;refine Zc ?_;clear hS;intro wx2 hS;refine Zce ?_;rw [e];exact ⟨_,V',VH',rfl,hV',hS.drop⟩
     ·have h':(s.adv.token==[40])=false:=h
      have e:QA num (d+1) s=(⟨1,0,c::r,.nil⟩,s.adv):=by
       rw [QaU num d htk];simp [*]
      replace hS:=hS.raise1;refine ZC ?_;refine Calls.mono (QbM c _) ?_;rintro _ w4 ⟨rfl,rfl⟩;refine Za ?_;refine Ze ?_;rw [hlo];refine Zah ?_;refine ZcG ?_;refine Zm ?_;refine ZcF ?_;clear hS;intro wx2 hS;refine Zce ?_;rw [e];exact ⟨.slice none 0 0,_,VH,rfl,hV1,hS.drop.learn fun w _=>hnil w⟩
    |false=>
     refine Zah ?_;refine Zah ?_;refine ZbQ ?_;refine ZaH ?_;refine ZC ?_;refine Calls.mono (QbM c _) ?_;rintro _ w4 ⟨rfl,rfl⟩;refine Za ?_;refine Ze ?_;rw [hlo];by_cases h33:c=33
     ·have hc33:(c==33)=true:=by simp [h33]
      have e:QA num (d+1) s=(⟨1,0,c::r,.nil⟩,s.adv):=by
       rw [QaU num d htk];simp only [hu,hlo,hc33];rfl
      replace hS:=hS.raise1
      have h33':((c.toNat:Nat):Int)=33:=by rw [h33];rfl
      refine Z9 ?_;refine Zq ?_;refine ZcG ?_;refine Zm ?_;refine ZcF ?_;clear hS;intro wx2 hS;refine Zce ?_;rw [e];exact ⟨.slice none 0 0,_,VH,rfl,hV1,hS.drop.learn fun w _=>hnil w⟩
     ·have h33':((c.toNat:Nat):Int)≠33:=fun h=>h33 (QuX (n:=33) Ya);refine Z9 ?_;refine Zq ?_;refine Zr ?_;refine ZaH ?_;refine ZC ?_;refine Calls.mono (Qdo c _) ?_;rintro _ w5 ⟨rfl,rfl⟩;refine Za ?_;refine Ze ?_
      cases hdg:QbE c with
      |true=>
       have e:QA num (d+1) s=(⟨2,(s.adv.number num (c::r)).1,[],.nil⟩,(s.adv.number num (c::r)).2):=by
        rw [QaU num d htk];simp [hu,hlo,h33,hdg]
       refine Zah ?_;refine ZcG ?_;refine Zat ?_;refine Zg2 ?_;rintro _ w6 ⟨rfl,hS'⟩;refine Za ?_;replace hS:=hS';clear hS';replace hS:=hS.raise1;refine ZcF ?_;clear hS;intro wx2 hS;refine Zce ?_;rw [e];exact ⟨.slice none 0 0,_,VH,rfl,by rw [(Qcv num s.adv (c::r)).2];exact hV1,hS.drop.learn fun w _=>hnil w⟩
      |false=>
       by_cases h45:c=45
       ·have h45':((c.toNat:Nat):Int)=45:=by rw [h45];rfl
        have e:QA num (d+1) s=(⟨2,(s.adv.number num (c::r)).1,[],.nil⟩,(s.adv.number num (c::r)).2):=by
         have hc33:(c==33)=false:=by simp [h33]
         have hc45:(c==45)=true:=by simp [h45]
         rw [QaU num d htk];simp only [hu,hlo,hdg,hc33,hc45];rfl
        refine Z9 ?_;refine Zq ?_;refine ZcG ?_;refine Zat ?_;refine Zg2 ?_;rintro _ w6 ⟨rfl,hS'⟩;refine Za ?_;replace hS:=hS';clear hS';replace hS:=hS.raise1;refine ZcF ?_;clear hS;intro wx2 hS;refine Zce ?_;rw [e];exact ⟨.slice none 0 0,_,VH,rfl,by rw [(Qcv num s.adv (c::r)).2];exact hV1,hS.drop.learn fun w _=>hnil w⟩
       ·have h45':((c.toNat:Nat):Int)≠45:=fun h=>h45 (QuX (n:=45) Ya)
        have e:QA num (d+1) s=(Nd.zero,s.adv.fail 1):=by
         rw [QaU num d htk];simp [hu,hlo,h33,hdg,h45]
        refine Z9 ?_;refine Zq ?_;refine Zr ?_;refine ZaH ?_;refine Zbx ?_;refine ZbR ?_;refine Calls.mono (QcP s.adv 1 _ hS) ?_;rintro _ w6 ⟨rfl,hS'⟩;refine Za ?_;replace hS:=hS';clear hS';replace hS:=hS.raise1;refine ZaV ?_;refine Zby ?_;clear hS;intro wx2 hS;refine Zce ?_;rw [e];exact ⟨.slice none 0 0,_,VH,rfl,hV1,hS.drop.learn fun w _=>hnil w⟩
theorem QhK (num:Str→Option Int) (G:World→Prop) (L1:Qqe) (L2:Qqk) (L3:QvB num G):∀d,d≤100→Qk9 num G d
 |0,hd=>Qn9 num G L1 L2 L3 0 hd fun e h=>by cases h
 |d+1,hd=>Qn9 num G L1 L2 L3 (d+1) hd fun e h=>by cases h;exact Qlw num G L1 L2 d Ya (QhK num G L1 L2 L3 d Ya)
theorem Qjp (num:Str→Option Int) (G:World→Prop) (L1:Qqe) (L2:Qqk) (L3:QvB num G) (d:Nat) (hd:d≤100):Qf7 num G d:=Qlw num G L1 L2 d hd (QhK num G L1 L2 L3 d hd)
def Qd1 (c:UInt8):Bool:=decide (97≤c.toNat)&&decide (c.toNat≤122)
def QeE (s:ByteArray):Bool:=decide (s.data.toList=[33])||(decide (1≤s.size)&&decide (s.size≤8)&&s.data.toList.all Qd1)
theorem Qmb (s:ByteArray) (k:Nat) (h:k<s.size):s.data.toList.take (k+1)=s.data.toList.take k++[s[k]]:=
 List.take_succ_eq_append_getElem (l:=s.data.toList) (i:=k) (by simpa using h)
theorem QmJ {s:ByteArray} {k:Nat} {c:UInt8} (h:s.data.toList.take (k+1)=s.data.toList.take k++[c]) (hc:Qd1 c=false):s.data.toList.all Qd1=false:=by
 have e:s.data.toList=s.data.toList.take (k+1)++s.data.toList.drop (k+1):=(List.take_append_drop _ _).symm;rw [e,List.all_append,h,List.all_append];simp [hc]
set_option maxHeartbeats 400000 in
theorem QlX (s:ByteArray) (w:World):Calls Tryz.prog 184 #[.string s] w fun e w'=>e= .returned (.bool (QeE s))∧w=w':=by
 by_cases h0:s.data.toList=[33]
 ·have r:QeE s=true:=by simp [QeE,h0]
  have h1:s.toList=[33]:=by rw [ByteArray.toList_eq];exact h0
  rw [r];clear r h0;go_enter Tryz.func184,Tryz.ntmps184;go_wp2_with fail;go_ret;exact ⟨rfl,rfl⟩
 have h1:(s.toList==[33])=false:=by rw [ByteArray.toList_eq];simpa using h0
 by_cases h2:s.size<1
 ·have r:QeE s=false:=by simp [QeE,h0];omega
  rw [r];clear r h0;go_enter Tryz.func184,Tryz.ntmps184;go_wp2_with fail;go_ret;exact ⟨rfl,rfl⟩
 by_cases h3:8<s.size
 ·have r:QeE s=false:=by simp [QeE,h0];omega
  rw [r];clear r h0;go_enter Tryz.func184,Tryz.ntmps184;go_wp2_with fail;go_ret;exact ⟨rfl,rfl⟩
 have r:QeE s=s.data.toList.all Qd1:=by
  have a:1≤s.size:=by omega
  have b:s.size≤8:=by omega
  simp [QeE,h0,a,b]
 have R:=Lib.hid r;clear r h0;go_enter Tryz.func184,Tryz.ntmps184;go_wp2_with fail;go_loopg [16] s.size (fun g i wr=>w=wr∧∃k:Nat,k≤s.size∧g=s.size-k∧i= .int .i64 k∧(s.data.toList.take k).all Qd1=true)
 case atStart=>exact ⟨rfl,0,Nat.zero_le _,rfl,rfl,rfl⟩
 case round=>
  obtain ⟨rfl,k,hk,hg,rfl,ha⟩:=hrel;have HA:=Lib.hid ha;have HG:=Lib.hid hg;clear ha hg;by_cases hlt:k<s.size
  ·have hts:=Qmb s k hlt;have hbig:=s[k].toNat_lt;by_cases hlo:(s[k].toNat:Int)<97
   ·have hf:=Lib.hid (QmJ hts (show Qd1 s[k]=false by simp [Qd1];omega));clear hts;go_wp2_with fail;go_ret;exact ⟨by rw [R.out,hf.out];rfl,rfl⟩
   by_cases hhi:(122:Int)<(s[k].toNat:Int)
   ·have hf:=Lib.hid (QmJ hts (show Qd1 s[k]=false by simp [Qd1];omega));clear hts;go_wp2_with fail;go_ret;exact ⟨by rw [R.out,hf.out];rfl,rfl⟩
   ·have hf:Hid ((s.data.toList.take (k+1)).all Qd1=true):=Lib.hid (by
     rw [hts,List.all_append,HA.out]
     simp [Qd1];omega)
    clear hts;go_wp2_with fail;go_roundg (s.size-(k+1))
    case measure=>rw [HG.out];omega
    case rel=>exact ⟨rfl,k+1,by omega,rfl,rfl,hf.out⟩
  ·go_wp2_with fail;go_ret;refine ⟨?_,rfl⟩;have h4:=HA.out;rw [List.take_of_length_le Yh] at h4;rw [R.out,h4];rfl
end Go.Proofs.YthliapbflkfdiacGreatDoor
namespace Go.Proofs
open Go.Shelf
def Tryz.lays160_ren:Go.Shelf.Ren:=⟨fun|160=>225|232=>241|231=>168|227=>169|234=>242|233=>170|236=>243|235=>171|228=>204|271=>252|151=>206|197=>205|120=>255|152=>232|260=>231|137=>129|119=>246|224=>247|225=>248|217=>182|266=>213|n=>n,fun|9=>9|4=>4|3=>3|5=>5|117=>233|116=>232|0=>0|124=>236|21=>21|105=>262|46=>276|119=>286|139=>289|138=>288|n=>n,fun|3=>3|4=>4|n=>n⟩
theorem Tryz.lays160:Go.Proofs.Lays.n160 Tryz.prog Tryz.lays160_ren:={
 mixed:=by kernel_rfl
 f119:=Tryz.func246.trans (congrArg some (by kernel_rfl))
 f120:=Tryz.func255.trans (congrArg some (by kernel_rfl))
 f137:=Tryz.func129.trans (congrArg some (by kernel_rfl))
 f151:=Tryz.func206.trans (congrArg some (by kernel_rfl))
 f152:=Tryz.func232.trans (congrArg some (by kernel_rfl))
 f160:=Tryz.func225.trans (congrArg some (by kernel_rfl))
 f197:=Tryz.func205.trans (congrArg some (by kernel_rfl))
 f217:=Tryz.func182.trans (congrArg some (by kernel_rfl))
 f224:=Tryz.func247.trans (congrArg some (by kernel_rfl))
 f225:=Tryz.func248.trans (congrArg some (by kernel_rfl))
 f227:=Tryz.func169.trans (congrArg some (by kernel_rfl))
 f228:=Tryz.func204.trans (congrArg some (by kernel_rfl))
 f231:=Tryz.func168.trans (congrArg some (by kernel_rfl))
 f232:=Tryz.func241.trans (congrArg some (by kernel_rfl))
 f233:=Tryz.func170.trans (congrArg some (by kernel_rfl))
 f234:=Tryz.func242.trans (congrArg some (by kernel_rfl))
 f235:=Tryz.func171.trans (congrArg some (by kernel_rfl))
 f236:=Tryz.func243.trans (congrArg some (by kernel_rfl))
 f260:=Tryz.func231.trans (congrArg some (by kernel_rfl))
 f266:=Tryz.func213.trans (congrArg some (by kernel_rfl))
 f271:=Tryz.func252.trans (congrArg some (by kernel_rfl))
 t0:=Tryz.underlying0
 a0:=Tryz.isAgg0
 z0:=Tryz.sizeOf0
 v0:=Tryz.zeroValue0
 t3:=Tryz.underlying3
 a3:=Tryz.isAgg3
 z3:=Tryz.sizeOf3
 v3:=Tryz.zeroValue3
 t4:=Tryz.underlying4
 a4:=Tryz.isAgg4
 z4:=Tryz.sizeOf4
 v4:=Tryz.zeroValue4
 t5:=Tryz.underlying5
 a5:=Tryz.isAgg5
 z5:=Tryz.sizeOf5
 v5:=Tryz.zeroValue5
 t9:=Tryz.underlying9
 a9:=Tryz.isAgg9
 z9:=Tryz.sizeOf9
 v9:=Tryz.zeroValue9
 t21:=Tryz.underlying21
 a21:=Tryz.isAgg21
 z21:=Tryz.sizeOf21
 v21:=Tryz.zeroValue21
 t46:=Tryz.underlying276
 a46:=Tryz.isAgg276
 z46:=Tryz.sizeOf276
 v46:=Tryz.zeroValue276
 t105:=Tryz.underlying262
 a105:=Tryz.isAgg262
 z105:=Tryz.sizeOf262
 v105:=Tryz.zeroValue262
 t116:=Tryz.underlying232
 a116:=Tryz.isAgg232
 z116:=Tryz.sizeOf232
 t117:=Tryz.underlying233
 a117:=Tryz.isAgg233
 z117:=Tryz.sizeOf233
 v117:=Tryz.zeroValue233
 t119:=Tryz.underlying286
 a119:=Tryz.isAgg286
 z119:=Tryz.sizeOf286
 t124:=Tryz.underlying236
 a124:=Tryz.isAgg236
 z124:=Tryz.sizeOf236
 v124:=Tryz.zeroValue236
 t138:=Tryz.underlying288
 a138:=Tryz.isAgg288
 z138:=Tryz.sizeOf288
 v138:=Tryz.zeroValue288
 t139:=Tryz.underlying289
 a139:=Tryz.isAgg289
 z139:=Tryz.sizeOf289
 v139:=Tryz.zeroValue289
 g3:=by kernel_rfl
 g4:=by kernel_rfl }
end Go.Proofs
namespace Go.Proofs.YthliapbflkfdiacGreatDoor
open Go.RowKit Go.Shelf
theorem QrR:(Tryz.prog.info? 63).map (fun i=>(i.zero,i.size,i.bytes))=some (some (.agg #[.int .i64 0,.int .i64 0,.string .empty,.slice none 0 0]),4,56):=by kernel_rfl
end Go.Proofs.YthliapbflkfdiacGreatDoor
