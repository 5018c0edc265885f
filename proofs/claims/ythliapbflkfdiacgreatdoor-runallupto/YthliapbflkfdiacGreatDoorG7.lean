/- Steps of the proof. -/
import Derived.Test.YthliapbflkfdiacGreatDoorG6
namespace Go.Proofs.YthliapbflkfdiacGreatDoor
open Go.RowKit
set_option linter.unusedVariables false
set_option linter.unusedSimpArgs false
set_option maxRecDepth 100000
set_option maxHeartbeats 1000000
section
variable {M:List Nat} {w0:World} {H:List (Nat×Obj)} {F:List (World→Prop)}
theorem TA.snoc:∀(T:TA) (j:Nat),T.len=j+1→∃(D:TA) (k n:Int) (s:ByteArray) (A:Option Addr) (c:Nat) (a:TA),T=D.app (.cons k n s A c a .nil)∧D.len=j
 | .nil,j,h=>by simp [TA.len] at h
 | .cons k n s A c a .nil,j,h=>by
  obtain rfl:j=0:=by simp [TA.len] at h;omega
  exact ⟨.nil,k,n,s,A,c,a,rfl,rfl⟩
 | .cons k n s A c a (.cons k' n' s' A' c' a' r),j,h=>by
  obtain ⟨j,rfl⟩:∃j',j=j'+1:=⟨j-1,by simp only [TA.len] at h;omega⟩
  obtain ⟨D,k1,n1,s1,A1,c1,a1,e,hl⟩:=TA.snoc (.cons k' n' s' A' c' a' r) j (by simp only [TA.len] at h⊢;omega);exact ⟨.cons k n s A c a D,k1,n1,s1,A1,c1,a1,by rw [e];rfl,by simp only [TA.len,hl]⟩
def QfY (g:LT) (c:LC):Bool:=decide (c.hd.s=g.s)&&decide (c.hd.ar.len=g.ar.len)
theorem Qtd (g:LT) (P:List LC):(P.filter (QfY g)).map LC.cl=(P.map LC.cl).filter (QbX g.tm):=by
 rw [List.filter_map];congr 2;funext c;show (_&&decide (c.hd.ar.len=g.ar.len))=(_&&decide (c.hd.ar.ts.length=g.ar.ts.length));rw [TA.len_ts,TA.len_ts];rfl
end
theorem Qkz (g:Tm→Nat→Option (Tm×Nat)) (k n:Int) (s:ByteArray) (a r:Ts) (l:Nat):QjH g (.cons k n s a r) l=(g ⟨k,n,s,a⟩ l).bind fun p=>(QjH g r p.2).map fun q=>(.cons p.1.k p.1.n p.1.s p.1.ar q.1,q.2):=by
 simp only [QjH]
 cases g ⟨k,n,s,a⟩ l with
 |none=>rfl
 |some p=>
  simp only [Option.bind_some];cases QjH g r p.2<;>rfl
theorem Qla (B:Bnd) (f:Nat) (t:Tm) (l:Nat):Qlb B (f+1) t l=if l=0 then none else (QjH (Qlb B f) (Qc B t).ar (l-1)).map fun p=>(⟨(Qc B t).k,(Qc B t).n,(Qc B t).s,p.1⟩,p.2):=by
 simp only [Qlb];split
 ·rfl
 ·cases QjH (Qlb B f) (Qc B t).ar (l-1)<;>rfl
theorem Qio {g:Tm→Nat→Option (Tm×Nat)} (hg:∀t l p,g t l=some p→p.1.ar.nodes+1+p.2=l):∀(T:Ts) (l:Nat) (p:Ts×Nat),QjH g T l=some p→p.1.nodes+p.2=l∧p.1.length=T.length
 | .nil,l,p,h=>by
  simp only [QjH,Option.some.injEq] at h;subst h;exact ⟨by simp [Ts.nodes],rfl⟩
 | .cons k n s a r,l,p,h=>by
  rw [Qkz] at h
  cases h1:g ⟨k,n,s,a⟩ l with
  |none=>rw [h1] at h;cases h
  |some q=>
   rw [h1,Option.bind_some] at h
   cases h2:QjH g r q.2 with
   |none=>rw [h2] at h;cases h
   |some x=>
    rw [h2,Option.map_some,Option.some.injEq] at h;subst h;have:=hg _ _ _ h1;obtain ⟨i1,i2⟩:=Qio hg r q.2 x h2;simp only [Ts.nodes,Ts.length];omega
theorem Qk9 {B:Bnd}:∀(f:Nat) (t:Tm) (l:Nat) (p:Tm×Nat),Qlb B f t l=some p→p.1.ar.nodes+1+p.2=l
 |0,t,l,p,h=>by cases h
 |f+1,t,l,p,h=>by
  rw [Qla] at h;by_cases h0:l=0
  ·rw [if_pos h0] at h;cases h
  ·rw [if_neg h0] at h
   cases h1:QjH (Qlb B f) (Qc B t).ar (l-1) with
   |none=>rw [h1] at h;cases h
   |some q=>
    rw [h1,Option.map_some,Option.some.injEq] at h;subst h;have:=(Qio (fun t l p h=>Qk9 f t l p h) _ _ _ h1).1;show q.1.nodes+1+q.2=l;omega
section
variable {M:List Nat} {w0:World} {H:List (Nat×Obj)} {F:List (World→Prop)}
end
structure LE where
 A:Option Addr
 c:Nat
 T:TA
abbrev Quk (k:Int) (e:LE):List Value:=[.int .i64 k,.slice e.A e.T.len e.c]
def evL:List LE→List Value
 |[]=>[]
 |e::r=>Quk 1 e++evL r
theorem Qtf (a b:List LE):evL (a++b)=evL a++evL b:=by
 induction a with
 |nil=>rfl
 |cons c r ih=>simp [evL,ih]
end Go.Proofs.YthliapbflkfdiacGreatDoor
