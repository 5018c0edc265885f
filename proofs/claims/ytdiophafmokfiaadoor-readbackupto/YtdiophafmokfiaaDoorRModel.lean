/-
  What a reader of texts does, step by step, on lists of bytes. No program is named here.
-/
import Derived.Test.YtdiophafmokfiaaDoorStr
import Derived.Test.YtdiophafmokfiaaDoorBase
namespace Go.Proofs.YtdiophafmokfiaaDoor
open Go.RowKit
set_option linter.unusedVariables false

def upB (c : UInt8) : Bool := decide ((c.toNat : Int) ≥ 65) && decide ((c.toNat : Int) ≤ 90)
def lowB (c : UInt8) : Bool := decide ((c.toNat : Int) ≥ 97) && decide ((c.toNat : Int) ≤ 122)
def digB (c : UInt8) : Bool := decide ((c.toNat : Int) ≥ 48) && decide ((c.toNat : Int) ≤ 57)
def whiteB (c : UInt8) : Bool := ([32, 10, 13, 9] : Str).contains c
def spanN (p : UInt8 → Bool) : Str → Nat
  | [] => 0
  | c :: r => bif p c then spanN p r + 1 else 0
theorem spanN_le (p : UInt8 → Bool) : ∀ l : Str, spanN p l ≤ l.length
  | [] => Nat.le_refl _
  | c :: r => by
    have := spanN_le p r
    unfold spanN
    cases p c <;> simp <;> omega
def trimW (l : Str) : Str := l.dropWhile whiteB
theorem trimW_le (l : Str) : (trimW l).length ≤ l.length := by
  unfold trimW
  induction l with
  | nil => simp
  | cons c r ih => rw [List.dropWhile_cons]; split <;> simp <;> omega
def signs : Str := [40, 41, 44, 46, 33]
def tokLen : Str → Nat
  | [] => 0
  | c :: r =>
    if upB c || lowB c then 1 + spanN lowB r
    else if digB c then spanN digB (c :: r)
    else if c = 45 then (if 0 < spanN digB r then 1 + spanN digB r else 0)
    else if ([58, 45] : Str).isPrefixOf (c :: r) then 2
    else if signs.contains c then 1
    else 0
theorem tokLen_le (l : Str) : tokLen l ≤ l.length := by
  cases l with
  | nil => exact Nat.le_refl _
  | cons c r =>
    have h1 := spanN_le lowB r
    have h2 := spanN_le digB r
    have h3 := spanN_le digB (c :: r)
    simp only [tokLen]
    split
    · simp; omega
    split
    · exact h3
    split
    · split
      · simp; omega
      · simp
    split
    · rename_i h
      cases r with
      | nil => simp [List.isPrefixOf] at h
      | cons d r => simp
    split
    · simp
    · simp

/-- The reader: the next token, what follows it, the names of variables, the error. -/
structure RS where
  token : Str
  rest : Str
  vars : List Str
  err : Int
def RS.fail (s : RS) (e : Int) : RS := ⟨[], [], s.vars, if s.err = 0 then e else s.err⟩
def RS.adv (s : RS) : RS :=
  let t := trimW s.rest
  if tokLen t = 0 ∧ t ≠ [] then s.fail 1 else ⟨t.take (tokLen t), t.drop (tokLen t), s.vars, s.err⟩
def RS.take (s : RS) (tok : Str) : RS := if s.token = tok then s.adv else (s.fail 1).adv
/-- How much is left. -/
def RS.left (s : RS) : Nat := s.token.length + s.rest.length
theorem adv_left (s : RS) : s.adv.left ≤ s.rest.length := by
  unfold RS.adv RS.left
  have h1 := trimW_le s.rest
  have h2 := tokLen_le (trimW s.rest)
  simp only
  split
  · simp [RS.fail]
  · simp; omega
theorem adv_lt (s : RS) (h : s.token ≠ []) : s.adv.left < s.left := by
  have := adv_left s
  unfold RS.left at *
  cases ht : s.token with
  | nil => exact absurd ht h
  | cons c r => simp; omega
theorem fail_left (s : RS) (e : Int) : (s.fail e).left = 0 := rfl
theorem take_left (s : RS) (t : Str) : (s.take t).left ≤ s.left := by
  unfold RS.take
  split
  · have := adv_left s; unfold RS.left at *; omega
  · have := adv_left (s.fail 1); simp [RS.fail] at this ⊢; omega
/-- Where a name stands among the variables; it is added if it does not. -/
def idxOfV : List Str → Str → Nat
  | [], _ => 0
  | v :: r, x => if v = x then 0 else idxOfV r x + 1
def RS.var (s : RS) (x : Str) : Nat × RS := if x ∈ s.vars then (idxOfV s.vars x, s) else (s.vars.length, { s with vars := s.vars ++ [x] })

/-- A term: its kind, number, name and arguments. -/
structure Nd where
  k : Int
  n : Int
  s : Str
  ar : Ts
def Nd.zero : Nd := ⟨0, 0, [], .nil⟩
def tsOf : List Nd → Ts
  | [] => .nil
  | x :: r => .cons x.k x.n ⟨x.s.toArray⟩ x.ar (tsOf r)
section
variable (num : Str → Option Int)
/-- What a token of digits stands for. -/
def RS.number (s : RS) (tok : Str) : Int × RS := match num tok with | some n => (n, s) | none => (0, s.fail 1)
def loopM (f : RS → Nd × RS) : Nat → RS → List Nd × RS
  | 0, s => ([], s)
  | fuel + 1, s => if s.token = [44] then
      let p := f s.adv
      let q := loopM f fuel p.2
      (p.1 :: q.1, q.2)
    else ([], s)
def termsM (f : RS → Nd × RS) (s : RS) : List Nd × RS :=
  let p := f s
  let q := loopM f p.2.left p.2
  (p.1 :: q.1, q.2)
def headC : Str → UInt8
  | [] => 0
  | c :: _ => c
def termM : Nat → RS → Nd × RS
  | 0, s => (Nd.zero, s.fail 1)
  | d + 1, s =>
    if s.token = [] then (Nd.zero, s.fail 1) else
    let c := headC s.token
    let s1 := s.adv
    if upB c then (⟨0, (s1.var s.token).1, [], .nil⟩, (s1.var s.token).2)
    else if lowB c && (s1.token == [40]) then
      let q := termsM (termM d) (s1.take [40])
      (⟨3, 0, s.token, tsOf q.1⟩, q.2.take [41])
    else if lowB c || (c == 33) then (⟨1, 0, s.token, .nil⟩, s1)
    else if digB c || (c == 45) then (⟨2, (s1.number num s.token).1, [], .nil⟩, (s1.number num s.token).2)
    else (Nd.zero, s1.fail 1)
end
end Go.Proofs.YtdiophafmokfiaaDoor
