import Derived.Test.YtlacjiihbbgbeaaDoorV0
namespace Go.Proofs.YtlacjiihbbgbeaaDoor
open Go.RowKit
set_option linter.unusedVariables false
set_option linter.unusedSimpArgs false

/-- Where reading ends: 11: a token is missing; 12: a stray one; 13: a node too many: how many bytes there are from its token on. -/
abbrev Pe : Type := Nat × Nat
/-- What is left, and how many nodes have begun. -/
abbrev Ps : Type := List Tok × Nat
abbrev Pr (α : Type) : Type := Except Pe (α × Ps)
def pTake : Ps → Pr Tok
  | ([], _) => .error (11, 0)
  | (t :: r, g) => .ok (t, (r, g))
def pExpect (k : Nat) (st : Ps) : Pr Tok := match pTake st with
  | .error e => .error e
  | .ok (t, q) => if t.kind = k then .ok (t, q) else .error (12, t.back)
/-- Is a word a name? -/
def isVr (s : List UInt8) : Bool := !(s == [116, 114, 117, 101]) && !(s == [102, 97, 108, 115, 101]) && !(s == [117, 110, 105, 116])
def pName (others : List (List UInt8)) (st : Ps) : Pr (List UInt8) := match pExpect 3 st with
  | .error e => .error e
  | .ok (t, q) => if isVr t.s && !others.contains t.s then .ok (t.s, q) else .error (12, t.back)
def bsB (s : List UInt8) : ByteArray := ⟨s.toArray⟩
/-- The node of a word that stands alone. -/
def pPlain (f : Nat) (s : List UInt8) : Tr (f + 1) :=
  (if s = [116, 114, 117, 101] then ⟨2, 1, ⟨#[]⟩, [], []⟩ else if s = [102, 97, 108, 115, 101] then ⟨2, 0, ⟨#[]⟩, [], []⟩ else if s = [117, 110, 105, 116] then ⟨4, 0, ⟨#[]⟩, [], []⟩ else ⟨5, 0, bsB s, [], []⟩ : Nd (Tr f))
def pMany {X : Type} (node : Ps → Pr X) : Nat → Ps → Pr (List X)
  | 0, st => .ok ([], st)
  | c + 1, st => match node st with
    | .error e => .error e
    | .ok (x, st1) => match pMany node c st1 with
      | .error e => .error e
      | .ok (l, st2) => .ok (x :: l, st2)
/-- As many as stand there. -/
def pMore {X : Type} (node : Ps → Pr X) : Nat → Ps → Pr (List X)
  | 0, st => .ok ([], st)
  | c + 1, st => match st.1 with
    | [] => .error (11, 0)
    | t :: _ => if t.kind = 2 then .ok ([], st) else match node st with
      | .error e => .error e
      | .ok (x, st1) => match pMore node c st1 with
        | .error e => .error e
        | .ok (l, st2) => .ok (x :: l, st2)
/-- Names, unlike some and each other, up to a closing bracket. -/
def pParF : Nat → List (List UInt8) → Ps → Pr (List (List UInt8))
  | 0, l, st => .ok (l, st)
  | c + 1, l, st => match st.1 with
    | [] => .error (11, 0)
    | t :: _ => if t.kind = 2 then .ok (l, st) else match pName l st with
      | .error e => .error e
      | .ok (x, st1) => pParF c (l ++ [x]) st1
def pParams (st : Ps) : Pr (List (List UInt8)) := match pExpect 1 st with
  | .error e => .error e
  | .ok (_, st1) => match pParF (st1.1.length + 1) [] st1 with
    | .error e => .error e
    | .ok (l, st2) => match pTake st2 with
      | .error e => .error e
      | .ok (_, st3) => .ok (l, st3)
/-- So many names, unlike each other. -/
def pNms : Nat → List (List UInt8) → Ps → Pr (List (List UInt8))
  | 0, l, st => .ok (l, st)
  | c + 1, l, st => match pName l st with
    | .error e => .error e
    | .ok (x, st1) => pNms c (l ++ [x]) st1
/-- What stands behind a word. -/
structure Fo where
  word : List UInt8
  kind : Nat
  named : Bool
  parts : Nat
  more : Bool
def fos : List Fo := [⟨[102, 117, 110], 6, true, 1, false⟩, ⟨[99, 97, 108, 108], 7, false, 1, true⟩, ⟨[108, 101, 116], 8, true, 2, false⟩, ⟨[105, 102], 9, false, 3, false⟩, ⟨[100, 111], 10, false, 1, true⟩, ⟨[112, 101, 114, 102, 111, 114, 109], 12, true, 1, false⟩, ⟨[104, 97, 110, 100, 108, 101], 13, false, 1, false⟩, ⟨[114, 101, 115, 117, 109, 101], 14, false, 2, false⟩, ⟨[100, 114, 111, 112], 15, false, 2, false⟩, ⟨[119, 105, 110, 100], 16, false, 3, false⟩]
def foOf (s : List UInt8) : Option Fo := fos.find? (fun x => x.word == s)
/-- A clause's kind, told by its word, from a certain one on. -/
def clOf (first : Nat) (s : List UInt8) : Option Nat :=
  if first ≤ 0 ∧ s = [114, 101, 116, 117, 114, 110] then some 0 else if first ≤ 1 ∧ s = [111, 110] then some 1 else if first ≤ 2 ∧ s = [102, 105, 110, 97, 108, 108, 121] then some 2 else none
/-- The clauses. -/
def pCls {X : Type} (kd : X → Int) (tt : X → List UInt8) (cl : Nat → List (List UInt8) → Ps → Pr X) : Nat → Nat → List (List UInt8) → Ps → Pr (List X)
  | 0, _, _, st => .ok ([], st)
  | c + 1, first, ops, st => match st.1 with
    | [] => .error (11, 0)
    | t :: _ => if t.kind = 2 then .ok ([], st) else match cl first ops st with
      | .error e => .error e
      | .ok (x, st1) => match pCls kd tt cl c (if kd x = 18 then 1 else (kd x).toNat - 16) (if kd x = 18 then ops ++ [tt x] else ops) st1 with
        | .error e => .error e
        | .ok (l, st2) => .ok (x :: l, st2)
def ttL : (n : Nat) → Tr n → List UInt8
  | 0, _ => []
  | n + 1, t => (Nd.s (K := Tr n) t).data.toList
/-- What stands behind a form's word. -/
def pForm (f : Nat) (node : Ps → Pr (Tr f)) (cl : Nat → List (List UInt8) → Ps → Pr (Tr f)) (F : Fo) (st : Ps) : Pr (Tr (f + 1)) :=
  match (if F.named then pName [] st else .ok ([], st)) with
  | .error e => .error e
  | .ok (s, st1) => match (if F.kind = 6 then pParams st1 else .ok ([], st1)) with
    | .error e => .error e
    | .ok (ns, st2) => match pMany node F.parts st2 with
      | .error e => .error e
      | .ok (l, st3) => match (if F.more then pMore node (st3.1.length + 1) st3 else .ok ([], st3)) with
        | .error e => .error e
        | .ok (l2, st4) => match (if F.kind = 13 then pCls (knd f) (ttL f) cl (st4.1.length + 1) 0 [] st4 else .ok ([], st4)) with
          | .error e => .error e
          | .ok (l3, st5) => .ok ((⟨F.kind, 0, bsB s, ns.map bsB, l ++ l2 ++ l3⟩ : Nd (Tr f)), st5)
/-- What stands between a node's brackets. -/
def pBr (f : Nat) (node : Ps → Pr (Tr f)) (cl : Nat → List (List UInt8) → Ps → Pr (Tr f)) (st : Ps) : Pr (Tr (f + 1)) := match pExpect 3 st with
  | .error e => .error e
  | .ok (t, st1) => if 0 ≤ tk t.s then (match pMany node (tk t.s).toNat st1 with
      | .error e => .error e
      | .ok (l, st2) => .ok ((⟨11, 0, bsB t.s, [], l⟩ : Nd (Tr f)), st2))
    else match foOf t.s with
      | none => .error (12, t.back)
      | some F => pForm f node cl F st1
/-- A node counted, by its first token. -/
def pBeg (deep : Bool) (t : Tok) (st : Ps) : Except Pe Ps := if deep || st.2 == 4000 then .error (13, t.back) else .ok (st.1, st.2 + 1)
def pNode0 (st : Ps) : Pr (Tr 0) := match pTake st with
  | .error e => .error e
  | .ok (t, _) => .error (if t.kind = 2 then 12 else 13, t.back)
def pNodeS (f : Nat) (node : Ps → Pr (Tr f)) (cl : Nat → List (List UInt8) → Ps → Pr (Tr f)) (st : Ps) : Pr (Tr (f + 1)) := match pTake st with
  | .error e => .error e
  | .ok (t, st1) => if t.kind = 2 then .error (12, t.back) else match pBeg false t st1 with
    | .error e => .error e
    | .ok st2 => if t.kind = 4 then .ok ((⟨1, t.n, ⟨#[]⟩, [], []⟩ : Nd (Tr f)), st2) else if t.kind = 5 then .ok ((⟨3, 0, bsB t.s, [], []⟩ : Nd (Tr f)), st2) else if t.kind = 3 then .ok (pPlain f t.s, st2) else match pBr f node cl st2 with
      | .error e => .error e
      | .ok (x, st3) => match pExpect 2 st3 with
        | .error e => .error e
        | .ok (_, st4) => .ok (x, st4)
def pCl0 (st : Ps) : Pr (Tr 0) := match pExpect 1 st with
  | .error e => .error e
  | .ok (t, _) => .error (13, t.back)
def pClS (f : Nat) (node : Ps → Pr (Tr f)) (first : Nat) (ops : List (List UInt8)) (st : Ps) : Pr (Tr (f + 1)) := match pExpect 1 st with
  | .error e => .error e
  | .ok (t, st1) => match pBeg false t st1 with
    | .error e => .error e
    | .ok st2 => match pExpect 3 st2 with
      | .error e => .error e
      | .ok (t2, st3) => match clOf first t2.s with
        | none => .error (12, t2.back)
        | some k => match (if k = 1 then pName ops st3 else .ok ([], st3)) with
          | .error e => .error e
          | .ok (s, st4) => match pNms (if k = 0 then 1 else if k = 1 then 2 else 0) [] st4 with
            | .error e => .error e
            | .ok (ns, st5) => match pMany node 1 st5 with
              | .error e => .error e
              | .ok (l, st6) => match pExpect 2 st6 with
                | .error e => .error e
                | .ok (_, st7) => .ok ((⟨17 + k, 0, bsB s, ns.map bsB, l⟩ : Nd (Tr f)), st7)
def pN : (f : Nat) → (Ps → Pr (Tr f)) × (Nat → List (List UInt8) → Ps → Pr (Tr f))
  | 0 => (pNode0, fun _ _ => pCl0)
  | f + 1 => (pNodeS f (pN f).1 (pN f).2, pClS f (pN f).1)
/-- A source's tree. -/
def pProg (ts : List Tok) : Except Pe (Tr 60) := match (pN 60).1 (ts, 0) with
  | .error e => .error e
  | .ok (x, st) => match st.1 with
    | [] => .ok x
    | t :: _ => .error (12, t.back)

end Go.Proofs.YtlacjiihbbgbeaaDoor
