import Derived.Test.YtinigblglaolmaaDoorA2
namespace Go.Proofs.YtinigblglaolmaaDoor
open Go.RowKit
set_option linter.unusedVariables false
set_option linter.unusedSimpArgs false

def blB (c : UInt8) : Bool := bl c.toNat
def enB (c : UInt8) : Bool := en c.toNat
def plB (c : UInt8) : Bool := pl c.toNat
/-- What is read off bytes: something, and the bytes that are left; or where it can't go on (the bytes from there on), and the error's number. -/
inductive Res (α : Type) where
  | ok (a : α) (rest : List UInt8)
  | no (rest : List UInt8) (e : Nat)
def nxt : List UInt8 → Res UInt8
  | [] => .no [] 11
  | c :: r => .ok c r
def dig : List UInt8 → Res Int
  | [] => .no [] 11
  | c :: r => match hx c.toNat with
    | none => .no (c :: r) 10
    | some a => .ok a r
/-- The byte that is told behind a backslash. -/
def esb : List UInt8 → Res UInt8
  | [] => .no [] 11
  | c :: r =>
    if c = 34 ∨ c = 92 then .ok c r
    else if c = 110 then .ok 10 r
    else if c = 120 then
      match dig r with
      | .no t e => .no t e
      | .ok a t => match dig t with
        | .no u e => .no u e
        | .ok d u => .ok (UInt8.ofNat (16 * a.toNat + d.toNat)) u
    else .no (c :: r) 10
theorem dig_len {l : List UInt8} {a : Int} {t : List UInt8} (h : dig l = .ok a t) : t.length < l.length := by
  unfold dig at h
  split at h
  · cases h
  · split at h
    · cases h
    · cases h; simp
theorem esb_len {l : List UInt8} {a : UInt8} {t : List UInt8} (h : esb l = .ok a t) : t.length < l.length := by
  unfold esb at h
  split at h
  · cases h
  · split at h
    · cases h; simp
    · split at h
      · cases h; simp
      · split at h
        · split at h
          · cases h
          · rename_i h1
            have := dig_len h1
            split at h
            · cases h
            · rename_i h2
              have := dig_len h2
              cases h
              simp; omega
        · cases h
/-- What a text has behind its first quote. -/
def txt (acc : List UInt8) (l : List UInt8) : Res (List UInt8) :=
  match l with
  | [] => .no [] 11
  | c :: r =>
    if c = 34 then .ok acc r
    else if c = 92 then
      match h : esb r with
      | .no t e => .no t e
      | .ok d t => txt (acc ++ [d]) t
    else txt (acc ++ [c]) r
termination_by l.length
decreasing_by
  · have := esb_len h; simp; omega
  · simp
theorem txt_nil (acc : List UInt8) : txt acc [] = .no [] 11 := by rw [txt]
theorem txt_end (acc r : List UInt8) : txt acc (34 :: r) = .ok acc r := by rw [txt]; simp
theorem txt_esc_no (acc r t : List UInt8) (e : Nat) (h : esb r = .no t e) : txt acc (92 :: r) = .no t e := by
  rw [txt]; simp; split
  · rename_i h2; rw [h] at h2; cases h2; rfl
  · rename_i h2; rw [h] at h2; cases h2
theorem txt_esc_ok (acc r t : List UInt8) (d : UInt8) (h : esb r = .ok d t) : txt acc (92 :: r) = txt (acc ++ [d]) t := by
  rw [txt]; simp; split
  · rename_i h2; rw [h] at h2; cases h2
  · rename_i h2; rw [h] at h2; cases h2; rfl
theorem txt_one (acc r : List UInt8) (c : UInt8) (h1 : ¬ c = 34) (h2 : ¬ c = 92) : txt acc (c :: r) = txt (acc ++ [c]) r := by
  rw [txt]; simp [h1, h2]
/-- The bytes of a number or a word. -/
def wrd (l : List UInt8) : Res (List UInt8) :=
  match l.dropWhile plB with
  | [] => .ok (l.takeWhile plB) []
  | c :: r => if enB c then .ok (l.takeWhile plB) (c :: r) else .no (c :: r) 10
def val (acc : Nat) (l : List UInt8) : Nat := l.foldl (fun a c => a * 10 + (c.toNat - 48)) acc
theorem val_nil (acc : Nat) : val acc [] = acc := by unfold val; rw [List.foldl_nil]
theorem val_cons (acc : Nat) (c : UInt8) (r : List UInt8) : val acc (c :: r) = val (acc * 10 + (c.toNat - 48)) r := by unfold val; rw [List.foldl_cons]
/-- A number's bytes as the number, if it isn't too great. -/
def numv (l : List UInt8) : Option Int :=
  if l.head? = some 45 then (if val 0 (Lib.trimPrefix l [45]) ≤ 9223372036854775808 then some (-(val 0 (Lib.trimPrefix l [45]) : Int)) else none)
  else (if val 0 (Lib.trimPrefix l [45]) < 9223372036854775808 then some (val 0 (Lib.trimPrefix l [45]) : Int) else none)
/-- A token; 'back': how many bytes there are from its first one on. -/
structure Tok where
  kind : Nat
  s : List UInt8
  n : Int
  back : Nat
def one (l : List UInt8) : Res Tok :=
  match l with
  | [] => .no [] 11
  | c :: r =>
    if c = 40 then .ok ⟨1, [], 0, l.length⟩ r
    else if c = 41 then .ok ⟨2, [], 0, l.length⟩ r
    else if c = 34 then
      match txt [] r with
      | .no t e => .no t e
      | .ok b t => .ok ⟨5, b, 0, l.length⟩ t
    else match wrd l with
      | .no t e => .no t e
      | .ok b t =>
        if num b then
          match numv b with
          | some n => .ok ⟨4, [], n, l.length⟩ t
          | none => .no l 10
        else .ok ⟨3, b, 0, l.length⟩ t
/-- Blanks and notes (the flag: within one) are passed. -/
def skp (f : Bool) : List UInt8 → List UInt8
  | [] => []
  | c :: r => if f then (if c = 10 then skp false r else skp true r) else if c = 59 then skp true r else if blB c then skp false r else c :: r
inductive Lx where
  | ok (l : List Tok)
  | no (back : Nat) (e : Nat)
def Lx.cons (t : Tok) : Lx → Lx
  | .ok l => .ok (t :: l)
  | .no b e => .no b e
def lxr (l : List UInt8) : Lx :=
  match skp false l with
  | [] => .ok []
  | c :: r =>
    match one (c :: r) with
    | .no t e => .no t.length e
    | .ok t rest => if rest.length < l.length then (lxr rest).cons t else .ok []
termination_by l.length

end Go.Proofs.YtinigblglaolmaaDoor
