import Derived.Test.YtlacjiihbbgbeaaDoorA2
namespace Go.Proofs.YtlacjiihbbgbeaaDoor
open Go.RowKit
set_option linter.unusedVariables false
set_option linter.unusedSimpArgs false

def blB (c : UInt8) : Bool := bl c.toNat
def enB (c : UInt8) : Bool := en c.toNat
def plB (c : UInt8) : Bool := pl c.toNat
/-- What is read off bytes: something, and the bytes that are left (ok); or the error's number, and where it can't go on: the bytes from there on (error). -/
abbrev Res (α : Type) : Type := EStateM.Result Nat (List UInt8) α
def nxt : List UInt8 → Res UInt8
  | [] => .error 11 []
  | c :: r => .ok c r
def dig : List UInt8 → Res Int
  | [] => .error 11 []
  | c :: r => match hx c.toNat with
    | none => .error 10 (c :: r)
    | some a => .ok a r
/-- The byte that is told behind a backslash. -/
def esb : List UInt8 → Res UInt8
  | [] => .error 11 []
  | c :: r =>
    if c = 34 ∨ c = 92 then .ok c r
    else if c = 110 then .ok 10 r
    else if c = 120 then
      match dig r with
      | .error e t => .error e t
      | .ok a t => match dig t with
        | .error e u => .error e u
        | .ok d u => .ok (UInt8.ofNat (16 * a.toNat + d.toNat)) u
    else .error 10 (c :: r)
theorem dig_len {l : List UInt8} {a : Int} {t : List UInt8} (h : dig l = .ok a t) : t.length < l.length := by
  unfold dig at h
  split at h
  · cases h
  · split at h
    · cases h
    · cases h; simp
theorem esb_len {l : List UInt8} {a : UInt8} {t : List UInt8} (h : esb l = .ok a t) : t.length < l.length := by
  unfold esb at h
  split at h
  · cases h
  · split at h
    · cases h; simp
    · split at h
      · cases h; simp
      · split at h
        · split at h
          · cases h
          · rename_i h1
            have := dig_len h1
            split at h
            · cases h
            · rename_i h2
              have := dig_len h2
              cases h
              simp; omega
        · cases h
/-- What a text has behind its first quote (n: no fewer steps than bytes). -/
def txtF (n : Nat) (acc : List UInt8) (l : List UInt8) : Res (List UInt8) :=
  match n with
  | 0 => .error 11 []
  | n + 1 =>
    match l with
    | [] => .error 11 []
    | c :: r =>
      if c = 34 then .ok acc r
      else if c = 92 then
        match esb r with
        | .error e t => .error e t
        | .ok d t => txtF n (acc ++ [d]) t
      else txtF n (acc ++ [c]) r
theorem txtF_any : ∀ (n m : Nat) (acc l : List UInt8), l.length < n → l.length < m → txtF n acc l = txtF m acc l := by
  intro n
  induction n with
  | zero => intro m acc l h; omega
  | succ n ih =>
    intro m acc l h1 h2
    cases m with
    | zero => omega
    | succ m =>
      cases l with
      | nil => rfl
      | cons c r =>
        simp only [List.length_cons] at h1 h2
        simp only [txtF]
        split
        · rfl
        · split
          · cases e1 : esb r with
            | error e t => rfl
            | ok d t =>
              have := esb_len e1
              exact ih m _ _ (by omega) (by omega)
          · exact ih m _ _ (by omega) (by omega)
def txt (acc : List UInt8) (l : List UInt8) : Res (List UInt8) := txtF (l.length + 1) acc l
theorem txt_nil (acc : List UInt8) : txt acc [] = .error 11 [] := rfl
theorem txt_end (acc r : List UInt8) : txt acc (34 :: r) = .ok acc r := by unfold txt; simp only [txtF, if_true]
theorem txt_esc_no (acc r t : List UInt8) (e : Nat) (h : esb r = .error e t) : txt acc (92 :: r) = .error e t := by
  unfold txt; simp only [txtF, show ¬ (92 : UInt8) = 34 by decide, if_false, if_true, h]
theorem txt_esc_ok (acc r t : List UInt8) (d : UInt8) (h : esb r = .ok d t) : txt acc (92 :: r) = txt (acc ++ [d]) t := by
  have := esb_len h
  have e : txtF ((92 :: r).length + 1) acc (92 :: r) = txtF (92 :: r).length (acc ++ [d]) t := by
    rw [txtF]; simp only [show ¬ (92 : UInt8) = 34 by decide, if_false, if_true, h]
  unfold txt
  rw [e]
  apply txtF_any
  · simp only [List.length_cons]; omega
  · omega
theorem txt_one (acc r : List UInt8) (c : UInt8) (h1 : ¬ c = 34) (h2 : ¬ c = 92) : txt acc (c :: r) = txt (acc ++ [c]) r := by
  have e : txtF ((c :: r).length + 1) acc (c :: r) = txtF (c :: r).length (acc ++ [c]) r := by
    rw [txtF]; simp only [h1, h2, if_false]
  unfold txt
  rw [e]
  apply txtF_any
  · simp only [List.length_cons]; omega
  · omega
/-- The bytes of a number or a word. -/
def wrd (l : List UInt8) : Res (List UInt8) :=
  match l.dropWhile plB with
  | [] => .ok (l.takeWhile plB) []
  | c :: r => if enB c then .ok (l.takeWhile plB) (c :: r) else .error 10 (c :: r)
def val (acc : Nat) (l : List UInt8) : Nat := l.foldl (fun a c => a * 10 + (c.toNat - 48)) acc
theorem val_nil (acc : Nat) : val acc [] = acc := by unfold val; rw [List.foldl_nil]
theorem val_cons (acc : Nat) (c : UInt8) (r : List UInt8) : val acc (c :: r) = val (acc * 10 + (c.toNat - 48)) r := by unfold val; rw [List.foldl_cons]
/-- A number's bytes as the number, if it isn't too great. -/
def numv (l : List UInt8) : Option Int :=
  if l.head? = some 45 then (if val 0 (Lib.trimPrefix l [45]) ≤ 9223372036854775808 then some (-(val 0 (Lib.trimPrefix l [45]) : Int)) else none)
  else (if val 0 (Lib.trimPrefix l [45]) < 9223372036854775808 then some (val 0 (Lib.trimPrefix l [45]) : Int) else none)
/-- A token; 'back': how many bytes there are from its first one on. -/
structure Tok where
  kind : Nat
  s : List UInt8
  n : Int
  back : Nat
def one (l : List UInt8) : Res Tok :=
  match l with
  | [] => .error 11 []
  | c :: r =>
    if c = 40 then .ok ⟨1, [], 0, l.length⟩ r
    else if c = 41 then .ok ⟨2, [], 0, l.length⟩ r
    else if c = 34 then
      match txt [] r with
      | .error e t => .error e t
      | .ok b t => .ok ⟨5, b, 0, l.length⟩ t
    else match wrd l with
      | .error e t => .error e t
      | .ok b t =>
        if num b then
          match numv b with
          | some n => .ok ⟨4, [], n, l.length⟩ t
          | none => .error 10 l
        else .ok ⟨3, b, 0, l.length⟩ t
/-- Blanks and notes (the flag: within one) are passed. -/
def skp (f : Bool) : List UInt8 → List UInt8
  | [] => []
  | c :: r => if f then (if c = 10 then skp false r else skp true r) else if c = 59 then skp true r else if blB c then skp false r else c :: r
/-- How reading a source ends: its tokens; or how many bytes are left where it can't go on, and the error's number. -/
abbrev Lx : Type := Except (Nat × Nat) (List Tok)
def Lx.cons (t : Tok) : Lx → Lx
  | .ok l => .ok (t :: l)
  | .error x => .error x
def lxrF (n : Nat) (l : List UInt8) : Lx :=
  match n with
  | 0 => .ok []
  | n + 1 =>
    match skp false l with
    | [] => .ok []
    | c :: r =>
      match one (c :: r) with
      | .error e t => .error (t.length, e)
      | .ok t rest => if rest.length < l.length then Lx.cons t (lxrF n rest) else .ok []
theorem lxrF_any : ∀ (n m : Nat) (l : List UInt8), l.length < n → l.length < m → lxrF n l = lxrF m l := by
  intro n
  induction n with
  | zero => intro m l h; omega
  | succ n ih =>
    intro m l h1 h2
    cases m with
    | zero => omega
    | succ m =>
      simp only [lxrF]
      cases e1 : skp false l with
      | nil => rfl
      | cons c r =>
        dsimp only
        cases e2 : one (c :: r) with
        | error e t => rfl
        | ok t rest =>
          dsimp only
          split
          · rw [ih m rest (by omega) (by omega)]
          · rfl
def lxr (l : List UInt8) : Lx := lxrF (l.length + 1) l
theorem lxr_eq (l : List UInt8) : lxr l = (match skp false l with
    | [] => .ok []
    | c :: r =>
      match one (c :: r) with
      | .error e t => .error (t.length, e)
      | .ok t rest => if rest.length < l.length then Lx.cons t (lxr rest) else .ok []) := by
  unfold lxr
  rw [lxrF]
  cases e1 : skp false l with
  | nil => rfl
  | cons c r =>
    dsimp only
    cases e2 : one (c :: r) with
    | error e t => rfl
    | ok t rest =>
      dsimp only
      split
      · rw [lxrF_any l.length (rest.length + 1) rest (by assumption) (by omega)]
      · rfl

end Go.Proofs.YtlacjiihbbgbeaaDoor
