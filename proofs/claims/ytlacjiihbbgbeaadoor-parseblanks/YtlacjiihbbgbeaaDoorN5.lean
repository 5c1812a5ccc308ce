import Derived.Test.YtlacjiihbbgbeaaDoorN4
import Derived.Maps.Views
namespace Go.Proofs.YtlacjiihbbgbeaaDoor
open Go.RowKit
set_option linter.unusedVariables false
set_option linter.unusedSimpArgs false

open Go.Maps
/-- What a call that may change the reader and a map leaves of the world. -/
structure F2 (rb mb : Nat) (w w' : World) : Prop where
  os : w'.os = w.os
  tape : w'.tape = w.tape
  output : w'.output = w.output
  size : w.heap.size ≤ w'.heap.size
  block : ∀ k, k < w.heap.size → ¬ k = rb → ¬ k = mb → w'.heap[k]? = w.heap[k]?
theorem Fl.f2 {rb : Nat} {w w' : World} (h : Fl rb w w') (mb : Nat) : F2 rb mb w w' := ⟨h.os, h.tape, h.output, h.size, fun k hk hn _ => h.block k hk hn⟩
theorem F2.trans {rb mb : Nat} {a b c : World} (h : F2 rb mb a b) (k : F2 rb mb b c) : F2 rb mb a c := ⟨k.os.trans h.os, k.tape.trans h.tape, k.output.trans h.output, Nat.le_trans h.size k.size, fun j hj hn hm => (k.block j (Nat.lt_of_lt_of_le hj h.size) hn hm).trans (h.block j hj hn hm)⟩
/-- A map of the call's own is no matter. -/
theorem F2.fl {rb mb : Nat} {W w w' : World} (h : F2 rb mb w w') (k : Fl rb W w) (hm : W.heap.size ≤ mb) : Fl rb W w' := ⟨h.os.trans k.os, h.tape.trans k.tape, h.output.trans k.output, Nat.le_trans k.size h.size, fun j hj hn => (h.block j (Nat.lt_of_lt_of_le hj k.size) hn (by omega)).trans (k.block j hj hn)⟩
theorem grown_f2 {rb mb : Nat} {w w' : World} (h : w.grownBy w' (some mb)) : F2 rb mb w w' := ⟨h.os, h.tape, h.output, h.size, fun k hk _ hm => h.block k hk (fun e => hm (by first | exact Option.some.inj e | exact (Option.some.inj e).symm))⟩
/-- The map in block mb has these names. -/
def TkIs (w : World) (mb : Nat) (l : List (List UInt8)) : Prop := ∃ D : DataW Unit, w.ownsMap Tryd.prog 9 (plainElem Tryd.prog 3) mb l.length D ∧ IsMap D ∧ ∀ s : List UInt8, D.atKey (.string s) (.lit (.int .i64 0)) = .lit (.int .i64 (if s ∈ l then 1 else 0))
theorem TkIs.same {w w' : World} {mb : Nat} {l : List (List UInt8)} (h : TkIs w mb l) (k : w'.heap[mb]? = w.heap[mb]?) : TkIs w' mb l := by
  obtain ⟨D, ⟨es, cl, h1, h2⟩, h3⟩ := h
  exact ⟨D, ⟨es, cl, k.trans h1, h2⟩, h3⟩
theorem TkIs.lt {w : World} {mb : Nat} {l : List (List UInt8)} (h : TkIs w mb l) : mb < w.heap.size := by
  obtain ⟨D, h1, _⟩ := h
  exact h1.lt
theorem TkIs.new (w : World) : TkIs (w.alloc (.map #[] 0)) w.heap.size [] := ⟨_, World.ownsMap_made w Tryd.prog 9 _, ⟨_, rfl⟩, fun s => by simp [DataW.atKey]⟩
theorem TkIs.put {w : World} {mb : Nat} {l : List (List UInt8)} {s : List UInt8} {D : DataW Unit} (h : w.ownsMap Tryd.prog 9 (plainElem Tryd.prog 3) mb (l.length + 1) (D.put (.string s) (.lit (.int .i64 1)))) (hD : IsMap D) (hA : ∀ s : List UInt8, D.atKey (.string s) (.lit (.int .i64 0)) = .lit (.int .i64 (if s ∈ l then 1 else 0))) : TkIs w mb (l ++ [s]) := by
  refine ⟨_, by simpa using h, ?_, fun u => ?_⟩
  · obtain ⟨es, rfl⟩ := hD; exact ⟨_, rfl⟩
  · by_cases e : u = s
    · subst e
      rw [atKey_put_same hD (by simp [WideAt.IsKeyLit])]
      simp
    · rw [atKey_put_other (by simpa using e), hA u]
      simp [e]

end Go.Proofs.YtlacjiihbbgbeaaDoor
