import Derived.Test.YtndhhmgbekcfoaaDoorT1
namespace Go.Proofs.YtndhhmgbekcfoaaDoor
open Go.RowKit
set_option linter.unusedVariables false
set_option linter.unusedSimpArgs false

/-- Two rows, element by element. -/
def eqL {K : Type} (f : K → K → Bool) (l m : List K) : Bool := decide (l.length = m.length) && (l.zip m).all (fun p => f p.1 p.2)
theorem eqL_miss {K : Type} (f : K → K → Bool) {l m : List K} {i : Nat} {x y : K} (h : l[i]? = some x) (h' : m[i]? = some y) (hf : f x y = false) : eqL f l m = false := by
  unfold eqL
  rw [all_miss _ (zip_get h h') (by simpa using hf), Bool.and_false]
theorem eqL_all {K : Type} (f : K → K → Bool) {l m : List K} (hl : l.length = m.length) {k : Nat} (hk : l.length ≤ k) (h : ((l.zip m).take k).all (fun p => f p.1 p.2) = true) : eqL f l m = true := by
  unfold eqL
  rw [List.take_of_length_le (by simp; omega)] at h
  simp [hl, h]
theorem eqL_len {K : Type} (f : K → K → Bool) {l m : List K} (hl : ¬ l.length = m.length) : eqL f l m = false := by simp [eqL, hl]
theorem eqL_refl {K : Type} (f : K → K → Bool) (hf : ∀ x, f x x = true) (l : List K) : eqL f l l = true := by
  unfold eqL
  simp only [decide_true, Bool.true_and]
  rw [List.all_eq_true]
  rintro ⟨a, b⟩ h
  obtain ⟨i, hi⟩ := List.getElem?_of_mem h
  rw [List.getElem?_zip_eq_some] at hi
  have := hi.1.symm.trans hi.2
  cases this
  exact hf a
def eqI (a b : Int) : Bool := decide (a = b)
def eqS (a b : ByteArray) : Bool := decide (a = b)
def eqN (a b : Ins) : Bool := decide (a.op = b.op) && decide (a.a = b.a)

end Go.Proofs.YtndhhmgbekcfoaaDoor
