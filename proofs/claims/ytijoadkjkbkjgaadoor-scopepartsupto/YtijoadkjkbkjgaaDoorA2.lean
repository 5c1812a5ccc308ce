import Derived.Test.YtijoadkjkbkjgaaDoorA1
import Derived.Test.YtijoadkjkbkjgaaDoorShelf
namespace Go.Proofs.YtijoadkjkbkjgaaDoor
open Go.RowKit
set_option linter.unusedVariables false
set_option linter.unusedSimpArgs false

theorem all_snoc {α : Type} (f : α → Bool) {l : List α} {i : Nat} {x : α} (h : l[i]? = some x) : (l.take (i + 1)).all f = ((l.take i).all f && f x) := by
  rw [List.take_add_one, h]; simp
theorem all_miss {α : Type} (f : α → Bool) {l : List α} {i : Nat} {x : α} (h : l[i]? = some x) (hf : f x = false) : l.all f = false := by
  cases hh : l.all f with
  | false => rfl
  | true => rw [List.all_eq_true.1 hh x (List.mem_of_getElem? h)] at hf; cases hf

end Go.Proofs.YtijoadkjkbkjgaaDoor
