import Derived.Test.YtndhhmgbekcfoaaDoorT1
import Derived.Test.YtndhhmgbekcfoaaDoorE1
namespace Go.Proofs.YtndhhmgbekcfoaaDoor
open Go.RowKit
set_option linter.unusedVariables false
set_option linter.unusedSimpArgs false

/-- Two rows, element by element. -/
def eqL {K : Type} (f : K → K → Bool) (l m : List K) : Bool := decide (l.length = m.length) && (l.zip m).all (fun p => f p.1 p.2)
theorem eqL_miss {K : Type} (f : K → K → Bool) {l m : List K} {i : Nat} {x y : K} (h : l[i]? = some x) (h' : m[i]? = some y) (hf : f x y = false) : eqL f l m = false := by
  unfold eqL
  rw [all_miss _ (zip_get h h') (by simpa using hf), Bool.and_false]
theorem eqL_all {K : Type} (f : K → K → Bool) {l m : List K} (hl : l.length = m.length) {k : Nat} (hk : l.length ≤ k) (h : ((l.zip m).take k).all (fun p => f p.1 p.2) = true) : eqL f l m = true := by
  unfold eqL
  rw [List.take_of_length_le (by simp; omega)] at h
  simp [hl, h]
theorem eqL_len {K : Type} (f : K → K → Bool) {l m : List K} (hl : ¬ l.length = m.length) : eqL f l m = false := by simp [eqL, hl]
theorem eqL_refl {K : Type} (f : K → K → Bool) (hf : ∀ x, f x x = true) (l : List K) : eqL f l l = true := by
  unfold eqL
  simp only [decide_true, Bool.true_and]
  rw [List.all_eq_true]
  rintro ⟨a, b⟩ h
  obtain ⟨i, hi⟩ := List.getElem?_of_mem h
  rw [List.getElem?_zip_eq_some] at hi
  have := hi.1.symm.trans hi.2
  cases this
  exact hf a
def eqI (a b : Int) : Bool := decide (a = b)
def eqS (a b : ByteArray) : Bool := decide (a = b)
def eqN (a b : Ins) : Bool := decide (a.op = b.op) && decide (a.a = b.a)

def smP (a b : Pro) : Bool := decide (a.p = b.p) && decide (a.s = b.s) && decide (a.u = b.u) && eqL eqN a.code b.code
def smT (a b : Tbl) : Bool := decide (a.ret = b.ret) && decide (a.fin = b.fin) && eqL eqI a.ops b.ops
theorem eqI_refl (x : Int) : eqI x x = true := by simp [eqI]
theorem eqS_refl (x : ByteArray) : eqS x x = true := by simp [eqS]
theorem eqN_refl (x : Ins) : eqN x x = true := by simp [eqN]
theorem smP_refl (x : Pro) : smP x x = true := by simp [smP, eqL_refl eqN eqN_refl]
theorem smT_refl (x : Tbl) : smT x x = true := by simp [smT, eqL_refl eqI eqI_refl]
theorem PrV.len {W : World} {x : Pro} {ca : Option Addr} {cl cc : Nat} (h : PrV W x ca cl cc) : cl ≤ 9223372036854775807 := by
  have := h.2.2.2.1; have := h.2.2.2.2.1; unfold maxLen at *; omega

/-- The same modules. -/
def smM (a b : Mdl) : Bool := eqL eqI a.ints b.ints && eqL eqS a.texts b.texts && eqL smP a.pros b.pros && eqL smT a.tabs b.tabs
theorem smM_refl (a : Mdl) : smM a a = true := by simp [smM, eqL_refl eqI eqI_refl, eqL_refl eqS eqS_refl, eqL_refl smP smP_refl, eqL_refl smT smT_refl]

end Go.Proofs.YtndhhmgbekcfoaaDoor
