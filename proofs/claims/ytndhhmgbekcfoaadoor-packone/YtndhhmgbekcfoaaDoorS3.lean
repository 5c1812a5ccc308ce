import Derived.Test.YtndhhmgbekcfoaaDoorS1
namespace Go.Proofs.YtndhhmgbekcfoaaDoor
open Go.RowKit
set_option linter.unusedVariables false
set_option linter.unusedSimpArgs false

def smP (a b : Pro) : Bool := decide (a.p = b.p) && decide (a.s = b.s) && decide (a.u = b.u) && eqL eqN a.code b.code
def smT (a b : Tbl) : Bool := decide (a.ret = b.ret) && decide (a.fin = b.fin) && eqL eqI a.ops b.ops
theorem eqI_refl (x : Int) : eqI x x = true := by simp [eqI]
theorem eqS_refl (x : ByteArray) : eqS x x = true := by simp [eqS]
theorem eqN_refl (x : Ins) : eqN x x = true := by simp [eqN]
theorem smP_refl (x : Pro) : smP x x = true := by simp [smP, eqL_refl eqN eqN_refl]
theorem smT_refl (x : Tbl) : smT x x = true := by simp [smT, eqL_refl eqI eqI_refl]
theorem PrV.len {W : World} {x : Pro} {ca : Option Addr} {cl cc : Nat} (h : PrV W x ca cl cc) : cl ≤ 9223372036854775807 := by
  have := h.2.2.2.1; have := h.2.2.2.2.1; unfold maxLen at *; omega

end Go.Proofs.YtndhhmgbekcfoaaDoor
