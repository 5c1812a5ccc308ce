import Derived.Test.YtndhhmgbekcfoaaDoorS3
import Derived.Test.YtndhhmgbekcfoaaDoorE1
namespace Go.Proofs.YtndhhmgbekcfoaaDoor
open Go.RowKit
set_option linter.unusedVariables false
set_option linter.unusedSimpArgs false

/-- The same modules. -/
def smM (a b : Mdl) : Bool := eqL eqI a.ints b.ints && eqL eqS a.texts b.texts && eqL smP a.pros b.pros && eqL smT a.tabs b.tabs
theorem smM_refl (a : Mdl) : smM a a = true := by simp [smM, eqL_refl eqI eqI_refl, eqL_refl eqS eqS_refl, eqL_refl smP smP_refl, eqL_refl smT smT_refl]

end Go.Proofs.YtndhhmgbekcfoaaDoor
