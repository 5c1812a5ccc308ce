import Derived.Test.YtinigblglaolmaaDoorRows
import Derived.Test.YtinigblglaolmaaDoorR7
import Derived.ProofKit
import Derived.LaidMore
import Derived.OpenShut
import Derived.Stop.Joined
import Derived.Lib.LaidTab
import Derived.Stop.LaidErr
namespace Go.Proofs.YtinigblglaolmaaDoor
open Go.RowKit
set_option linter.unusedVariables false
set_option linter.unusedSimpArgs false

open Go.ChangeShapes Go.WideShapes Go.ChangeAt Go.Joins
theorem own : ownKnob Tryd.prog.godebug = none := by kernel_rfl
theorem laidOut : laidOutB Tryd.prog = true := by kernel_rfl
/-- What the rows list. -/
abbrev laid5 : List (String × DataW Unit) := Rows.lexTokensRow.laid
theorem door_met (os : Os) (args : Array Value) : laidMetH Tryd.prog laid5 ((World.doorLaid Tryd.prog 4000 os).forCall (fun _ _ => 0) ⟨#[], args, []⟩).memory :=
  laidMetH_of_parts3 (fuel := 8) (laidMet_of_run' 8 (by kernel_rfl) (by kernel_rfl)) (by kernel_rfl) (by kernel_rfl)
theorem Tryd.gR : Tryd.prog.globalNamed "strconv.ErrRange" = some 1 := by kernel_rfl
theorem Tryd.gRType : (Tryd.prog.globals[1]?).map (·.type) = some 65 := by kernel_rfl
theorem Tryd.cells87 : Tryd.prog.cellsOf 87 = 1 := by kernel_rfl
theorem Tryd.cells9' : Tryd.prog.cellsOf 9 = 1 := by kernel_rfl
theorem er_of_laid {W : World} (h : laidMetH Tryd.prog laid5 W) : Er W := by
  rw [MakeChecks.laidMetH_plain _ _ _ (by kernel_rfl)] at h
  obtain ⟨a0, s0, hv, _, _, _⟩ := laid_sentinel (laidMet.tail (laidMet.tail (laidMet.tail h))) Tryd.gR Tryd.gRType Tryd.underlying65 (fun u h => typeName_ptr_named (nm := "errors.errorString") (by kernel_rfl) (by kernel_rfl) (by decide) u h) Tryd.underlying85 Tryd.underlying87 rfl rfl Tryd.underlying9 Tryd.cells87 Tryd.cells9'
  exact ⟨_, _, by have h0 := World.var?_cell Tryd.gR hv 0; simpa using h0⟩

end Go.Proofs.YtinigblglaolmaaDoor
