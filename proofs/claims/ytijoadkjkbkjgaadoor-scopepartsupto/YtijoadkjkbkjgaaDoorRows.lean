/-
  NARROWER THAN 'FOR EVERY INPUT', by the rows' own cells (each row's printed sentence says how): ScopeFree: loops, laid · ScopeBinds: loops, laid · ScopeParts: loops, laid · ScopeLets: laid.
  DERIVED. THE GIVEN ROWS OF THIS SEAT. 4 by the template 'for every input the law returns true; each argument reads behind the call as it read before'; 0 by the template 'total and deterministic' (their statements: YtijoadkjkbkjgaaDoorTotals.lean).
  GIVEN WITH THE SEED: the statements are not yours to turn. If you find one false, say at which input.
  Laid BY PROGRAM, IN A SANDBOX (cutbox-rows.mjs): the forced cells as the released guide's own fill.sh prints them over the translation 1479427370917519… (all of the seat's roots in one cut). By AI agents, Wed Nov 11 2026. No macro, syntax, notation, axiom, sorry.
-/
import Derived.Test.YtijoadkjkbkjgaaDoorChecked
import GoSem.Claim
import GoSem.ClaimJoined
import GoSem.ClaimMapViews
import Derived.JoinedTies
import Derived.KernelRfl
namespace Go.Proofs.YtijoadkjkbkjgaaDoor
/- THE CELL 'sum', in the pinned program and in every row, IS THE sha256 OF THE DUMP (.gsa) THAT YtijoadkjkbkjgaaDoorProg.lean LOADS. Nothing in Lean hashes anything: it is a label: what it is worth is what the hold of that sum in a sandbox is worth. -/
noncomputable def Tryd.pinned : Pinned := { name := "ytijoadkjkbkjgaadoor", sum := "1479427370917519b883d1f97be433244bfd2e2d0157f5070af71aa8d2d28304", checked := Tryd.checked }
namespace Rows
def none {H : Type} : Left H := { results := [], args := [] }

/- WHAT THE LISTED PACKAGE-LEVEL VARIABLES READ AS WHEN THE CALL BEGINS. Each datum BY PROGRAM (the guide's laid-datum.mjs) off the statement by which the dump's own 'gosem.cut.vars' lays the variable. In a bare row this is a premise. The card (YtijoadkjkbkjgaaDoorCards.lean) ties it to the program's text. -/
def laid_sacristan_tree_words {H : Type} : DataW H := .agg [.agg [.lit (.string [105, 110]), .lit (.int .i64 0)], .agg [.lit (.string [110, 101, 103]), .lit (.int .i64 1)], .agg [.lit (.string [110, 111, 116]), .lit (.int .i64 1)], .agg [.lit (.string [108, 101, 110]), .lit (.int .i64 1)], .agg [.lit (.string [105, 56]), .lit (.int .i64 1)], .agg [.lit (.string [105, 49, 54]), .lit (.int .i64 1)], .agg [.lit (.string [105, 51, 50]), .lit (.int .i64 1)], .agg [.lit (.string [117, 56]), .lit (.int .i64 1)], .agg [.lit (.string [117, 49, 54]), .lit (.int .i64 1)], .agg [.lit (.string [117, 51, 50]), .lit (.int .i64 1)], .agg [.lit (.string [102, 115, 116]), .lit (.int .i64 1)], .agg [.lit (.string [115, 110, 100]), .lit (.int .i64 1)], .agg [.lit (.string [99, 101, 108, 108]), .lit (.int .i64 1)], .agg [.lit (.string [103, 101, 116]), .lit (.int .i64 1)], .agg [.lit (.string [111, 117, 116]), .lit (.int .i64 1)], .agg [.lit (.string [43]), .lit (.int .i64 2)], .agg [.lit (.string [45]), .lit (.int .i64 2)], .agg [.lit (.string [42]), .lit (.int .i64 2)], .agg [.lit (.string [47]), .lit (.int .i64 2)], .agg [.lit (.string [37]), .lit (.int .i64 2)], .agg [.lit (.string [97, 110, 100]), .lit (.int .i64 2)], .agg [.lit (.string [111, 114]), .lit (.int .i64 2)], .agg [.lit (.string [120, 111, 114]), .lit (.int .i64 2)], .agg [.lit (.string [115, 104, 108]), .lit (.int .i64 2)], .agg [.lit (.string [115, 104, 114]), .lit (.int .i64 2)], .agg [.lit (.string [117, 115, 104, 114]), .lit (.int .i64 2)], .agg [.lit (.string [60]), .lit (.int .i64 2)], .agg [.lit (.string [61]), .lit (.int .i64 2)], .agg [.lit (.string [99, 97, 116]), .lit (.int .i64 2)], .agg [.lit (.string [97, 116]), .lit (.int .i64 2)], .agg [.lit (.string [112, 97, 105, 114]), .lit (.int .i64 2)], .agg [.lit (.string [115, 101, 116]), .lit (.int .i64 2)]]

/-- 'sacristanlaw07.ScopeFree': WHATEVER THE INPUT: true; the input reads as it did. -/
def scopeFreeSpec : ChangeSpec := { name := "scopeFree", fn := fun _ => fun
  | [d] => { results := [.lit (.bool true)], args := [d] }
  | _ => none }
def scopeFreeRow : OpenClaim := { program := "ytijoadkjkbkjgaadoor", sum := "1479427370917519b883d1f97be433244bfd2e2d0157f5070af71aa8d2d28304", func := "sacristan/sacristanlaw07.ScopeFree", spec := "scopeFree", unfollowed := true, recurses := true, named := ["sacristan/tree.words"], loops := true, apart := false, laid := [("sacristan/tree.words", laid_sacristan_tree_words)] }
def ScopeFreeSaid : Prop := scopeFreeRow.holds Tryd.pinned (OpenSpec.ofChange scopeFreeSpec)

/-- ITS FALSE NEIGHBOUR: 'it returns false'. Refute it at one input. -/
def scopeFreeWrong : ChangeSpec := { name := "scopeFree", fn := fun _ => fun
  | [d] => { results := [.lit (.bool false)], args := [d] }
  | _ => none }
def ScopeFreeWrongFalsely : Prop := scopeFreeRow.holds Tryd.pinned (OpenSpec.ofChange scopeFreeWrong)

/-- 'sacristanlaw07.ScopeBinds': WHATEVER THE INPUT: true; the input reads as it did. -/
def scopeBindsSpec : ChangeSpec := { name := "scopeBinds", fn := fun _ => fun
  | [d1, d2] => { results := [.lit (.bool true)], args := [d1, d2] }
  | _ => none }
def scopeBindsRow : OpenClaim := { program := "ytijoadkjkbkjgaadoor", sum := "1479427370917519b883d1f97be433244bfd2e2d0157f5070af71aa8d2d28304", func := "sacristan/sacristanlaw07.ScopeBinds", spec := "scopeBinds", unfollowed := true, recurses := true, named := ["sacristan/tree.words"], loops := true, apart := false, laid := [("sacristan/tree.words", laid_sacristan_tree_words)] }
def ScopeBindsSaid : Prop := scopeBindsRow.holds Tryd.pinned (OpenSpec.ofChange scopeBindsSpec)

/-- ITS FALSE NEIGHBOUR: 'it returns false'. Refute it at one input. -/
def scopeBindsWrong : ChangeSpec := { name := "scopeBinds", fn := fun _ => fun
  | [d1, d2] => { results := [.lit (.bool false)], args := [d1, d2] }
  | _ => none }
def ScopeBindsWrongFalsely : Prop := scopeBindsRow.holds Tryd.pinned (OpenSpec.ofChange scopeBindsWrong)

/-- 'sacristanlaw07.ScopeParts': WHATEVER THE INPUT: true; the input reads as it did. -/
def scopePartsSpec : ChangeSpec := { name := "scopeParts", fn := fun _ => fun
  | [d1, d2, d3] => { results := [.lit (.bool true)], args := [d1, d2, d3] }
  | _ => none }
def scopePartsRow : OpenClaim := { program := "ytijoadkjkbkjgaadoor", sum := "1479427370917519b883d1f97be433244bfd2e2d0157f5070af71aa8d2d28304", func := "sacristan/sacristanlaw07.ScopeParts", spec := "scopeParts", unfollowed := true, recurses := true, named := ["sacristan/tree.words"], loops := true, apart := false, laid := [("sacristan/tree.words", laid_sacristan_tree_words)] }
def ScopePartsSaid : Prop := scopePartsRow.holds Tryd.pinned (OpenSpec.ofChange scopePartsSpec)

/-- ITS FALSE NEIGHBOUR: 'it returns false'. Refute it at one input. -/
def scopePartsWrong : ChangeSpec := { name := "scopeParts", fn := fun _ => fun
  | [d1, d2, d3] => { results := [.lit (.bool false)], args := [d1, d2, d3] }
  | _ => none }
def ScopePartsWrongFalsely : Prop := scopePartsRow.holds Tryd.pinned (OpenSpec.ofChange scopePartsWrong)

/-- 'sacristanlaw07.ScopeLets': WHATEVER THE INPUT: true; the input reads as it did. -/
def scopeLetsSpec : ChangeSpec := { name := "scopeLets", fn := fun _ => fun
  | [d1, d2] => { results := [.lit (.bool true)], args := [d1, d2] }
  | _ => none }
def scopeLetsRow : OpenClaim := { program := "ytijoadkjkbkjgaadoor", sum := "1479427370917519b883d1f97be433244bfd2e2d0157f5070af71aa8d2d28304", func := "sacristan/sacristanlaw07.ScopeLets", spec := "scopeLets", unfollowed := true, recurses := true, named := ["sacristan/tree.words"], apart := false, laid := [("sacristan/tree.words", laid_sacristan_tree_words)] }
def ScopeLetsSaid : Prop := scopeLetsRow.holds Tryd.pinned (OpenSpec.ofChange scopeLetsSpec)

/-- ITS FALSE NEIGHBOUR: 'it returns false'. Refute it at one input. -/
def scopeLetsWrong : ChangeSpec := { name := "scopeLets", fn := fun _ => fun
  | [d1, d2] => { results := [.lit (.bool false)], args := [d1, d2] }
  | _ => none }
def ScopeLetsWrongFalsely : Prop := scopeLetsRow.holds Tryd.pinned (OpenSpec.ofChange scopeLetsWrong)

/- THE SECOND FORM. 'bulk': how many values and letters a reading holds, each counted each time it is reached (what is shared counts as often as it is met; a slice's spare places count too). A statement '..UptoSaid' is the law's where the arguments, and the package variables that the reading takes, are together of bulk at most 1048576: NARROWER than '..Said'. Prove '..Said' where nothing that the law and all that it calls make is longer than what came in: it says more and counts as full. Else prove '..UptoSaid'. A law counts once. -/
mutual
def uptoBulk {H : Type} : DataW H → Nat
  | .lit (.string bytes) => bytes.length + 1
  | .lit _ => 1
  | .nil => 1
  | .ptr d => uptoBulk d + 1
  | .slice elems spare => uptoBulkAll elems + uptoBulkAll spare + 1
  | .agg parts => uptoBulkAll parts + 1
  | .iface _ d => uptoBulk d + 1
  | .map entries => uptoBulkEntries entries + 1
  | .held _ => 1
def uptoBulkAll {H : Type} : List (DataW H) → Nat
  | [] => 0
  | d :: r => uptoBulk d + uptoBulkAll r
def uptoBulkEntries {H : Type} : List (Lit × DataW H) → Nat
  | [] => 0
  | x :: r => uptoBulkEntry x + uptoBulkEntries r
def uptoBulkEntry {H : Type} : Lit × DataW H → Nat
  | (.string bytes, d) => bytes.length + uptoBulk d + 1
  | (_, d) => uptoBulk d + 1
 end
def uptoSmall : (H : Type) → List (DataW H) → Bool := fun _ ds => decide (uptoBulkAll ds ≤ 1048576)
def OpenSpec.upto (s : _root_.Go.ChangeSpec) : _root_.Go.OpenSpec := { _root_.Go.OpenSpec.ofChange s with cond := some uptoSmall }

/-- 'sacristanlaw07.ScopeFree', WHERE WHAT IT READS IS OF BULK AT MOST 1048576: true; the input reads as it did. -/
def scopeFreeUptoRow : OpenClaim := { program := "ytijoadkjkbkjgaadoor", sum := "1479427370917519b883d1f97be433244bfd2e2d0157f5070af71aa8d2d28304", func := "sacristan/sacristanlaw07.ScopeFree", spec := "scopeFree", unfollowed := true, recurses := true, named := ["sacristan/tree.words"], loops := true, apart := false, laid := [("sacristan/tree.words", laid_sacristan_tree_words)], narrowed := true }
def ScopeFreeUptoSaid : Prop := scopeFreeUptoRow.holds Tryd.pinned (OpenSpec.upto scopeFreeSpec)

/-- 'sacristanlaw07.ScopeBinds', WHERE WHAT IT READS IS OF BULK AT MOST 1048576: true; the input reads as it did. -/
def scopeBindsUptoRow : OpenClaim := { program := "ytijoadkjkbkjgaadoor", sum := "1479427370917519b883d1f97be433244bfd2e2d0157f5070af71aa8d2d28304", func := "sacristan/sacristanlaw07.ScopeBinds", spec := "scopeBinds", unfollowed := true, recurses := true, named := ["sacristan/tree.words"], loops := true, apart := false, laid := [("sacristan/tree.words", laid_sacristan_tree_words)], narrowed := true }
def ScopeBindsUptoSaid : Prop := scopeBindsUptoRow.holds Tryd.pinned (OpenSpec.upto scopeBindsSpec)

/-- 'sacristanlaw07.ScopeParts', WHERE WHAT IT READS IS OF BULK AT MOST 1048576: true; the input reads as it did. -/
def scopePartsUptoRow : OpenClaim := { program := "ytijoadkjkbkjgaadoor", sum := "1479427370917519b883d1f97be433244bfd2e2d0157f5070af71aa8d2d28304", func := "sacristan/sacristanlaw07.ScopeParts", spec := "scopeParts", unfollowed := true, recurses := true, named := ["sacristan/tree.words"], loops := true, apart := false, laid := [("sacristan/tree.words", laid_sacristan_tree_words)], narrowed := true }
def ScopePartsUptoSaid : Prop := scopePartsUptoRow.holds Tryd.pinned (OpenSpec.upto scopePartsSpec)

/-- 'sacristanlaw07.ScopeLets', WHERE WHAT IT READS IS OF BULK AT MOST 1048576: true; the input reads as it did. -/
def scopeLetsUptoRow : OpenClaim := { program := "ytijoadkjkbkjgaadoor", sum := "1479427370917519b883d1f97be433244bfd2e2d0157f5070af71aa8d2d28304", func := "sacristan/sacristanlaw07.ScopeLets", spec := "scopeLets", unfollowed := true, recurses := true, named := ["sacristan/tree.words"], apart := false, laid := [("sacristan/tree.words", laid_sacristan_tree_words)], narrowed := true }
def ScopeLetsUptoSaid : Prop := scopeLetsUptoRow.holds Tryd.pinned (OpenSpec.upto scopeLetsSpec)

end Rows
end Go.Proofs.YtijoadkjkbkjgaaDoor
