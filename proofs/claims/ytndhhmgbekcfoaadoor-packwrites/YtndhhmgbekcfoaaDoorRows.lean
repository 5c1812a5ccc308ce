/-
  NARROWER THAN 'FOR EVERY INPUT', by the rows' own cells (each row's printed sentence says how): PackWrites: laid · PackReads: laid · PackCuts: laid · PackOne: laid · PackNumbers: laid.
  DERIVED. THE GIVEN ROWS OF THIS SEAT. 5 by the template 'for every input the law returns true; each argument reads behind the call as it read before'; 0 by the template 'total and deterministic' (their statements: YtndhhmgbekcfoaaDoorTotals.lean).
  GIVEN WITH THE SEED: the statements are not yours to turn. If you find one false, say at which input.
  Laid BY PROGRAM, IN A SANDBOX (cutbox-rows.mjs): the forced cells as the released guide's own fill.sh prints them over the translation c4ff837527a1cccf… (all of the seat's roots in one cut). By AI agents, Wed Nov 11 2026. No macro, syntax, notation, axiom, sorry.
-/
import Derived.Test.YtndhhmgbekcfoaaDoorChecked
import GoSem.Claim
import GoSem.ClaimJoined
import GoSem.ClaimMapViews
import Derived.JoinedTies
import Derived.KernelRfl
namespace Go.Proofs.YtndhhmgbekcfoaaDoor
/- THE CELL 'sum', in the pinned program and in every row, IS THE sha256 OF THE DUMP (.gsa) THAT YtndhhmgbekcfoaaDoorProg.lean LOADS. Nothing in Lean hashes anything: it is a label: what it is worth is what the hold of that sum in a sandbox is worth. -/
noncomputable def Tryd.pinned : Pinned := { name := "ytndhhmgbekcfoaadoor", sum := "c4ff837527a1cccfa0dfe1c6d92dd77213595b17a95beb6c2c28985cb2970221", checked := Tryd.checked }
namespace Rows
def none {H : Type} : Left H := { results := [], args := [] }

/- WHAT THE LISTED PACKAGE-LEVEL VARIABLES READ AS WHEN THE CALL BEGINS. Each datum BY PROGRAM (the guide's laid-datum.mjs) off the statement by which the dump's own 'gosem.cut.vars' lays the variable. In a bare row this is a premise. The card (YtndhhmgbekcfoaaDoorCards.lean) ties it to the program's text. -/
def laid_sacristan_tree_words {H : Type} : DataW H := .agg [.agg [.lit (.string [105, 110]), .lit (.int .i64 0)], .agg [.lit (.string [110, 101, 103]), .lit (.int .i64 1)], .agg [.lit (.string [110, 111, 116]), .lit (.int .i64 1)], .agg [.lit (.string [108, 101, 110]), .lit (.int .i64 1)], .agg [.lit (.string [105, 56]), .lit (.int .i64 1)], .agg [.lit (.string [105, 49, 54]), .lit (.int .i64 1)], .agg [.lit (.string [105, 51, 50]), .lit (.int .i64 1)], .agg [.lit (.string [117, 56]), .lit (.int .i64 1)], .agg [.lit (.string [117, 49, 54]), .lit (.int .i64 1)], .agg [.lit (.string [117, 51, 50]), .lit (.int .i64 1)], .agg [.lit (.string [102, 115, 116]), .lit (.int .i64 1)], .agg [.lit (.string [115, 110, 100]), .lit (.int .i64 1)], .agg [.lit (.string [99, 101, 108, 108]), .lit (.int .i64 1)], .agg [.lit (.string [103, 101, 116]), .lit (.int .i64 1)], .agg [.lit (.string [111, 117, 116]), .lit (.int .i64 1)], .agg [.lit (.string [43]), .lit (.int .i64 2)], .agg [.lit (.string [45]), .lit (.int .i64 2)], .agg [.lit (.string [42]), .lit (.int .i64 2)], .agg [.lit (.string [47]), .lit (.int .i64 2)], .agg [.lit (.string [37]), .lit (.int .i64 2)], .agg [.lit (.string [97, 110, 100]), .lit (.int .i64 2)], .agg [.lit (.string [111, 114]), .lit (.int .i64 2)], .agg [.lit (.string [120, 111, 114]), .lit (.int .i64 2)], .agg [.lit (.string [115, 104, 108]), .lit (.int .i64 2)], .agg [.lit (.string [115, 104, 114]), .lit (.int .i64 2)], .agg [.lit (.string [117, 115, 104, 114]), .lit (.int .i64 2)], .agg [.lit (.string [60]), .lit (.int .i64 2)], .agg [.lit (.string [61]), .lit (.int .i64 2)], .agg [.lit (.string [99, 97, 116]), .lit (.int .i64 2)], .agg [.lit (.string [97, 116]), .lit (.int .i64 2)], .agg [.lit (.string [112, 97, 105, 114]), .lit (.int .i64 2)], .agg [.lit (.string [115, 101, 116]), .lit (.int .i64 2)]]
def laid_sacristan_code_words {H : Type} : DataW H := .agg [.lit (.string [105, 110]), .lit (.string [110, 101, 103]), .lit (.string [110, 111, 116]), .lit (.string [108, 101, 110]), .lit (.string [105, 56]), .lit (.string [105, 49, 54]), .lit (.string [105, 51, 50]), .lit (.string [117, 56]), .lit (.string [117, 49, 54]), .lit (.string [117, 51, 50]), .lit (.string [102, 115, 116]), .lit (.string [115, 110, 100]), .lit (.string [99, 101, 108, 108]), .lit (.string [103, 101, 116]), .lit (.string [111, 117, 116]), .lit (.string [43]), .lit (.string [45]), .lit (.string [42]), .lit (.string [47]), .lit (.string [37]), .lit (.string [97, 110, 100]), .lit (.string [111, 114]), .lit (.string [120, 111, 114]), .lit (.string [115, 104, 108]), .lit (.string [115, 104, 114]), .lit (.string [117, 115, 104, 114]), .lit (.string [60]), .lit (.string [61]), .lit (.string [99, 97, 116]), .lit (.string [97, 116]), .lit (.string [112, 97, 105, 114]), .lit (.string [115, 101, 116])]

/-- 'sacristanlaw10.PackWrites': WHATEVER THE INPUT: true; the input reads as it did. -/
def packWritesSpec : ChangeSpec := { name := "packWrites", fn := fun _ => fun
  | [d] => { results := [.lit (.bool true)], args := [d] }
  | _ => none }
def packWritesRow : OpenClaim := { program := "ytndhhmgbekcfoaadoor", sum := "c4ff837527a1cccfa0dfe1c6d92dd77213595b17a95beb6c2c28985cb2970221", func := "sacristan/sacristanlaw10.PackWrites", spec := "packWrites", unfollowed := true, recurses := true, named := ["sacristan/code.words", "sacristan/tree.words"], apart := false, laid := [("sacristan/tree.words", laid_sacristan_tree_words), ("sacristan/code.words", laid_sacristan_code_words)] }
def PackWritesSaid : Prop := packWritesRow.holds Tryd.pinned (OpenSpec.ofChange packWritesSpec)

/-- ITS FALSE NEIGHBOUR: 'it returns false'. Refute it at one input. -/
def packWritesWrong : ChangeSpec := { name := "packWrites", fn := fun _ => fun
  | [d] => { results := [.lit (.bool false)], args := [d] }
  | _ => none }
def PackWritesWrongFalsely : Prop := packWritesRow.holds Tryd.pinned (OpenSpec.ofChange packWritesWrong)

/-- 'sacristanlaw10.PackReads': WHATEVER THE INPUT: true; the input reads as it did. -/
def packReadsSpec : ChangeSpec := { name := "packReads", fn := fun _ => fun
  | [d] => { results := [.lit (.bool true)], args := [d] }
  | _ => none }
def packReadsRow : OpenClaim := { program := "ytndhhmgbekcfoaadoor", sum := "c4ff837527a1cccfa0dfe1c6d92dd77213595b17a95beb6c2c28985cb2970221", func := "sacristan/sacristanlaw10.PackReads", spec := "packReads", unfollowed := true, recurses := true, named := ["sacristan/code.words", "sacristan/tree.words"], apart := false, laid := [("sacristan/tree.words", laid_sacristan_tree_words), ("sacristan/code.words", laid_sacristan_code_words)] }
def PackReadsSaid : Prop := packReadsRow.holds Tryd.pinned (OpenSpec.ofChange packReadsSpec)

/-- ITS FALSE NEIGHBOUR: 'it returns false'. Refute it at one input. -/
def packReadsWrong : ChangeSpec := { name := "packReads", fn := fun _ => fun
  | [d] => { results := [.lit (.bool false)], args := [d] }
  | _ => none }
def PackReadsWrongFalsely : Prop := packReadsRow.holds Tryd.pinned (OpenSpec.ofChange packReadsWrong)

/-- 'sacristanlaw10.PackCuts': WHATEVER THE INPUT: true; the input reads as it did. -/
def packCutsSpec : ChangeSpec := { name := "packCuts", fn := fun _ => fun
  | [d1, d2, d3] => { results := [.lit (.bool true)], args := [d1, d2, d3] }
  | _ => none }
def packCutsRow : OpenClaim := { program := "ytndhhmgbekcfoaadoor", sum := "c4ff837527a1cccfa0dfe1c6d92dd77213595b17a95beb6c2c28985cb2970221", func := "sacristan/sacristanlaw10.PackCuts", spec := "packCuts", unfollowed := true, recurses := true, named := ["sacristan/code.words", "sacristan/tree.words"], apart := false, laid := [("sacristan/tree.words", laid_sacristan_tree_words), ("sacristan/code.words", laid_sacristan_code_words)] }
def PackCutsSaid : Prop := packCutsRow.holds Tryd.pinned (OpenSpec.ofChange packCutsSpec)

/-- ITS FALSE NEIGHBOUR: 'it returns false'. Refute it at one input. -/
def packCutsWrong : ChangeSpec := { name := "packCuts", fn := fun _ => fun
  | [d1, d2, d3] => { results := [.lit (.bool false)], args := [d1, d2, d3] }
  | _ => none }
def PackCutsWrongFalsely : Prop := packCutsRow.holds Tryd.pinned (OpenSpec.ofChange packCutsWrong)

/-- 'sacristanlaw10.PackOne': WHATEVER THE INPUT: true; the input reads as it did. -/
def packOneSpec : ChangeSpec := { name := "packOne", fn := fun _ => fun
  | [d1, d2] => { results := [.lit (.bool true)], args := [d1, d2] }
  | _ => none }
def packOneRow : OpenClaim := { program := "ytndhhmgbekcfoaadoor", sum := "c4ff837527a1cccfa0dfe1c6d92dd77213595b17a95beb6c2c28985cb2970221", func := "sacristan/sacristanlaw10.PackOne", spec := "packOne", unfollowed := true, recurses := true, named := ["sacristan/code.words", "sacristan/tree.words"], apart := false, laid := [("sacristan/tree.words", laid_sacristan_tree_words), ("sacristan/code.words", laid_sacristan_code_words)] }
def PackOneSaid : Prop := packOneRow.holds Tryd.pinned (OpenSpec.ofChange packOneSpec)

/-- ITS FALSE NEIGHBOUR: 'it returns false'. Refute it at one input. -/
def packOneWrong : ChangeSpec := { name := "packOne", fn := fun _ => fun
  | [d1, d2] => { results := [.lit (.bool false)], args := [d1, d2] }
  | _ => none }
def PackOneWrongFalsely : Prop := packOneRow.holds Tryd.pinned (OpenSpec.ofChange packOneWrong)

/-- 'sacristanlaw10.PackNumbers': WHATEVER THE INPUT: true; the input reads as it did. -/
def packNumbersSpec : ChangeSpec := { name := "packNumbers", fn := fun _ => fun
  | [d1, d2] => { results := [.lit (.bool true)], args := [d1, d2] }
  | _ => none }
def packNumbersRow : OpenClaim := { program := "ytndhhmgbekcfoaadoor", sum := "c4ff837527a1cccfa0dfe1c6d92dd77213595b17a95beb6c2c28985cb2970221", func := "sacristan/sacristanlaw10.PackNumbers", spec := "packNumbers", unfollowed := true, recurses := true, named := ["sacristan/code.words", "sacristan/tree.words"], apart := false, laid := [("sacristan/tree.words", laid_sacristan_tree_words), ("sacristan/code.words", laid_sacristan_code_words)] }
def PackNumbersSaid : Prop := packNumbersRow.holds Tryd.pinned (OpenSpec.ofChange packNumbersSpec)

/-- ITS FALSE NEIGHBOUR: 'it returns false'. Refute it at one input. -/
def packNumbersWrong : ChangeSpec := { name := "packNumbers", fn := fun _ => fun
  | [d1, d2] => { results := [.lit (.bool false)], args := [d1, d2] }
  | _ => none }
def PackNumbersWrongFalsely : Prop := packNumbersRow.holds Tryd.pinned (OpenSpec.ofChange packNumbersWrong)

/- THE SECOND FORM. 'bulk': how many values and letters a reading holds, each counted each time it is reached (what is shared counts as often as it is met; a slice's spare places count too). A statement '..UptoSaid' is the law's where the arguments, and the package variables that the reading takes, are together of bulk at most 1048576: NARROWER than '..Said'. Prove '..Said' where nothing that the law and all that it calls make is longer than what came in: it says more and counts as full. Else prove '..UptoSaid'. A law counts once. -/
mutual
def uptoBulk {H : Type} : DataW H → Nat
  | .lit (.string bytes) => bytes.length + 1
  | .lit _ => 1
  | .nil => 1
  | .ptr d => uptoBulk d + 1
  | .slice elems spare => uptoBulkAll elems + uptoBulkAll spare + 1
  | .agg parts => uptoBulkAll parts + 1
  | .iface _ d => uptoBulk d + 1
  | .map entries => uptoBulkEntries entries + 1
  | .held _ => 1
def uptoBulkAll {H : Type} : List (DataW H) → Nat
  | [] => 0
  | d :: r => uptoBulk d + uptoBulkAll r
def uptoBulkEntries {H : Type} : List (Lit × DataW H) → Nat
  | [] => 0
  | x :: r => uptoBulkEntry x + uptoBulkEntries r
def uptoBulkEntry {H : Type} : Lit × DataW H → Nat
  | (.string bytes, d) => bytes.length + uptoBulk d + 1
  | (_, d) => uptoBulk d + 1
 end
def uptoSmall : (H : Type) → List (DataW H) → Bool := fun _ ds => decide (uptoBulkAll ds ≤ 1048576)
def OpenSpec.upto (s : _root_.Go.ChangeSpec) : _root_.Go.OpenSpec := { _root_.Go.OpenSpec.ofChange s with cond := some uptoSmall }

/-- 'sacristanlaw10.PackWrites', WHERE WHAT IT READS IS OF BULK AT MOST 1048576: true; the input reads as it did. -/
def packWritesUptoRow : OpenClaim := { program := "ytndhhmgbekcfoaadoor", sum := "c4ff837527a1cccfa0dfe1c6d92dd77213595b17a95beb6c2c28985cb2970221", func := "sacristan/sacristanlaw10.PackWrites", spec := "packWrites", unfollowed := true, recurses := true, named := ["sacristan/code.words", "sacristan/tree.words"], apart := false, laid := [("sacristan/tree.words", laid_sacristan_tree_words), ("sacristan/code.words", laid_sacristan_code_words)], narrowed := true }
def PackWritesUptoSaid : Prop := packWritesUptoRow.holds Tryd.pinned (OpenSpec.upto packWritesSpec)

/-- 'sacristanlaw10.PackReads', WHERE WHAT IT READS IS OF BULK AT MOST 1048576: true; the input reads as it did. -/
def packReadsUptoRow : OpenClaim := { program := "ytndhhmgbekcfoaadoor", sum := "c4ff837527a1cccfa0dfe1c6d92dd77213595b17a95beb6c2c28985cb2970221", func := "sacristan/sacristanlaw10.PackReads", spec := "packReads", unfollowed := true, recurses := true, named := ["sacristan/code.words", "sacristan/tree.words"], apart := false, laid := [("sacristan/tree.words", laid_sacristan_tree_words), ("sacristan/code.words", laid_sacristan_code_words)], narrowed := true }
def PackReadsUptoSaid : Prop := packReadsUptoRow.holds Tryd.pinned (OpenSpec.upto packReadsSpec)

/-- 'sacristanlaw10.PackCuts', WHERE WHAT IT READS IS OF BULK AT MOST 1048576: true; the input reads as it did. -/
def packCutsUptoRow : OpenClaim := { program := "ytndhhmgbekcfoaadoor", sum := "c4ff837527a1cccfa0dfe1c6d92dd77213595b17a95beb6c2c28985cb2970221", func := "sacristan/sacristanlaw10.PackCuts", spec := "packCuts", unfollowed := true, recurses := true, named := ["sacristan/code.words", "sacristan/tree.words"], apart := false, laid := [("sacristan/tree.words", laid_sacristan_tree_words), ("sacristan/code.words", laid_sacristan_code_words)], narrowed := true }
def PackCutsUptoSaid : Prop := packCutsUptoRow.holds Tryd.pinned (OpenSpec.upto packCutsSpec)

/-- 'sacristanlaw10.PackOne', WHERE WHAT IT READS IS OF BULK AT MOST 1048576: true; the input reads as it did. -/
def packOneUptoRow : OpenClaim := { program := "ytndhhmgbekcfoaadoor", sum := "c4ff837527a1cccfa0dfe1c6d92dd77213595b17a95beb6c2c28985cb2970221", func := "sacristan/sacristanlaw10.PackOne", spec := "packOne", unfollowed := true, recurses := true, named := ["sacristan/code.words", "sacristan/tree.words"], apart := false, laid := [("sacristan/tree.words", laid_sacristan_tree_words), ("sacristan/code.words", laid_sacristan_code_words)], narrowed := true }
def PackOneUptoSaid : Prop := packOneUptoRow.holds Tryd.pinned (OpenSpec.upto packOneSpec)

/-- 'sacristanlaw10.PackNumbers', WHERE WHAT IT READS IS OF BULK AT MOST 1048576: true; the input reads as it did. -/
def packNumbersUptoRow : OpenClaim := { program := "ytndhhmgbekcfoaadoor", sum := "c4ff837527a1cccfa0dfe1c6d92dd77213595b17a95beb6c2c28985cb2970221", func := "sacristan/sacristanlaw10.PackNumbers", spec := "packNumbers", unfollowed := true, recurses := true, named := ["sacristan/code.words", "sacristan/tree.words"], apart := false, laid := [("sacristan/tree.words", laid_sacristan_tree_words), ("sacristan/code.words", laid_sacristan_code_words)], narrowed := true }
def PackNumbersUptoSaid : Prop := packNumbersUptoRow.holds Tryd.pinned (OpenSpec.upto packNumbersSpec)

end Rows
end Go.Proofs.YtndhhmgbekcfoaaDoor
