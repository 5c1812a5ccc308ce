/-
  NARROWER THAN 'FOR EVERY INPUT', by the rows' own cells (each row's printed sentence says how): CodeMay: laid · CodeEffects: laid · CodeWords: laid · CodeMore: laid.
  DERIVED. THE GIVEN ROWS OF THIS SEAT. 4 by the template 'for every input the law returns true; each argument reads behind the call as it read before'; 0 by the template 'total and deterministic' (their statements: YtogeoaanlkeciaaDoorTotals.lean).
  GIVEN WITH THE SEED: the statements are not yours to turn. If you find one false, say at which input.
  Laid BY PROGRAM, IN A SANDBOX (cutbox-rows.mjs): the forced cells as the released guide's own fill.sh prints them over the translation a17d0568ef848de6… (all of the seat's roots in one cut). By AI agents, Wed Nov 11 2026. No macro, syntax, notation, axiom, sorry.
-/
import Derived.Test.YtogeoaanlkeciaaDoorChecked
import GoSem.Claim
import GoSem.ClaimJoined
import GoSem.ClaimMapViews
import Derived.JoinedTies
import Derived.KernelRfl
namespace Go.Proofs.YtogeoaanlkeciaaDoor
/- THE CELL 'sum', in the pinned program and in every row, IS THE sha256 OF THE DUMP (.gsa) THAT YtogeoaanlkeciaaDoorProg.lean LOADS. Nothing in Lean hashes anything: it is a label: what it is worth is what the hold of that sum in a sandbox is worth. -/
noncomputable def Tryd.pinned : Pinned := { name := "ytogeoaanlkeciaadoor", sum := "a17d0568ef848de69bfebc535c6055c2ca8dd42eab5d68cd80d80398e436cf37", checked := Tryd.checked }
namespace Rows
def none {H : Type} : Left H := { results := [], args := [] }

/- WHAT THE LISTED PACKAGE-LEVEL VARIABLES READ AS WHEN THE CALL BEGINS. Each datum BY PROGRAM (the guide's laid-datum.mjs) off the statement by which the dump's own 'gosem.cut.vars' lays the variable. In a bare row this is a premise. The card (YtogeoaanlkeciaaDoorCards.lean) ties it to the program's text. -/
def laid_sacristan_tree_words {H : Type} : DataW H := .agg [.agg [.lit (.string [105, 110]), .lit (.int .i64 0)], .agg [.lit (.string [110, 101, 103]), .lit (.int .i64 1)], .agg [.lit (.string [110, 111, 116]), .lit (.int .i64 1)], .agg [.lit (.string [108, 101, 110]), .lit (.int .i64 1)], .agg [.lit (.string [105, 56]), .lit (.int .i64 1)], .agg [.lit (.string [105, 49, 54]), .lit (.int .i64 1)], .agg [.lit (.string [105, 51, 50]), .lit (.int .i64 1)], .agg [.lit (.string [117, 56]), .lit (.int .i64 1)], .agg [.lit (.string [117, 49, 54]), .lit (.int .i64 1)], .agg [.lit (.string [117, 51, 50]), .lit (.int .i64 1)], .agg [.lit (.string [102, 115, 116]), .lit (.int .i64 1)], .agg [.lit (.string [115, 110, 100]), .lit (.int .i64 1)], .agg [.lit (.string [99, 101, 108, 108]), .lit (.int .i64 1)], .agg [.lit (.string [103, 101, 116]), .lit (.int .i64 1)], .agg [.lit (.string [111, 117, 116]), .lit (.int .i64 1)], .agg [.lit (.string [43]), .lit (.int .i64 2)], .agg [.lit (.string [45]), .lit (.int .i64 2)], .agg [.lit (.string [42]), .lit (.int .i64 2)], .agg [.lit (.string [47]), .lit (.int .i64 2)], .agg [.lit (.string [37]), .lit (.int .i64 2)], .agg [.lit (.string [97, 110, 100]), .lit (.int .i64 2)], .agg [.lit (.string [111, 114]), .lit (.int .i64 2)], .agg [.lit (.string [120, 111, 114]), .lit (.int .i64 2)], .agg [.lit (.string [115, 104, 108]), .lit (.int .i64 2)], .agg [.lit (.string [115, 104, 114]), .lit (.int .i64 2)], .agg [.lit (.string [117, 115, 104, 114]), .lit (.int .i64 2)], .agg [.lit (.string [60]), .lit (.int .i64 2)], .agg [.lit (.string [61]), .lit (.int .i64 2)], .agg [.lit (.string [99, 97, 116]), .lit (.int .i64 2)], .agg [.lit (.string [97, 116]), .lit (.int .i64 2)], .agg [.lit (.string [112, 97, 105, 114]), .lit (.int .i64 2)], .agg [.lit (.string [115, 101, 116]), .lit (.int .i64 2)]]
def laid_sacristan_code_words {H : Type} : DataW H := .agg [.lit (.string [105, 110]), .lit (.string [110, 101, 103]), .lit (.string [110, 111, 116]), .lit (.string [108, 101, 110]), .lit (.string [105, 56]), .lit (.string [105, 49, 54]), .lit (.string [105, 51, 50]), .lit (.string [117, 56]), .lit (.string [117, 49, 54]), .lit (.string [117, 51, 50]), .lit (.string [102, 115, 116]), .lit (.string [115, 110, 100]), .lit (.string [99, 101, 108, 108]), .lit (.string [103, 101, 116]), .lit (.string [111, 117, 116]), .lit (.string [43]), .lit (.string [45]), .lit (.string [42]), .lit (.string [47]), .lit (.string [37]), .lit (.string [97, 110, 100]), .lit (.string [111, 114]), .lit (.string [120, 111, 114]), .lit (.string [115, 104, 108]), .lit (.string [115, 104, 114]), .lit (.string [117, 115, 104, 114]), .lit (.string [60]), .lit (.string [61]), .lit (.string [99, 97, 116]), .lit (.string [97, 116]), .lit (.string [112, 97, 105, 114]), .lit (.string [115, 101, 116])]

/-- 'sacristanlaw09.CodeMay': WHATEVER THE INPUT: true; the input reads as it did. -/
def codeMaySpec : ChangeSpec := { name := "codeMay", fn := fun _ => fun
  | [d1, d2] => { results := [.lit (.bool true)], args := [d1, d2] }
  | _ => none }
def codeMayRow : OpenClaim := { program := "ytogeoaanlkeciaadoor", sum := "a17d0568ef848de69bfebc535c6055c2ca8dd42eab5d68cd80d80398e436cf37", func := "sacristan/sacristanlaw09.CodeMay", spec := "codeMay", unfollowed := true, recurses := true, named := ["sacristan/code.words", "sacristan/tree.words"], apart := false, laid := [("sacristan/tree.words", laid_sacristan_tree_words), ("sacristan/code.words", laid_sacristan_code_words)] }
def CodeMaySaid : Prop := codeMayRow.holds Tryd.pinned (OpenSpec.ofChange codeMaySpec)

/-- ITS FALSE NEIGHBOUR: 'it returns false'. Refute it at one input. -/
def codeMayWrong : ChangeSpec := { name := "codeMay", fn := fun _ => fun
  | [d1, d2] => { results := [.lit (.bool false)], args := [d1, d2] }
  | _ => none }
def CodeMayWrongFalsely : Prop := codeMayRow.holds Tryd.pinned (OpenSpec.ofChange codeMayWrong)

/-- 'sacristanlaw09.CodeEffects': WHATEVER THE INPUT: true; the input reads as it did. -/
def codeEffectsSpec : ChangeSpec := { name := "codeEffects", fn := fun _ => fun
  | [d1, d2] => { results := [.lit (.bool true)], args := [d1, d2] }
  | _ => none }
def codeEffectsRow : OpenClaim := { program := "ytogeoaanlkeciaadoor", sum := "a17d0568ef848de69bfebc535c6055c2ca8dd42eab5d68cd80d80398e436cf37", func := "sacristan/sacristanlaw09.CodeEffects", spec := "codeEffects", named := ["sacristan/code.words", "sacristan/tree.words"], apart := false, laid := [("sacristan/tree.words", laid_sacristan_tree_words), ("sacristan/code.words", laid_sacristan_code_words)] }
def CodeEffectsSaid : Prop := codeEffectsRow.holds Tryd.pinned (OpenSpec.ofChange codeEffectsSpec)

/-- ITS FALSE NEIGHBOUR: 'it returns false'. Refute it at one input. -/
def codeEffectsWrong : ChangeSpec := { name := "codeEffects", fn := fun _ => fun
  | [d1, d2] => { results := [.lit (.bool false)], args := [d1, d2] }
  | _ => none }
def CodeEffectsWrongFalsely : Prop := codeEffectsRow.holds Tryd.pinned (OpenSpec.ofChange codeEffectsWrong)

/-- 'sacristanlaw09.CodeWords': WHATEVER THE INPUT: true; the input reads as it did. -/
def codeWordsSpec : ChangeSpec := { name := "codeWords", fn := fun _ => fun
  | [d1, d2] => { results := [.lit (.bool true)], args := [d1, d2] }
  | _ => none }
def codeWordsRow : OpenClaim := { program := "ytogeoaanlkeciaadoor", sum := "a17d0568ef848de69bfebc535c6055c2ca8dd42eab5d68cd80d80398e436cf37", func := "sacristan/sacristanlaw09.CodeWords", spec := "codeWords", named := ["sacristan/code.words", "sacristan/tree.words"], apart := false, laid := [("sacristan/tree.words", laid_sacristan_tree_words), ("sacristan/code.words", laid_sacristan_code_words)] }
def CodeWordsSaid : Prop := codeWordsRow.holds Tryd.pinned (OpenSpec.ofChange codeWordsSpec)

/-- ITS FALSE NEIGHBOUR: 'it returns false'. Refute it at one input. -/
def codeWordsWrong : ChangeSpec := { name := "codeWords", fn := fun _ => fun
  | [d1, d2] => { results := [.lit (.bool false)], args := [d1, d2] }
  | _ => none }
def CodeWordsWrongFalsely : Prop := codeWordsRow.holds Tryd.pinned (OpenSpec.ofChange codeWordsWrong)

/-- 'sacristanlaw09.CodeMore': WHATEVER THE INPUT: true; the input reads as it did. -/
def codeMoreSpec : ChangeSpec := { name := "codeMore", fn := fun _ => fun
  | [d1, d2, d3] => { results := [.lit (.bool true)], args := [d1, d2, d3] }
  | _ => none }
def codeMoreRow : OpenClaim := { program := "ytogeoaanlkeciaadoor", sum := "a17d0568ef848de69bfebc535c6055c2ca8dd42eab5d68cd80d80398e436cf37", func := "sacristan/sacristanlaw09.CodeMore", spec := "codeMore", unfollowed := true, recurses := true, named := ["sacristan/code.words", "sacristan/tree.words"], apart := false, laid := [("sacristan/tree.words", laid_sacristan_tree_words), ("sacristan/code.words", laid_sacristan_code_words)] }
def CodeMoreSaid : Prop := codeMoreRow.holds Tryd.pinned (OpenSpec.ofChange codeMoreSpec)

/-- ITS FALSE NEIGHBOUR: 'it returns false'. Refute it at one input. -/
def codeMoreWrong : ChangeSpec := { name := "codeMore", fn := fun _ => fun
  | [d1, d2, d3] => { results := [.lit (.bool false)], args := [d1, d2, d3] }
  | _ => none }
def CodeMoreWrongFalsely : Prop := codeMoreRow.holds Tryd.pinned (OpenSpec.ofChange codeMoreWrong)

/- THE SECOND FORM. 'bulk': how many values and letters a reading holds, each counted each time it is reached (what is shared counts as often as it is met; a slice's spare places count too). A statement '..UptoSaid' is the law's where the arguments, and the package variables that the reading takes, are together of bulk at most 1048576: NARROWER than '..Said'. Prove '..Said' where nothing that the law and all that it calls make is longer than what came in: it says more and counts as full. Else prove '..UptoSaid'. A law counts once. -/
mutual
def uptoBulk {H : Type} : DataW H → Nat
  | .lit (.string bytes) => bytes.length + 1
  | .lit _ => 1
  | .nil => 1
  | .ptr d => uptoBulk d + 1
  | .slice elems spare => uptoBulkAll elems + uptoBulkAll spare + 1
  | .agg parts => uptoBulkAll parts + 1
  | .iface _ d => uptoBulk d + 1
  | .map entries => uptoBulkEntries entries + 1
  | .held _ => 1
def uptoBulkAll {H : Type} : List (DataW H) → Nat
  | [] => 0
  | d :: r => uptoBulk d + uptoBulkAll r
def uptoBulkEntries {H : Type} : List (Lit × DataW H) → Nat
  | [] => 0
  | x :: r => uptoBulkEntry x + uptoBulkEntries r
def uptoBulkEntry {H : Type} : Lit × DataW H → Nat
  | (.string bytes, d) => bytes.length + uptoBulk d + 1
  | (_, d) => uptoBulk d + 1
 end
def uptoSmall : (H : Type) → List (DataW H) → Bool := fun _ ds => decide (uptoBulkAll ds ≤ 1048576)
def OpenSpec.upto (s : _root_.Go.ChangeSpec) : _root_.Go.OpenSpec := { _root_.Go.OpenSpec.ofChange s with cond := some uptoSmall }

/-- 'sacristanlaw09.CodeMay', WHERE WHAT IT READS IS OF BULK AT MOST 1048576: true; the input reads as it did. -/
def codeMayUptoRow : OpenClaim := { program := "ytogeoaanlkeciaadoor", sum := "a17d0568ef848de69bfebc535c6055c2ca8dd42eab5d68cd80d80398e436cf37", func := "sacristan/sacristanlaw09.CodeMay", spec := "codeMay", unfollowed := true, recurses := true, named := ["sacristan/code.words", "sacristan/tree.words"], apart := false, laid := [("sacristan/tree.words", laid_sacristan_tree_words), ("sacristan/code.words", laid_sacristan_code_words)], narrowed := true }
def CodeMayUptoSaid : Prop := codeMayUptoRow.holds Tryd.pinned (OpenSpec.upto codeMaySpec)

/-- 'sacristanlaw09.CodeEffects', WHERE WHAT IT READS IS OF BULK AT MOST 1048576: true; the input reads as it did. -/
def codeEffectsUptoRow : OpenClaim := { program := "ytogeoaanlkeciaadoor", sum := "a17d0568ef848de69bfebc535c6055c2ca8dd42eab5d68cd80d80398e436cf37", func := "sacristan/sacristanlaw09.CodeEffects", spec := "codeEffects", named := ["sacristan/code.words", "sacristan/tree.words"], apart := false, laid := [("sacristan/tree.words", laid_sacristan_tree_words), ("sacristan/code.words", laid_sacristan_code_words)], narrowed := true }
def CodeEffectsUptoSaid : Prop := codeEffectsUptoRow.holds Tryd.pinned (OpenSpec.upto codeEffectsSpec)

/-- 'sacristanlaw09.CodeWords', WHERE WHAT IT READS IS OF BULK AT MOST 1048576: true; the input reads as it did. -/
def codeWordsUptoRow : OpenClaim := { program := "ytogeoaanlkeciaadoor", sum := "a17d0568ef848de69bfebc535c6055c2ca8dd42eab5d68cd80d80398e436cf37", func := "sacristan/sacristanlaw09.CodeWords", spec := "codeWords", named := ["sacristan/code.words", "sacristan/tree.words"], apart := false, laid := [("sacristan/tree.words", laid_sacristan_tree_words), ("sacristan/code.words", laid_sacristan_code_words)], narrowed := true }
def CodeWordsUptoSaid : Prop := codeWordsUptoRow.holds Tryd.pinned (OpenSpec.upto codeWordsSpec)

/-- 'sacristanlaw09.CodeMore', WHERE WHAT IT READS IS OF BULK AT MOST 1048576: true; the input reads as it did. -/
def codeMoreUptoRow : OpenClaim := { program := "ytogeoaanlkeciaadoor", sum := "a17d0568ef848de69bfebc535c6055c2ca8dd42eab5d68cd80d80398e436cf37", func := "sacristan/sacristanlaw09.CodeMore", spec := "codeMore", unfollowed := true, recurses := true, named := ["sacristan/code.words", "sacristan/tree.words"], apart := false, laid := [("sacristan/tree.words", laid_sacristan_tree_words), ("sacristan/code.words", laid_sacristan_code_words)], narrowed := true }
def CodeMoreUptoSaid : Prop := codeMoreUptoRow.holds Tryd.pinned (OpenSpec.upto codeMoreSpec)

end Rows
end Go.Proofs.YtogeoaanlkeciaaDoor
