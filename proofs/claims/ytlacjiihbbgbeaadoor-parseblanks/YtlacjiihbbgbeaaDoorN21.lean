import Derived.Test.YtlacjiihbbgbeaaDoorN20
namespace Go.Proofs.YtlacjiihbbgbeaaDoor
open Go.RowKit
set_option linter.unusedVariables false
set_option linter.unusedSimpArgs false

theorem formC_of {f : Nat} (ihN : NodeC f) (ihC : ∀ g, f = g + 1 → NodeC g) : FormC f := by
  intro rb B N d F st w hd hF h hG hrb
  simp only [fos, List.mem_cons, List.not_mem_nil, or_false] at hF
  rcases hF with rfl | rfl | rfl | rfl | rfl | rfl | rfl | rfl | rfl | rfl
  · exact form_six ihN rb B N d _ 1 (by decide) hd st w h hG hrb
  · exact form_more ihN rb B N d _ 7 1 (by decide) (by decide) (by decide) (by decide) hd st w h hG hrb
  · exact form_named ihN rb B N d _ 8 2 (by decide) (by decide) (by decide) (by decide) hd st w h hG hrb
  · exact form_plain ihN rb B N d _ 9 3 (by decide) (by decide) (by decide) (by decide) hd st w h hG hrb
  · exact form_more ihN rb B N d _ 10 1 (by decide) (by decide) (by decide) (by decide) hd st w h hG hrb
  · exact form_named ihN rb B N d _ 12 1 (by decide) (by decide) (by decide) (by decide) hd st w h hG hrb
  · exact form_hand ihN ihC rb B N d _ 1 (by decide) hd st w h hG hrb
  · exact form_plain ihN rb B N d _ 14 2 (by decide) (by decide) (by decide) (by decide) hd st w h hG hrb
  · exact form_plain ihN rb B N d _ 15 2 (by decide) (by decide) (by decide) (by decide) hd st w h hG hrb
  · exact form_plain ihN rb B N d _ 16 3 (by decide) (by decide) (by decide) (by decide) hd st w h hG hrb
theorem nodeC_both : ∀ f, NodeC f ∧ (∀ g, f = g + 1 → NodeC g) := by
  intro f
  induction f with
  | zero => exact ⟨node_zero, fun g h => by omega⟩
  | succ f ih =>
    refine ⟨node_succ (bracketed_of ih.1 (formC_of ih.1 ih.2)), fun g h => ?_⟩
    obtain rfl : f = g := by omega
    exact ih.1
theorem nodeC (f : Nat) : NodeC f := (nodeC_both f).1

end Go.Proofs.YtlacjiihbbgbeaaDoor
