import Derived.Test.YtogeoaanlkeciaaDoorK5
namespace Go.Proofs.YtogeoaanlkeciaaDoor
open Go.RowKit
set_option linter.unusedVariables false
set_option linter.unusedSimpArgs false

theorem codeMore_any (r : Mw) (m : Mdl) (n : Int) (s : ByteArray) (w : World) (h : ModAt w r m) (hn : I64 n) (hs : s.size ≤ maxLen) (hv : Vs w) : Calls Tryd.prog 6 #[r.v, .int .i64 n, .string s] w fun e w' => e = .returned (.bool true) ∧ BW w w' := by
  have hs2 : s.size ≤ 9223372036854775807 := by unfold maxLen at hs; omega
  cases hg : gr m with
  | true => exact codeMore_early r m n s w h hv hs2 (.inl hg)
  | false =>
    cases hm : mayB m with
    | false => exact codeMore_early r m n s w h hv hs2 (.inr (.inl hm))
    | true =>
      by_cases hl : 1000 < s.size
      · exact codeMore_early r m n s w h hv hs2 (.inr (.inr hl))
      · obtain ⟨nI, nT, nP, nH, hN⟩ := nws_of h
        exact codeMore_main r m n s nI nT nP nH w h hv hn hg hm (by omega) hN

end Go.Proofs.YtogeoaanlkeciaaDoor
