import Derived.Test.YtinigblglaolmaaDoorQ3
namespace Go.Proofs.YtinigblglaolmaaDoor
open Go.RowKit
set_option linter.unusedVariables false
set_option linter.unusedSimpArgs false

set_option maxRecDepth 100000 in
set_option maxHeartbeats 1000000 in
theorem lexQuotes_any (s : ByteArray) (w : World) (hE : Er w) : Calls Tryd.prog 5 #[.string s] w fun e w' => e = .returned (.bool true) ∧ BW w w' := by
  have hE' : Hid (Er w) := hE
  clear hE
  by_cases h : s.size ≤ 1000
  · have hq : ¬ (1000 : Int) < s.size := by omega
    have hl := lex_quo s.data.toList (by simpa using h)
    go_enter Tryd.func5, Tryd.ntmps5
    go_wp2_with (fail)
    refine (refQuote_any s h w).mono ?_
    rintro e w1 ⟨rfl, hb1⟩
    go_wp2_with (fail)
    refine (lexTokens_any ⟨(quo s.data.toList).toArray⟩ w1 (hE'.out.bw hb1)).mono ?_
    rw [show ((⟨(quo s.data.toList).toArray⟩ : ByteArray).data.toList) = quo s.data.toList from rfl, hl]
    rintro e w2 ⟨ao, n, c, rfl, hown, hb2⟩
    obtain ⟨rfl, h0 | ⟨g, rfl, _, _, hc⟩⟩ := row_form hown
    · cases h0
    obtain ⟨k0, k1, k2, k3⟩ := hc 0 _ rfl
    have e3 : ((⟨(quo s.data.toList).toArray⟩ : ByteArray).size - (quo s.data.toList).length : Nat) = 0 := by
      show (quo s.data.toList).toArray.size - _ = 0
      rw [List.size_toArray]; omega
    rw [e3] at k3
    have e1 : sv s.data.toList = .string s := rfl
    rw [e1] at k1
    simp only [Nat.zero_mul, Nat.zero_add] at k0 k1 k2 k3
    have hb12 := hb1.trans hb2
    have hE2 := hE'.out.bw hb12
    have hE2' : Hid _ := hE2
    clear hc hown hl e3 e1 hE2
    go_wp2_with (fail)
    refine (awake_any w2 hE2'.out).mono ?_
    rintro e w3 ⟨rfl, hw⟩
    go_wp2_with (fail)
    go_ret
    exact ⟨rfl, hb12.trans hw⟩
  · have hq : (1000 : Int) < s.size := by omega
    go_enter Tryd.func5, Tryd.ntmps5
    go_wp2_with (go_at_call 9; refine (awake_any _ hE'.out).mono ?_; rintro e w' ⟨rfl, hw⟩)
    go_ret
    exact ⟨rfl, hw⟩

end Go.Proofs.YtinigblglaolmaaDoor
