import Derived.Test.YtinigblglaolmaaDoorT3
namespace Go.Proofs.YtinigblglaolmaaDoor
open Go.RowKit
set_option linter.unusedVariables false
set_option linter.unusedSimpArgs false

theorem refTokens_any (s : ByteArray) (w : World) : Calls Tryd.prog 11 #[.string s] w (PostF s w (lexAll s.data.toList)) := by
  have hl : s.data.toList.length = s.size := by simp
  unfold lexAll
  rw [hl]
  by_cases h : 65536 < s.size
  · rw [if_pos h]
    refine (refTokens_long s h w).mono ?_
    rintro e w' ⟨⟨ao, c, rfl⟩, hb⟩
    exact ⟨ao, c, by rw [show s.size - (s.size - 65536) = 65536 by omega]; rfl, hb⟩
  · rw [if_neg h]
    exact refTokens_ok s h w
set_option maxRecDepth 100000 in
set_option maxHeartbeats 1000000 in
theorem lexTokensLaw_any (s : ByteArray) (w : World) (hE : Er w) : Calls Tryd.prog 3 #[.string s] w fun e w' => e = .returned (.bool true) ∧ BW w w' := by
  have hE' : Hid (Er w) := hE
  clear hE
  by_cases h : s.size ≤ 70000
  · have hq : ¬ (70000 : Int) < s.size := by omega
    cases hL : lexAll s.data.toList with
    | error x =>
      obtain ⟨bk, k⟩ := x
      go_enter Tryd.func3, Tryd.ntmps3
      go_wp2_with (fail)
      refine (lexTokens_any s w hE'.out).mono ?_
      rw [hL]
      rintro e w1 ⟨rfl, hb1⟩
      go_wp2_with (fail)
      refine (refTokens_any s w1).mono ?_
      rw [hL]
      rintro e w2 ⟨ao, c, rfl, hb2⟩
      go_wp2_with (fail)
      refine (same_any none ao 0 0 0 c 0 [] (by simp) w2 (row_empty _ _ _) (row_empty _ _ _)).mono ?_
      rintro e w3 ⟨rfl, hb3⟩
      have hbf := (hb1.trans hb2).trans hb3
      have hE7 : Hid (Er w3) := hE'.out.bw hbf
      go_wp2_with (go_at_call 9; refine (awake_any _ hE7.out).mono ?_; rintro e w' ⟨rfl, hw⟩)
      go_ret
      exact ⟨rfl, hbf.trans hw⟩
    | ok ts =>
      have htl : ts.length ≤ 100000 := by
        have := good_len (lexAll_good hL)
        have hl : s.data.toList.length = s.size := by simp
        omega
      go_enter Tryd.func3, Tryd.ntmps3
      go_wp2_with (fail)
      refine (lexTokens_any s w hE'.out).mono ?_
      rw [hL]
      rintro e w1 ⟨ao1, n1, c1, rfl, hown1, hb1⟩
      go_wp2_with (fail)
      refine (refTokens_any s w1).mono ?_
      rw [hL]
      rintro e w2 ⟨ao2, n2, c2, rfl, hown2, hb2⟩
      have R1 : Hid (RowIs w2 ao1 n1 s.size ts) := (RowIs.of hown1).bw hb2
      have R2 : Hid (RowIs w2 ao2 n2 s.size ts) := RowIs.of hown2
      clear hown1 hown2
      go_wp2_with (fail)
      refine (same_any ao1 ao2 n1 c1 n2 c2 s.size ts htl w2 R1.out R2.out).mono ?_
      rintro e w3 ⟨rfl, hb3⟩
      have hbf := (hb1.trans hb2).trans hb3
      have hE7 : Hid (Er w3) := hE'.out.bw hbf
      go_wp2_with (go_at_call 9; refine (awake_any _ hE7.out).mono ?_; rintro e w' ⟨rfl, hw⟩)
      go_ret
      exact ⟨rfl, hbf.trans hw⟩
  · have hq : (70000 : Int) < s.size := by omega
    go_enter Tryd.func3, Tryd.ntmps3
    go_wp2_with (go_at_call 9; refine (awake_any _ hE'.out).mono ?_; rintro e w' ⟨rfl, hw⟩)
    go_ret
    exact ⟨rfl, hw⟩

end Go.Proofs.YtinigblglaolmaaDoor
