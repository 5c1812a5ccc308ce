import Derived.Test.YtinigblglaolmaaDoorW1
import Derived.Test.YtinigblglaolmaaDoorP1
namespace Go.Proofs.YtinigblglaolmaaDoor
open Go.RowKit
set_option linter.unusedVariables false
set_option linter.unusedSimpArgs false

theorem itoa_len (n : Int) (h0 : -9223372036854775808 ≤ n) (h1 : n ≤ 9223372036854775807) : (Lib.itoa n).length ≤ 100 := by
  have := dec_len 19 n.natAbs (by omega)
  rw [itoa_sgn, List.length_append]
  have h2 : (sgn n).length ≤ 1 := by unfold sgn; split <;> simp
  omega
set_option maxRecDepth 100000 in
set_option maxHeartbeats 1000000 in
theorem lexWords_any (s : ByteArray) (n : Int) (h0 : -9223372036854775808 ≤ n) (h1 : n ≤ 9223372036854775807) (w : World) (hE : Er w) : Calls Tryd.prog 4 #[.string s, .int .i64 n] w fun e w' => e = .returned (.bool true) ∧ BW w w' := by
  have hE' : Hid (Er w) := hE
  clear hE
  by_cases h : s.size ≤ 1000
  · have hq : ¬ (1000 : Int) < s.size := by omega
    have hlen := itoa_len n h0 h1
    have hl := lex_itoa n h0 h1 (by omega)
    have hw1 := fun w => word_any s h w
    have hw2 := fun w => refWord_any s h w
    have hnw : wordB (Lib.itoa n) = false := by unfold wordB; rw [num_itoa]; simp
    have hw3 : ∀ w, Calls Tryd.prog 13 #[.string ⟨(Lib.itoa n).toArray⟩] w fun e w' => e = .returned (.bool false) ∧ w' = w := fun w => by
      have := word_any ⟨(Lib.itoa n).toArray⟩ (by show (Lib.itoa n).toArray.size ≤ _; rw [List.size_toArray]; omega) w
      rw [show ((⟨(Lib.itoa n).toArray⟩ : ByteArray).data.toList) = Lib.itoa n from rfl, hnw] at this
      exact this
    generalize wordB s.data.toList = B at *
    go_enter Tryd.func4, Tryd.ntmps4
    go_wp2_with (first | (go_at_call 13; refine (hw1 _).mono ?_; rintro e w' ⟨rfl, rfl⟩) | (go_at_call 14; refine (hw2 _).mono ?_; rintro e w' ⟨rfl, rfl⟩))
    refine (number_any n h0 h1 _).mono ?_
    rintro e w1 ⟨rfl, hb1⟩
    go_wp2_with (fail)
    refine (lexTokens_any ⟨(Lib.itoa n).toArray⟩ w1 (hE'.out.bw hb1)).mono ?_
    rw [show ((⟨(Lib.itoa n).toArray⟩ : ByteArray).data.toList) = Lib.itoa n from rfl, hl]
    rintro e w2 ⟨ao, m, c, rfl, hown, hb2⟩
    obtain ⟨rfl, h0' | ⟨g, rfl, _, hgl, hc⟩⟩ := row_form hown
    · cases h0'
    obtain ⟨k0, k1, k2, k3⟩ := hc 0 _ rfl
    have e3 : ((⟨(Lib.itoa n).toArray⟩ : ByteArray).size - (Lib.itoa n).length : Nat) = 0 := by
      show (Lib.itoa n).toArray.size - _ = 0
      rw [List.size_toArray]; omega
    rw [e3] at k3
    simp only [Nat.zero_mul, Nat.zero_add] at k0 k1 k2 k3
    have hb12 := hb1.trans hb2
    clear hc hown hl e3
    go_wp2_with (fail)
    refine (number_any n h0 h1 _).mono ?_
    rintro e w3 ⟨rfl, hb3⟩
    have k0' : w3.cell? ⟨g, 0, none⟩ = some (.int .u8 4) := (hb3.cells g 0 hgl).trans k0
    have k1' : w3.cell? ⟨g, 1, none⟩ = some (.string ⟨#[]⟩) := (hb3.cells g 1 hgl).trans k1
    have k2' : w3.cell? ⟨g, 2, none⟩ = some (.int .i64 n) := (hb3.cells g 2 hgl).trans k2
    have k3' : w3.cell? ⟨g, 3, none⟩ = some (.int .i64 0) := (hb3.cells g 3 hgl).trans k3
    clear k0 k1 k2 k3
    have hE2' : Hid (Er w3) := hE'.out.bw (hb12.trans hb3)
    go_wp2_with (go_at_call 13; refine (hw3 _).mono ?_; rintro e w' ⟨rfl, rfl⟩)
    refine (awake_any _ hE2'.out).mono ?_
    rintro e w4 ⟨rfl, hw⟩
    go_wp2_with (fail)
    go_ret
    exact ⟨rfl, (hb12.trans hb3).trans hw⟩
  · have hq : (1000 : Int) < s.size := by omega
    go_enter Tryd.func4, Tryd.ntmps4
    go_wp2_with (go_at_call 9; refine (awake_any _ hE'.out).mono ?_; rintro e w' ⟨rfl, hw⟩)
    go_ret
    exact ⟨rfl, hw⟩

end Go.Proofs.YtinigblglaolmaaDoor
