import Derived.Test.YtbiahgjlgojhdaaM3
import Derived.Test.YtbiahgjlgojhdaaB4
import Derived.Deep.RegionWith
import Derived.Deep.RegionHeld3
import Derived.Deep.DeepCutAuto
namespace Go.Proofs.Ytbiahgjlgojhdaa
open Go.RowKit
set_option linter.unusedVariables false
def m63 (n : Int) : Int := n % 9223372036854775808
def half (m : Int) (j : Nat) : Int := m / 2 ^ j
theorem m63_pos (n : Int) (h0 : 0 ≤ n) (h1 : n ≤ 9223372036854775807) : m63 n = n := by unfold m63; omega
theorem m63_neg (n : Int) (h0 : -9223372036854775808 ≤ n) (h1 : n < 0) : m63 n = n + 9223372036854775807 + 1 := by unfold m63; omega
theorem m63_bd (n : Int) : 0 ≤ m63 n ∧ m63 n ≤ 9223372036854775807 := by unfold m63; omega
theorem half_bd (n : Int) (j : Nat) : 0 ≤ half (m63 n) j ∧ half (m63 n) j ≤ 9223372036854775807 := by
  have h := m63_bd n
  unfold half
  exact ⟨Int.ediv_nonneg h.1 (Int.le_of_lt (Int.pow_pos (by decide))), Int.le_trans (Int.ediv_le_self _ h.1) h.2⟩
theorem half_zero (m : Int) : half m 0 = m := by unfold half; simp
theorem half_succ (m : Int) (j : Nat) : half m (j + 1) = half m j / 2 := by
  unfold half
  rw [Int.pow_succ, Int.ediv_ediv_of_nonneg (Int.le_of_lt (Int.pow_pos (by decide)))]
theorem bit_low (n : Int) (i : Nat) (hi : i < 63) : bitB n i = (half (m63 n) i % 2 == 1) := by
  have e : (n % 9223372036854775808).toNat = (n % 18446744073709551616).toNat % 2 ^ 63 := by omega
  have h1 : bitB n i = ((n % 9223372036854775808).toNat).testBit i := by
    unfold bitB; rw [e, Nat.testBit_mod_two_pow]; simp; omega
  have hn : (0 : Int) ≤ n % 9223372036854775808 := Int.emod_nonneg _ (by decide)
  obtain ⟨x, hx⟩ := Int.eq_ofNat_of_zero_le hn
  rw [h1, testBit_div]
  unfold half m63
  rw [hx]
  have e1 : ((x : Int)).toNat = x := by simp
  have e2 : (x : Int) / 2 ^ i = ((x / 2 ^ i : Nat) : Int) := by rw [Int.natCast_ediv]; simp
  rw [e1, e2]
  generalize x / 2 ^ i = q
  by_cases hq : q % 2 = 1
  · have : ((q : Int) % 2) = 1 := by omega
    rw [hq, this]; rfl
  · have : ¬ ((q : Int) % 2) = 1 := by omega
    rw [beq_eq_false_iff_ne.2 hq, beq_eq_false_iff_ne.2 this]
theorem bit_high (n : Int) (h0 : -9223372036854775808 ≤ n) (h1 : n ≤ 9223372036854775807) : bitB n 63 = decide (n < 0) := by
  unfold bitB
  rw [testBit_div]
  have : (n % 18446744073709551616).toNat / 2 ^ 63 % 2 = if n < 0 then 1 else 0 := by split <;> omega
  rw [this]
  by_cases hx : n < 0 <;> simp [hx]
set_option maxRecDepth 100000 in
set_option maxHeartbeats 400000 in
theorem bit_63 (n : Int) (w : World) :
    Calls Try.prog 49 #[.int .i64 n, .int .i64 63] w fun e w' => e = .returned (.bool (decide (n < 0))) ∧ w' = w := by
  go_enter Try.func49, Try.ntmps49
  go_wp2
  go_ret
  exact ⟨rfl, rfl⟩
set_option maxRecDepth 100000 in
set_option maxHeartbeats 400000 in
theorem bit_pos (n : Int) (i : Nat) (hi : i < 63) (h0 : 0 ≤ n) (h1 : n ≤ 9223372036854775807) (w : World) :
    Calls Try.prog 49 #[.int .i64 n, .int .i64 (i : Int)] w fun e w' => e = .returned (.bool (half (m63 n) i % 2 == 1)) ∧ w' = w := by
  have hne : ((i : Int) == 63) = false := by simp; omega
  go_enter Try.func49, Try.ntmps49
  go_wp2
  go_loop [5, 6] (fun m k => ∃ j : Nat, j ≤ i ∧ k = .int .i64 j ∧ m = .int .i64 (half (m63 n) j)) (fun _ k => i - (intOf k).toNat)
  case atStart => exact ⟨0, Nat.zero_le _, rfl, by rw [half_zero, m63_pos n h0 h1]⟩
  case round =>
    obtain ⟨j, hj, rfl, rfl⟩ := hrel
    have hb := half_bd n j
    obtain ⟨hb0, hb1⟩ := hb
    by_cases hlt : j < i
    · have hlt' : (j : Int) < (i : Int) := by omega
      go_wp2
      go_round
      case rel => exact ⟨j + 1, by omega, by go_num, by rw [half_succ]⟩
      case measure => simp [intOf]; omega
    · have hji : j = i := by omega
      subst hji
      go_wp2
      go_ret
      exact ⟨rfl, rfl⟩
set_option maxRecDepth 100000 in
set_option maxHeartbeats 400000 in
theorem bit_neg (n : Int) (i : Nat) (hi : i < 63) (h0 : -9223372036854775808 ≤ n) (h1 : n < 0) (w : World) :
    Calls Try.prog 49 #[.int .i64 n, .int .i64 (i : Int)] w fun e w' => e = .returned (.bool (half (m63 n) i % 2 == 1)) ∧ w' = w := by
  have hne : ((i : Int) == 63) = false := by simp; omega
  go_enter Try.func49, Try.ntmps49
  go_wp2
  go_loop [5, 6] (fun m k => ∃ j : Nat, j ≤ i ∧ k = .int .i64 j ∧ m = .int .i64 (half (m63 n) j)) (fun _ k => i - (intOf k).toNat)
  case atStart => exact ⟨0, Nat.zero_le _, rfl, by rw [half_zero, m63_neg n h0 h1]⟩
  case round =>
    obtain ⟨j, hj, rfl, rfl⟩ := hrel
    have hb := half_bd n j
    obtain ⟨hb0, hb1⟩ := hb
    by_cases hlt : j < i
    · have hlt' : (j : Int) < (i : Int) := by omega
      go_wp2
      go_round
      case rel => exact ⟨j + 1, by omega, by go_num, by rw [half_succ]⟩
      case measure => simp [intOf]; omega
    · have hji : j = i := by omega
      subst hji
      go_wp2
      go_ret
      exact ⟨rfl, rfl⟩
theorem bit_any (n : Int) (h0 : -9223372036854775808 ≤ n) (h1 : n ≤ 9223372036854775807) (i : Nat) (hi : i ≤ 63) (w : World) :
    Calls Try.prog 49 #[.int .i64 n, .int .i64 (i : Int)] w fun e w' => e = .returned (.bool (bitB n i)) ∧ w' = w := by
  by_cases h : i = 63
  · subst h
    rw [bit_high n h0 h1]
    exact bit_63 n w
  · rw [bit_low n i (by omega)]
    by_cases hn : n < 0
    · exact bit_neg n i (by omega) h0 hn w
    · exact bit_pos n i (by omega) (by omega) h1 w
theorem bit_is (n : Int) (h0 : -9223372036854775808 ≤ n) (h1 : n ≤ 9223372036854775807) (i : Nat) (hi : i ≤ 63) (v : Bool) (hv : bitB n i = v) (w : World) :
    Calls Try.prog 49 #[.int .i64 n, .int .i64 (i : Int)] w fun e w' => e = .returned (.bool v) ∧ w' = w := by
  subst hv
  exact bit_any n h0 h1 i hi w
end Go.Proofs.Ytbiahgjlgojhdaa
