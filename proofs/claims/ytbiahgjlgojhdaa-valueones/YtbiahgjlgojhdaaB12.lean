import Derived.Test.YtbiahgjlgojhdaaB11
import Derived.Deep.RegionWith
import Derived.Deep.RegionHeld3
import Derived.Deep.DeepCutAuto
namespace Go.Proofs.Ytbiahgjlgojhdaa
open Go.RowKit
set_option linter.unusedVariables false
/-- 64 truths in memory. -/
def Bits (w : World) (b : Nat) (f : Nat → Bool) (n : Nat) : Prop := ∀ j, j < n → w.cell? ⟨b, j, none⟩ = some (.bool (f j))
theorem ret_int {k : IntKind} {a b : Int} (h : a = b) : Ending.returned (.int k a) = .returned (.int k b) := by rw [h]
theorem low62_rng (f : Nat → Bool) (k : Nat) (hk : k ≤ 62) : 0 ≤ low62 f k ∧ low62 f k ≤ 4611686018427387903 := by
  have h := low62_bd f k
  have : (2 : Int) ^ k ≤ 2 ^ 62 := by
    have : (2 : Nat) ^ k ≤ 2 ^ 62 := Nat.pow_le_pow_right (by decide) hk
    have h2 : ((2 ^ k : Nat) : Int) ≤ ((2 ^ 62 : Nat) : Int) := by omega
    simpa using h2
  omega
theorem low62_top (f : Nat → Bool) : 0 ≤ low62 f 63 ∧ low62 f 63 ≤ 9223372036854775807 := by
  have h := low62_bd f 63
  omega
theorem low62_yes (f : Nat → Bool) (k : Nat) (h : f (62 - k) = true) : low62 f (k + 1) = 2 * low62 f k + 1 := by simp [low62, h]
theorem low62_not (f : Nat → Bool) (k : Nat) (h : f (62 - k) = false) : low62 f (k + 1) = 2 * low62 f k := by simp [low62, h]
theorem ofB_yes (f : Nat → Bool) (h : f 63 = true) : ofB f = low62 f 63 - 9223372036854775807 - 1 := by simp [ofB, h]; omega
theorem ofB_not (f : Nat → Bool) (h : f 63 = false) : ofB f = low62 f 63 := by simp [ofB, h]
set_option maxRecDepth 100000 in
set_option maxHeartbeats 400000 in
theorem of_yes (f : Nat → Bool) (B : Nat) (w : World) (hr : Bits w B f 64) (hv : f 63 = true) :
    Calls Try.prog 50 #[.slice (some ⟨B, 0, none⟩) 64 64] w fun e w' => e = .returned (.int .i64 (ofB f)) ∧ BW w w' := by
  have Hv : Hid (f 63 = true) := hv
  have h63 : w.cell? ⟨B, 63, none⟩ = some (.bool true) := by rw [← hv]; exact hr 63 (by omega)
  have Hr : Hid (Bits w B f 64) := hr
  clear hr hv
  go_enter Try.func50, Try.ntmps50
  go_wp2
  go_loop [3, 4] (fun n i => ∃ k : Nat, k ≤ 63 ∧ i = .int .i64 (62 - (k : Int)) ∧ n = .int .i64 (low62 f k)) (fun _ i => (intOf i + 1).toNat)
  case atStart => exact ⟨0, Nat.zero_le _, rfl, rfl⟩
  case round =>
    obtain ⟨k, hk, rfl, rfl⟩ := hrel
    by_cases hlt : k ≤ 62
    · obtain ⟨hb0, hb1⟩ := low62_rng f k hlt
      have hi0 : (0 : Int) ≤ 62 - (k : Int) := by omega
      have hi1 : 62 - (k : Int) < 64 := by omega
      have hcell := Hr.out (62 - k) (by omega)
      have ei : (62 - (k : Int)).toNat = 62 - k := by omega
      rw [← ei] at hcell
      cases hf : f (62 - k) with
      | true =>
        have hcell2 := Hr.out (62 - k) (by omega)
        rw [ei, hf, ← ei] at hcell
        rw [hf] at hcell2
        have Hf : Hid (low62 f (k + 1) = 2 * low62 f k + 1) := low62_yes f k hf
        clear hf ei
        go_wp2
        go_round
        case rel => exact ⟨k + 1, by omega, by go_num, by rw [Hf.out]⟩
        case measure => simp [intOf]; omega
      | false =>
        have hcell2 := Hr.out (62 - k) (by omega)
        rw [ei, hf, ← ei] at hcell
        rw [hf] at hcell2
        have Hf : Hid (low62 f (k + 1) = 2 * low62 f k) := low62_not f k hf
        clear hf ei
        go_wp2
        go_round
        case rel => exact ⟨k + 1, by omega, by go_num, by rw [Hf.out]⟩
        case measure => simp [intOf]; omega
    · have hk3 : k = 63 := by omega
      subst hk3
      obtain ⟨hb0, hb1⟩ := low62_top f
      go_wp2
      go_ret
      exact ⟨ret_int (ofB_yes f Hv.out).symm, BW.refl _⟩
set_option maxRecDepth 100000 in
set_option maxHeartbeats 400000 in
theorem of_not (f : Nat → Bool) (B : Nat) (w : World) (hr : Bits w B f 64) (hv : f 63 = false) :
    Calls Try.prog 50 #[.slice (some ⟨B, 0, none⟩) 64 64] w fun e w' => e = .returned (.int .i64 (ofB f)) ∧ BW w w' := by
  have Hv : Hid (f 63 = false) := hv
  have h63 : w.cell? ⟨B, 63, none⟩ = some (.bool false) := by rw [← hv]; exact hr 63 (by omega)
  have Hr : Hid (Bits w B f 64) := hr
  clear hr hv
  go_enter Try.func50, Try.ntmps50
  go_wp2
  go_loop [3, 4] (fun n i => ∃ k : Nat, k ≤ 63 ∧ i = .int .i64 (62 - (k : Int)) ∧ n = .int .i64 (low62 f k)) (fun _ i => (intOf i + 1).toNat)
  case atStart => exact ⟨0, Nat.zero_le _, rfl, rfl⟩
  case round =>
    obtain ⟨k, hk, rfl, rfl⟩ := hrel
    by_cases hlt : k ≤ 62
    · obtain ⟨hb0, hb1⟩ := low62_rng f k hlt
      have hi0 : (0 : Int) ≤ 62 - (k : Int) := by omega
      have hi1 : 62 - (k : Int) < 64 := by omega
      have hcell := Hr.out (62 - k) (by omega)
      have ei : (62 - (k : Int)).toNat = 62 - k := by omega
      rw [← ei] at hcell
      cases hf : f (62 - k) with
      | true =>
        have hcell2 := Hr.out (62 - k) (by omega)
        rw [ei, hf, ← ei] at hcell
        rw [hf] at hcell2
        have Hf : Hid (low62 f (k + 1) = 2 * low62 f k + 1) := low62_yes f k hf
        clear hf ei
        go_wp2
        go_round
        case rel => exact ⟨k + 1, by omega, by go_num, by rw [Hf.out]⟩
        case measure => simp [intOf]; omega
      | false =>
        have hcell2 := Hr.out (62 - k) (by omega)
        rw [ei, hf, ← ei] at hcell
        rw [hf] at hcell2
        have Hf : Hid (low62 f (k + 1) = 2 * low62 f k) := low62_not f k hf
        clear hf ei
        go_wp2
        go_round
        case rel => exact ⟨k + 1, by omega, by go_num, by rw [Hf.out]⟩
        case measure => simp [intOf]; omega
    · have hk3 : k = 63 := by omega
      subst hk3
      obtain ⟨hb0, hb1⟩ := low62_top f
      go_wp2
      go_ret
      exact ⟨ret_int (ofB_not f Hv.out).symm, BW.refl _⟩
theorem of_bits (f : Nat → Bool) (B : Nat) (w : World) (hr : Bits w B f 64) :
    Calls Try.prog 50 #[.slice (some ⟨B, 0, none⟩) 64 64] w fun e w' => e = .returned (.int .i64 (ofB f)) ∧ BW w w' := by
  cases h : f 63 with
  | true => exact of_yes f B w hr h
  | false => exact of_not f B w hr h
end Go.Proofs.Ytbiahgjlgojhdaa
