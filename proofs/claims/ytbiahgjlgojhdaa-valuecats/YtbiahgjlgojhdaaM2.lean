import Derived.Test.YtbiahgjlgojhdaaM1
namespace Go.Proofs.Ytbiahgjlgojhdaa
open Go.RowKit Go
theorem and_mask (a m : Int) (k : Nat) (hk : k ≤ 63) (hm : m = 2 ^ k - 1) : bits .and .i64 a m = wrap64 (a % 2 ^ k) := by
  rw [bits_and_i64]
  have hq : (0 : Int) < 2 ^ k := Int.pow_pos (by decide)
  have hs := pow_split k hk
  have hle : (2 : Int) ^ k ≤ 18446744073709551616 := by
    rw [hs]; have : (1 : Int) ≤ 2 ^ (64 - k) := Int.pow_pos (by decide)
    calc (2 : Int) ^ k = 1 * 2 ^ k := by omega
      _ ≤ _ := Int.mul_le_mul_of_nonneg_right this (by omega)
  have e3 : m % 18446744073709551616 = 2 ^ k - 1 := by rw [hm]; exact Int.emod_eq_of_lt (by omega) (by omega)
  rw [e3]
  have e4 : ((2 : Int) ^ k - 1).toNat = 2 ^ k - 1 := by
    have : (2 : Int) ^ k = ((2 ^ k : Nat) : Int) := by simp
    rw [this]; omega
  rw [e4, Nat.and_two_pow_sub_one_eq_mod]
  congr 1
  rw [Int.natCast_emod, Int.toNat_of_nonneg (Int.emod_nonneg _ (by decide))]
  have : ((2 ^ k : Nat) : Int) = 2 ^ k := by simp
  rw [this, hs, Int.emod_emod_of_dvd _ ⟨2 ^ (64 - k), by rw [Int.mul_comm]⟩]
theorem mask8 (a : Int) : bits .and .i64 a 255 = a % 256 := by
  rw [and_mask a 255 8 (by omega) (by decide)]; show wrap64 (a % 256) = _; unfold wrap64; omega
theorem mask16 (a : Int) : bits .and .i64 a 65535 = a % 65536 := by
  rw [and_mask a 65535 16 (by omega) (by decide)]; show wrap64 (a % 65536) = _; unfold wrap64; omega
theorem mask32 (a : Int) : bits .and .i64 a 4294967295 = a % 4294967296 := by
  rw [and_mask a 4294967295 32 (by omega) (by decide)]; show wrap64 (a % 4294967296) = _; unfold wrap64; omega
def s8 (a : Int) : Int := wrap64 (a * 72057594037927936) / 72057594037927936
def s16 (a : Int) : Int := wrap64 (a * 281474976710656) / 281474976710656
def s32 (a : Int) : Int := wrap64 (a * 4294967296) / 4294967296
theorem s8_eq (a : Int) : s8 a = (a + 128) % 256 - 128 := by unfold s8 wrap64; omega
theorem s16_eq (a : Int) : s16 a = (a + 32768) % 65536 - 32768 := by unfold s16 wrap64; omega
theorem s32_eq (a : Int) : s32 a = (a + 2147483648) % 4294967296 - 2147483648 := by unfold s32 wrap64; omega
def z8 (a : Int) : Int := bits .and .i64 a 255
def z16 (a : Int) : Int := bits .and .i64 a 65535
def z32 (a : Int) : Int := bits .and .i64 a 4294967295
theorem z8_eq (a : Int) : z8 a = a % 256 := mask8 a
theorem z16_eq (a : Int) : z16 a = a % 65536 := mask16 a
theorem z32_eq (a : Int) : z32 a = a % 4294967296 := mask32 a
theorem narrow8 (a : Int) : s8 (s8 a) = s8 a ∧ z8 (z8 a) = z8 a ∧ z8 (s8 a) = z8 a ∧ s8 (z8 a) = s8 a ∧ 0 ≤ z8 a := by
  simp only [s8_eq, z8_eq]; omega
theorem narrow16 (a : Int) : s16 (s16 a) = s16 a ∧ z16 (z16 a) = z16 a ∧ z16 (s16 a) = z16 a ∧ s16 (z16 a) = s16 a ∧ 0 ≤ z16 a := by
  simp only [s16_eq, z16_eq]; omega
theorem narrow32 (a : Int) : s32 (s32 a) = s32 a ∧ z32 (z32 a) = z32 a ∧ z32 (s32 a) = z32 a ∧ s32 (z32 a) = s32 a ∧ 0 ≤ z32 a := by
  simp only [s32_eq, z32_eq]; omega
end Go.Proofs.Ytbiahgjlgojhdaa
