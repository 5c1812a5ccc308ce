import Derived.WalkKit
namespace Go.Proofs.Ytbiahgjlgojhdaa
open Go.RowKit Go
theorem ofInt_toNat64 (x : Int) : ((BitVec.ofInt 64 x).toNat : Int) = x % 18446744073709551616 := by
  rw [BitVec.toNat_ofInt]
  have h : (0 : Int) ≤ x % ((2 ^ 64 : Nat) : Int) := Int.emod_nonneg _ (by decide)
  rw [Int.toNat_of_nonneg h]
  rfl
theorem wrap64_mod (x : Int) : wrap64 x % 18446744073709551616 = x % 18446744073709551616 := by
  unfold wrap64; omega
theorem bits_and_i64 (a b : Int) : bits .and .i64 a b = wrap64 ((((a % 18446744073709551616).toNat &&& (b % 18446744073709551616).toNat : Nat)) : Int) := by
  unfold bits
  rw [IntWalk.i64_left]
  simp only [BitVec.toNat_and]
  have ha := ofInt_toNat64 a
  have hb := ofInt_toNat64 b
  have e1 : (BitVec.ofInt 64 a).toNat = (a % 18446744073709551616).toNat := by omega
  have e2 : (BitVec.ofInt 64 b).toNat = (b % 18446744073709551616).toNat := by omega
  show wrap64 (((BitVec.ofInt 64 a).toNat &&& (BitVec.ofInt 64 b).toNat : Nat) : Int) = _
  rw [e1, e2]
theorem pow_split (k : Nat) (hk : k ≤ 63) : (18446744073709551616 : Int) = 2 ^ (64 - k) * 2 ^ k := by
  rw [← Int.pow_add, Nat.sub_add_cancel (by omega)]
  rfl
theorem shifts_math (a : Int) (k : Nat) (hk : k ≤ 63) :
    wrap64 (IntKind.u64.wrap (wrap64 (a * 2 ^ k)) / 2 ^ k) = bits .and .i64 a (wrap64 (IntKind.u64.wrap (-1) / 2 ^ k)) := by
  rw [IntKind.wrap_u64, IntKind.wrap_u64, wrap64_mod, bits_and_i64, wrap64_mod]
  have hp : (0 : Int) < 2 ^ k := Int.pow_pos (by decide)
  have hq : (0 : Int) < 2 ^ (64 - k) := Int.pow_pos (by decide)
  have hs := pow_split k hk
  have e1 : a * 2 ^ k % 18446744073709551616 / 2 ^ k = a % 2 ^ (64 - k) := by
    rw [hs, Int.mul_comm a, Int.mul_comm (2 ^ (64 - k)), Int.mul_emod_mul_of_pos _ _ hp, Int.mul_ediv_cancel_left _ (by omega)]
  have e2 : (-1 : Int) % 18446744073709551616 / 2 ^ k = 2 ^ (64 - k) - 1 := by
    have : (-1 : Int) % 18446744073709551616 = (2 ^ (64 - k) - 1) * 2 ^ k + (2 ^ k - 1) := by
      rw [Int.sub_mul, ← hs]; omega
    rw [this, Int.add_comm, Int.add_mul_ediv_right _ _ (by omega), Int.ediv_eq_zero_of_lt (by omega) (by omega)]
    omega
  rw [e1, e2]
  have hle : (2 : Int) ^ (64 - k) ≤ 18446744073709551616 := by
    rw [hs]; have : (1 : Int) ≤ 2 ^ k := hp
    calc (2 : Int) ^ (64 - k) = 2 ^ (64 - k) * 1 := by omega
      _ ≤ _ := Int.mul_le_mul_of_nonneg_left this (by omega)
  have e3 : ((2 : Int) ^ (64 - k) - 1) % 18446744073709551616 = 2 ^ (64 - k) - 1 := Int.emod_eq_of_lt (by omega) (by omega)
  rw [e3]
  have e4 : ((2 : Int) ^ (64 - k) - 1).toNat = 2 ^ (64 - k) - 1 := by
    have : (2 : Int) ^ (64 - k) = ((2 ^ (64 - k) : Nat) : Int) := by simp
    rw [this]; omega
  rw [e4, Nat.and_two_pow_sub_one_eq_mod]
  congr 1
  rw [Int.natCast_emod, Int.toNat_of_nonneg (Int.emod_nonneg _ (by decide))]
  have : ((2 ^ (64 - k) : Nat) : Int) = 2 ^ (64 - k) := by simp
  rw [this, hs, Int.emod_emod_of_dvd _ ⟨2 ^ k, rfl⟩]
theorem shr_math (a x y : Int) (hx : 0 ≤ x) (hy : 0 ≤ y) : a / 2 ^ x.toNat / 2 ^ y.toNat = a / 2 ^ (x + y).toNat := by
  rw [Int.toNat_add hx hy, Int.pow_add, Int.ediv_ediv_of_nonneg (Int.le_of_lt (Int.pow_pos (by decide)))]
end Go.Proofs.Ytbiahgjlgojhdaa
