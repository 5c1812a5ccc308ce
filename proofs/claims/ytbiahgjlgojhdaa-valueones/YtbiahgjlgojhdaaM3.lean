import Derived.Test.YtbiahgjlgojhdaaM2
namespace Go.Proofs.Ytbiahgjlgojhdaa
open Go.RowKit Go
/-- Bit i of a number, as 64 bits. -/
def bitB (x : Int) (i : Nat) : Bool := (x % 18446744073709551616).toNat.testBit i
/-- What the lowest bits from k on, up to 62, come to. -/
def low62 (f : Nat → Bool) : Nat → Int
  | 0 => 0
  | k + 1 => 2 * low62 f k + bif f (62 - k) then 1 else 0
def ofB (f : Nat → Bool) : Int := low62 f 63 - bif f 63 then 9223372036854775808 else 0
theorem low62_bd (f : Nat → Bool) : ∀ k, 0 ≤ low62 f k ∧ low62 f k < 2 ^ k
  | 0 => by simp [low62]
  | k + 1 => by
    have h := low62_bd f k
    have : (2 : Int) ^ (k + 1) = 2 * 2 ^ k := by rw [Int.pow_succ, Int.mul_comm]
    simp only [low62]
    cases f (62 - k) <;> simp <;> omega
theorem testBit_div (n i : Nat) : n.testBit i = (n / 2 ^ i % 2 == 1) := by
  rw [Nat.testBit_eq_decide_div_mod_eq]
  by_cases h : n / 2 ^ i % 2 = 1 <;> simp [h]
theorem low62_bits (n : Nat) (hn : n < 2 ^ 63) : ∀ k, k ≤ 63 → low62 (fun i => n.testBit i) k = ((n / 2 ^ (63 - k) : Nat) : Int)
  | 0, _ => by
    have h := Nat.div_eq_of_lt hn
    show (0 : Int) = ((n / 2 ^ 63 : Nat) : Int)
    rw [h]; rfl
  | k + 1, hk => by
    have ih := low62_bits n hn k (by omega)
    simp only [low62, ih]
    have e : 63 - k = (63 - (k + 1)) + 1 := by omega
    have e2 : 62 - k = 63 - (k + 1) := by omega
    rw [e2]
    generalize hj : 63 - (k + 1) = j at *
    rw [e, Nat.pow_succ, ← Nat.div_div_eq_div_mul, testBit_div]
    generalize n / 2 ^ j = q
    have hm : q % 2 = 0 ∨ q % 2 = 1 := by omega
    rcases hm with hm | hm
    · rw [hm]; show 2 * ((q / 2 : Nat) : Int) + 0 = _; omega
    · rw [hm]; show 2 * ((q / 2 : Nat) : Int) + 1 = _; omega
theorem ofB_bits (x : Int) (h0 : -9223372036854775808 ≤ x) (h1 : x ≤ 9223372036854775807) : ofB (bitB x) = x := by
  have hlow : low62 (bitB x) 63 = low62 (fun i => ((x % 9223372036854775808).toNat).testBit i) 63 := by
    have : ∀ k, k ≤ 63 → low62 (bitB x) k = low62 (fun i => ((x % 9223372036854775808).toNat).testBit i) k := by
      intro k
      induction k with
      | zero => intro _; rfl
      | succ k ih =>
        intro hk
        simp only [low62, ih (by omega)]
        have : bitB x (62 - k) = ((x % 9223372036854775808).toNat).testBit (62 - k) := by
          have e : (x % 9223372036854775808).toNat = (x % 18446744073709551616).toNat % 2 ^ 63 := by omega
          unfold bitB
          rw [e, Nat.testBit_mod_two_pow]
          simp; omega
        rw [this]
    exact this 63 (Nat.le_refl _)
  unfold ofB
  rw [hlow, low62_bits _ (by omega) 63 (by omega)]
  have hs : bitB x 63 = decide (x < 0) := by
    unfold bitB
    rw [testBit_div]
    have : (x % 18446744073709551616).toNat / 2 ^ 63 % 2 = if x < 0 then 1 else 0 := by split <;> omega
    rw [this]
    by_cases hx : x < 0 <;> simp [hx]
  rw [hs]
  by_cases hx : x < 0 <;> simp [hx] <;> omega
theorem ofB_congr {f g : Nat → Bool} (h : ∀ i, i < 64 → f i = g i) : ofB f = ofB g := by
  have : ∀ k, low62 f k = low62 g k := by
    intro k
    induction k with
    | zero => rfl
    | succ k ih => simp only [low62, ih, h (62 - k) (by omega)]
  unfold ofB
  rw [this, h 63 (by omega)]
theorem bits_rng (op : BinOp) (a b : Int) : -9223372036854775808 ≤ bits op .i64 a b ∧ bits op .i64 a b ≤ 9223372036854775807 := by
  unfold bits; rw [IntWalk.i64_left]; unfold wrap64; omega
theorem bitB_wrap (x : Int) (i : Nat) : bitB (wrap64 x) i = bitB x i := by unfold bitB; rw [wrap64_mod]
theorem toNat_ofInt (x : Int) : (BitVec.ofInt 64 x).toNat = (x % 18446744073709551616).toNat := by have := ofInt_toNat64 x; omega
theorem bitB_nat (n : Nat) (h : n < 18446744073709551616) (i : Nat) : bitB (n : Int) i = n.testBit i := by
  unfold bitB; congr 1; omega
theorem bitB_and (a b : Int) (i : Nat) : bitB (bits .and .i64 a b) i = (bitB a i && bitB b i) := by
  unfold bits; rw [IntWalk.i64_left, bitB_wrap]
  show bitB ((BitVec.ofInt 64 a &&& BitVec.ofInt 64 b).toNat : Int) i = _
  rw [bitB_nat _ (BitVec.isLt _), BitVec.toNat_and, Nat.testBit_and, toNat_ofInt, toNat_ofInt]; rfl
theorem bitB_or (a b : Int) (i : Nat) : bitB (bits .or .i64 a b) i = (bitB a i || bitB b i) := by
  unfold bits; rw [IntWalk.i64_left, bitB_wrap]
  show bitB ((BitVec.ofInt 64 a ||| BitVec.ofInt 64 b).toNat : Int) i = _
  rw [bitB_nat _ (BitVec.isLt _), BitVec.toNat_or, Nat.testBit_or, toNat_ofInt, toNat_ofInt]; rfl
theorem bitB_xor (a b : Int) (i : Nat) : bitB (bits .xor .i64 a b) i = (bitB a i != bitB b i) := by
  unfold bits; rw [IntWalk.i64_left, bitB_wrap]
  show bitB ((BitVec.ofInt 64 a ^^^ BitVec.ofInt 64 b).toNat : Int) i = _
  rw [bitB_nat _ (BitVec.isLt _), BitVec.toNat_xor, Nat.testBit_xor, toNat_ofInt, toNat_ofInt]
  show _ = (_ != _)
  unfold bitB
  cases (a % 18446744073709551616).toNat.testBit i <;> cases (b % 18446744073709551616).toNat.testBit i <;> rfl
theorem bitB_lsb (x : Int) (i : Nat) : bitB x i = (BitVec.ofInt 64 x).getLsbD i := by
  unfold bitB; rw [← toNat_ofInt]; rfl
theorem toInt_in (x : Int) (h0 : -9223372036854775808 ≤ x) (h1 : x ≤ 9223372036854775807) : (BitVec.ofInt 64 x).toInt = x := by
  rw [BitVec.toInt_ofInt]; unfold Int.bmod; simp only [Nat.reducePow]; split <;> omega
theorem bitB_shl (a : Int) (k i : Nat) (hi : i < 64) : bitB (wrap64 (a * 2 ^ k)) i = (decide (k ≤ i) && bitB a (i - k)) := by
  rw [bitB_wrap]
  have e : (a * 2 ^ k % 18446744073709551616).toNat = (2 ^ k * (a % 18446744073709551616).toNat) % 2 ^ 64 := by
    have h1 : ((2 ^ k * (a % 18446744073709551616).toNat : Nat) : Int) = 2 ^ k * (a % 18446744073709551616) := by
      rw [Int.natCast_mul, Int.toNat_of_nonneg (Int.emod_nonneg _ (by decide))]; simp
    have h2 : a * 2 ^ k % 18446744073709551616 = ((2 ^ k * (a % 18446744073709551616).toNat : Nat) : Int) % 18446744073709551616 := by
      rw [h1, Int.mul_comm a, Int.mul_emod (2 ^ k) (a % 18446744073709551616), Int.emod_emod_of_dvd _ (Int.dvd_refl _), ← Int.mul_emod]
    rw [h2]; omega
  unfold bitB
  rw [e, Nat.testBit_mod_two_pow, Nat.testBit_two_pow_mul]
  simp [hi]
theorem bitB_shr (a : Int) (h0 : -9223372036854775808 ≤ a) (h1 : a ≤ 9223372036854775807) (k i : Nat) (hi : i < 64) : bitB (a / 2 ^ k) i = bitB a (min 63 (i + k)) := by
  have e : BitVec.ofInt 64 (a / 2 ^ k) = (BitVec.ofInt 64 a).sshiftRight k := by
    apply BitVec.eq_of_toInt_eq
    rw [BitVec.toInt_sshiftRight, toInt_in a h0 h1, Int.shiftRight_eq_div_pow]
    have hp : (0 : Int) < 2 ^ k := Int.pow_pos (by decide)
    rw [toInt_in]
    · simp
    · exact Int.le_ediv_of_mul_le hp (by
        generalize (2 : Int) ^ k = p at hp
        omega)
    · exact Int.le_trans (Int.ediv_le_ediv hp h1) (Int.ediv_le_self _ (by decide))
  rw [bitB_lsb, bitB_lsb, e, BitVec.getLsbD_sshiftRight]
  have hm : (BitVec.ofInt 64 a).msb = (BitVec.ofInt 64 a).getLsbD 63 := by rw [BitVec.msb_eq_getLsbD_last]
  by_cases h : k + i < 64
  · rw [if_pos h]; have : min 63 (i + k) = k + i := by omega
    rw [this]; simp; omega
  · rw [if_neg h, hm]; have : min 63 (i + k) = 63 := by omega
    rw [this]; simp; omega
theorem bitB_ushr (a : Int) (k i : Nat) : bitB (wrap64 (IntKind.u64.wrap a / 2 ^ k)) i = (decide (i + k ≤ 63) && bitB a (min 63 (i + k))) := by
  rw [bitB_wrap, IntKind.wrap_u64]
  have hn : (0 : Int) ≤ a % 18446744073709551616 := Int.emod_nonneg _ (by decide)
  have hlt : a % 18446744073709551616 < 18446744073709551616 := Int.emod_lt_of_pos _ (by decide)
  obtain ⟨n, hx⟩ := Int.eq_ofNat_of_zero_le hn
  have e : a % 18446744073709551616 / 2 ^ k = ((n / 2 ^ k : Nat) : Int) := by rw [hx, Int.natCast_ediv]; simp
  have hle := Nat.div_le_self n (2 ^ k)
  rw [e, bitB_nat _ (by omega), Nat.testBit_div_two_pow]
  unfold bitB
  rw [hx]
  have : ((n : Int)).toNat = n := by simp
  rw [this]
  by_cases h : i + k ≤ 63
  · have : min 63 (i + k) = i + k := by omega
    rw [this]; simp [h]
  · rw [decide_eq_false h, Bool.false_and]
    exact Nat.testBit_lt_two_pow (by have : n < 2 ^ 64 := by omega
                                     exact Nat.lt_of_lt_of_le this (Nat.pow_le_pow_right (by decide) (by omega)))
end Go.Proofs.Ytbiahgjlgojhdaa
