import Derived.Test.YtbiahgjlgojhdaaM3
namespace Go.Proofs.Ytbiahgjlgojhdaa
open Go.RowKit Go
set_option linter.unusedVariables false
def InR (x : Int) : Prop := -9223372036854775808 ≤ x ∧ x ≤ 9223372036854775807
theorem wrap_in {x : Int} (h : InR x) : wrap64 x = x := by unfold InR at h; unfold wrap64; omega
theorem wrap_inR (x : Int) : InR (wrap64 x) := by unfold InR wrap64; omega
theorem wrap_dist (x : Int) : ∃ q : Int, wrap64 x = x - 18446744073709551616 * q := ⟨(x + 9223372036854775808) / 18446744073709551616, by unfold wrap64; omega⟩
theorem sum_in (a b : Int) (ha : InR a) (hb : InR b) (h : InR (a + b)) : (!decide (a < wrap64 (a + b)) == decide (0 < b)) = false := by
  rw [wrap_in h]
  by_cases hb : 0 < b
  · simp [hb]; omega
  · simp [hb]; omega
theorem sum_out (a b : Int) (ha : InR a) (hb : InR b) (h : ¬ InR (a + b)) : (!decide (a < wrap64 (a + b)) == decide (0 < b)) = true := by
  unfold InR at ha hb h
  by_cases hp : 0 < b
  · have : ¬ a < wrap64 (a + b) := by unfold wrap64; omega
    simp [hp, this]
  · have : a < wrap64 (a + b) := by unfold wrap64; omega
    simp [hp, this]
theorem diff_in (a b : Int) (ha : InR a) (hb : InR b) (h : InR (a - b)) : (!decide (wrap64 (a - b) < a) == decide (0 < b)) = false := by
  rw [wrap_in h]
  by_cases hb : 0 < b
  · have : a - b < a := by omega
    simp [hb, this]
  · have : ¬ a - b < a := by omega
    simp [hb, this]
theorem diff_out (a b : Int) (ha : InR a) (hb : InR b) (h : ¬ InR (a - b)) : (!decide (wrap64 (a - b) < a) == decide (0 < b)) = true := by
  unfold InR at ha hb h
  by_cases hp : 0 < b
  · have : ¬ wrap64 (a - b) < a := by unfold wrap64; omega
    simp [hp, this]
  · have : wrap64 (a - b) < a := by unfold wrap64; omega
    simp [hp, this]
theorem tmod_lt (r a : Int) (h0 : a ≠ 0) (ha : InR a) : -9223372036854775808 < r.tmod a ∧ r.tmod a < 9223372036854775808 := by
  unfold InR at ha
  have h1 : (r.tmod a).natAbs < a.natAbs := by rw [Int.natAbs_tmod]; exact Nat.mod_lt _ (by omega)
  omega
/-- If the wrapped product divides back, it was the product. -/
theorem prod_back (a b : Int) (h0 : a ≠ 0) (ha : InR a) (h : (wrap64 (a * b)).tdiv a = b) : wrap64 (a * b) = a * b := by
  have h1 := Int.mul_tdiv_add_tmod (wrap64 (a * b)) a
  have h2 := tmod_lt (wrap64 (a * b)) a h0 ha
  obtain ⟨q, hq⟩ := wrap_dist (a * b)
  rw [h] at h1
  generalize hx : a * b = x at *
  generalize (wrap64 x).tmod a = t at *
  omega
theorem tdiv_rng (r a : Int) (hr : InR r) (h : ¬ (r = -9223372036854775808 ∧ a = -1)) : InR (r.tdiv a) := by
  unfold InR at *
  have h1 : (r.tdiv a).natAbs ≤ r.natAbs := by rw [Int.natAbs_tdiv]; exact Nat.div_le_self _ _
  by_cases e : r = -9223372036854775808
  · by_cases ha : a = 1
    · subst ha; rw [Int.tdiv_one]; omega
    · by_cases ha0 : a = 0
      · subst ha0; simp
      · have h2 : (r.tdiv a).natAbs ≤ r.natAbs / 2 := by
          rw [Int.natAbs_tdiv]
          exact Nat.div_le_div_left (by omega) (by decide)
        omega
  · omega
theorem prod_yes (a b : Int) (h0 : a ≠ 0) (hb : InR b) (h : InR (a * b)) : (wrap64 ((wrap64 (a * b)).tdiv a) != b) = false := by
  rw [wrap_in h, Int.mul_tdiv_cancel_left _ h0, wrap_in hb]
  simp
theorem prod_not (a b : Int) (h0 : a ≠ 0) (ha : InR a) (hb : InR b) (h : ¬ InR (a * b)) (hm : a ≠ -1) : (wrap64 ((wrap64 (a * b)).tdiv a) != b) = true := by
  rw [wrap_in (tdiv_rng _ _ (wrap_inR _) (fun x => hm x.2))]
  rw [bne_iff_ne]
  intro hc
  have := prod_back a b h0 ha hc
  exact h (this ▸ wrap_inR _)
theorem neg_not (b : Int) (hb : InR b) (h : ¬ InR (-1 * b)) : b = -9223372036854775808 := by unfold InR at *; omega
theorem neg_in (b : Int) (h : InR (-1 * b)) : (b == -9223372036854775808) = false := by
  unfold InR at h
  exact beq_eq_false_iff_ne.2 (by omega)
theorem rem_eq (a b : Int) (ha : InR a) (hb : InR b) (hm : b ≠ -1) : wrap64 (a - wrap64 (wrap64 (a.tdiv b) * b)) = a.tmod b := by
  have h1 := Int.mul_tdiv_add_tmod a b
  rw [wrap_in (tdiv_rng a b ha (fun x => hm x.2))]
  have e : a.tdiv b * b = a - a.tmod b := by rw [Int.mul_comm]; omega
  rw [e]
  have h2 : (a.tmod b).natAbs ≤ a.natAbs := by
    rw [Int.natAbs_tmod]; exact Nat.mod_le _ _
  have h3 : 0 ≤ a → 0 ≤ a.tmod b := fun h => Int.tmod_nonneg b h
  have h4 : a ≤ 0 → a.tmod b ≤ 0 := fun h => by
    have := Int.tmod_nonneg b (show 0 ≤ -a by omega)
    rw [Int.neg_tmod] at this
    omega
  unfold InR at *
  unfold wrap64
  generalize a.tmod b = t at *
  omega
theorem rem_m1 (a : Int) : a.tmod (-1) = 0 := by rw [Int.tmod_neg, Int.tmod_one]
theorem and_eq (a b : Int) : ofB (fun i => bitB a i && bitB b i) = bits .and .i64 a b := by
  rw [← ofB_bits (bits .and .i64 a b) (bits_rng _ _ _).1 (bits_rng _ _ _).2]
  exact ofB_congr fun i _ => (bitB_and a b i).symm
theorem or_eq (a b : Int) : ofB (fun i => bitB a i || bitB b i) = bits .or .i64 a b := by
  rw [← ofB_bits (bits .or .i64 a b) (bits_rng _ _ _).1 (bits_rng _ _ _).2]
  exact ofB_congr fun i _ => (bitB_or a b i).symm
theorem xor_eq (a b : Int) : ofB (fun i => bitB a i != bitB b i) = bits .xor .i64 a b := by
  rw [← ofB_bits (bits .xor .i64 a b) (bits_rng _ _ _).1 (bits_rng _ _ _).2]
  exact ofB_congr fun i _ => (bitB_xor a b i).symm
theorem shl_eq (a : Int) (n : Nat) : ofB (fun i => decide (n ≤ i) && bitB a (i - n)) = wrap64 (a * 2 ^ n) := by
  rw [← ofB_bits (wrap64 (a * 2 ^ n)) (wrap_inR _).1 (wrap_inR _).2]
  exact ofB_congr fun i hi => (bitB_shl a n i hi).symm
theorem shr_eq (a : Int) (ha : InR a) (n : Nat) : ofB (fun i => bitB a (min 63 (i + n))) = a / 2 ^ n := by
  have hp : (0 : Int) < 2 ^ n := Int.pow_pos (by decide)
  have h : InR (a / 2 ^ n) := by
    unfold InR at *
    refine ⟨Int.le_ediv_of_mul_le hp (by generalize (2 : Int) ^ n = p at hp; omega), ?_⟩
    exact Int.le_trans (Int.ediv_le_ediv hp ha.2) (Int.ediv_le_self _ (by decide))
  rw [← ofB_bits (a / 2 ^ n) h.1 h.2]
  exact ofB_congr fun i hi => (bitB_shr a ha.1 ha.2 n i hi).symm
theorem ushr_eq (a : Int) (n : Nat) : ofB (fun i => decide (i + n ≤ 63) && bitB a (min 63 (i + n))) = wrap64 (IntKind.u64.wrap a / 2 ^ n) := by
  rw [← ofB_bits (wrap64 (IntKind.u64.wrap a / 2 ^ n)) (wrap_inR _).1 (wrap_inR _).2]
  exact ofB_congr fun i _ => (bitB_ushr a n i).symm
end Go.Proofs.Ytbiahgjlgojhdaa
