import Derived.Test.YtijoadkjkbkjgaaDoorR4
namespace Go.Proofs.YtijoadkjkbkjgaaDoor
open Go.RowKit
set_option linter.unusedVariables false
set_option linter.unusedSimpArgs false

theorem beq_iff {a b : Bool} (h : a = true ↔ b = true) : a = b := by cases a <;> cases b <;> simp_all
theorem su_1 : ∃ s, shp 1 = some s ∧ ∀ (n : Int) (x : ByteArray) (ns : List ByteArray) (kl : Nat), -9223372036854775808 ≤ n → n ≤ 9223372036854775807 → kl ≤ 9223372036854775807 → ns.length ≤ 9223372036854775807 → su s (((1 : Nat) : Nat) : Int) n x ns kl = (decide (x = ⟨#[]⟩) && true && decide (ns.length = 0) && decide (kl = 0)) := by
  refine ⟨_, rfl, fun n x ns kl hn0 hn1 hk1 hns => ?_⟩
  have et : tx 30 x = decide (x = ⟨#[]⟩) := rfl
  simp only [su, et]
  generalize decide (x = ⟨#[]⟩) = T
  refine beq_iff ?_
  simp only [Bool.and_eq_true, decide_eq_true_eq, Bool.not_eq_true', Bool.and_eq_false_iff, decide_eq_false_iff_not, Bool.not_eq_false']
  constructor
  · rintro ⟨⟨⟨⟨⟨⟨h1, h2, h3⟩, h4, h5⟩, h6, h7⟩, h8⟩, h9⟩, h10⟩
    exact ⟨⟨⟨h1, trivial⟩, by omega⟩, by omega⟩
  · rintro ⟨⟨⟨h1, h2⟩, h9⟩, h3⟩
    obtain rfl := List.eq_nil_of_length_eq_zero h9
    exact ⟨⟨⟨⟨⟨⟨h1, by first | exact hn0 | omega, by first | exact hn1 | omega⟩, by simp, by simp⟩, by omega, by omega⟩, .inl (by decide)⟩, rfl⟩, List.nodup_nil⟩
theorem su_2 : ∃ s, shp 2 = some s ∧ ∀ (n : Int) (x : ByteArray) (ns : List ByteArray) (kl : Nat), -9223372036854775808 ≤ n → n ≤ 9223372036854775807 → kl ≤ 9223372036854775807 → ns.length ≤ 9223372036854775807 → su s (((2 : Nat) : Nat) : Int) n x ns kl = (decide (x = ⟨#[]⟩) && decide (n = 0 ∨ n = 1) && decide (ns.length = 0) && decide (kl = 0)) := by
  refine ⟨_, rfl, fun n x ns kl hn0 hn1 hk1 hns => ?_⟩
  have et : tx 30 x = decide (x = ⟨#[]⟩) := rfl
  simp only [su, et]
  generalize decide (x = ⟨#[]⟩) = T
  refine beq_iff ?_
  simp only [Bool.and_eq_true, decide_eq_true_eq, Bool.not_eq_true', Bool.and_eq_false_iff, decide_eq_false_iff_not, Bool.not_eq_false']
  constructor
  · rintro ⟨⟨⟨⟨⟨⟨h1, h2, h3⟩, h4, h5⟩, h6, h7⟩, h8⟩, h9⟩, h10⟩
    exact ⟨⟨⟨h1, by omega⟩, by omega⟩, by omega⟩
  · rintro ⟨⟨⟨h1, h2⟩, h9⟩, h3⟩
    obtain rfl := List.eq_nil_of_length_eq_zero h9
    exact ⟨⟨⟨⟨⟨⟨h1, by first | exact hn0 | omega, by first | exact hn1 | omega⟩, by simp, by simp⟩, by omega, by omega⟩, .inl (by decide)⟩, rfl⟩, List.nodup_nil⟩
theorem su_3 : ∃ s, shp 3 = some s ∧ ∀ (n : Int) (x : ByteArray) (ns : List ByteArray) (kl : Nat), -9223372036854775808 ≤ n → n ≤ 9223372036854775807 → kl ≤ 9223372036854775807 → ns.length ≤ 9223372036854775807 → su s (((3 : Nat) : Nat) : Int) n x ns kl = (decide (x.size ≤ 65536) && decide (n = 0) && decide (ns.length = 0) && decide (kl = 0)) := by
  refine ⟨_, rfl, fun n x ns kl hn0 hn1 hk1 hns => ?_⟩
  have et : tx 31 x = decide (x.size ≤ 65536) := rfl
  simp only [su, et]
  generalize decide (x.size ≤ 65536) = T
  refine beq_iff ?_
  simp only [Bool.and_eq_true, decide_eq_true_eq, Bool.not_eq_true', Bool.and_eq_false_iff, decide_eq_false_iff_not, Bool.not_eq_false']
  constructor
  · rintro ⟨⟨⟨⟨⟨⟨h1, h2, h3⟩, h4, h5⟩, h6, h7⟩, h8⟩, h9⟩, h10⟩
    exact ⟨⟨⟨h1, by omega⟩, by omega⟩, by omega⟩
  · rintro ⟨⟨⟨h1, h2⟩, h9⟩, h3⟩
    obtain rfl := List.eq_nil_of_length_eq_zero h9
    exact ⟨⟨⟨⟨⟨⟨h1, by first | exact hn0 | omega, by first | exact hn1 | omega⟩, by simp, by simp⟩, by omega, by omega⟩, .inl (by decide)⟩, rfl⟩, List.nodup_nil⟩
theorem su_4 : ∃ s, shp 4 = some s ∧ ∀ (n : Int) (x : ByteArray) (ns : List ByteArray) (kl : Nat), -9223372036854775808 ≤ n → n ≤ 9223372036854775807 → kl ≤ 9223372036854775807 → ns.length ≤ 9223372036854775807 → su s (((4 : Nat) : Nat) : Int) n x ns kl = (decide (x = ⟨#[]⟩) && decide (n = 0) && decide (ns.length = 0) && decide (kl = 0)) := by
  refine ⟨_, rfl, fun n x ns kl hn0 hn1 hk1 hns => ?_⟩
  have et : tx 30 x = decide (x = ⟨#[]⟩) := rfl
  simp only [su, et]
  generalize decide (x = ⟨#[]⟩) = T
  refine beq_iff ?_
  simp only [Bool.and_eq_true, decide_eq_true_eq, Bool.not_eq_true', Bool.and_eq_false_iff, decide_eq_false_iff_not, Bool.not_eq_false']
  constructor
  · rintro ⟨⟨⟨⟨⟨⟨h1, h2, h3⟩, h4, h5⟩, h6, h7⟩, h8⟩, h9⟩, h10⟩
    exact ⟨⟨⟨h1, by omega⟩, by omega⟩, by omega⟩
  · rintro ⟨⟨⟨h1, h2⟩, h9⟩, h3⟩
    obtain rfl := List.eq_nil_of_length_eq_zero h9
    exact ⟨⟨⟨⟨⟨⟨h1, by first | exact hn0 | omega, by first | exact hn1 | omega⟩, by simp, by simp⟩, by omega, by omega⟩, .inl (by decide)⟩, rfl⟩, List.nodup_nil⟩
theorem su_5 : ∃ s, shp 5 = some s ∧ ∀ (n : Int) (x : ByteArray) (ns : List ByteArray) (kl : Nat), -9223372036854775808 ≤ n → n ≤ 9223372036854775807 → kl ≤ 9223372036854775807 → ns.length ≤ 9223372036854775807 → su s (((5 : Nat) : Nat) : Int) n x ns kl = (nmB x && decide (n = 0) && decide (ns.length = 0) && decide (kl = 0)) := by
  refine ⟨_, rfl, fun n x ns kl hn0 hn1 hk1 hns => ?_⟩
  have et : tx 35 x = nmB x := rfl
  simp only [su, et]
  generalize nmB x = T
  refine beq_iff ?_
  simp only [Bool.and_eq_true, decide_eq_true_eq, Bool.not_eq_true', Bool.and_eq_false_iff, decide_eq_false_iff_not, Bool.not_eq_false']
  constructor
  · rintro ⟨⟨⟨⟨⟨⟨h1, h2, h3⟩, h4, h5⟩, h6, h7⟩, h8⟩, h9⟩, h10⟩
    exact ⟨⟨⟨h1, by omega⟩, by omega⟩, by omega⟩
  · rintro ⟨⟨⟨h1, h2⟩, h9⟩, h3⟩
    obtain rfl := List.eq_nil_of_length_eq_zero h9
    exact ⟨⟨⟨⟨⟨⟨h1, by first | exact hn0 | omega, by first | exact hn1 | omega⟩, by simp, by simp⟩, by omega, by omega⟩, .inl (by decide)⟩, rfl⟩, List.nodup_nil⟩
theorem su_6 : ∃ s, shp 6 = some s ∧ ∀ (n : Int) (x : ByteArray) (ns : List ByteArray) (kl : Nat), -9223372036854775808 ≤ n → n ≤ 9223372036854775807 → kl ≤ 9223372036854775807 → ns.length ≤ 9223372036854775807 → su s (((6 : Nat) : Nat) : Int) n x ns kl = (nmB x && decide (n = 0) && (ns.all nmB && decide ns.Nodup) && decide (kl = 1)) := by
  refine ⟨_, rfl, fun n x ns kl hn0 hn1 hk1 hns => ?_⟩
  have et : tx 35 x = nmB x := rfl
  simp only [su, et]
  generalize nmB x = T
  refine beq_iff ?_
  simp only [Bool.and_eq_true, decide_eq_true_eq, Bool.not_eq_true', Bool.and_eq_false_iff, decide_eq_false_iff_not, Bool.not_eq_false']
  constructor
  · rintro ⟨⟨⟨⟨⟨⟨h1, h2, h3⟩, h4, h5⟩, h6, h7⟩, h8⟩, h9⟩, h10⟩
    exact ⟨⟨⟨h1, by omega⟩, h9, h10⟩, by omega⟩
  · rintro ⟨⟨⟨h1, h2⟩, h9, h10⟩, h3⟩
    exact ⟨⟨⟨⟨⟨⟨h1, by omega, by omega⟩, by omega, by omega⟩, by omega, by omega⟩, .inl (by decide)⟩, h9⟩, h10⟩
theorem su_7 : ∃ s, shp 7 = some s ∧ ∀ (n : Int) (x : ByteArray) (ns : List ByteArray) (kl : Nat), -9223372036854775808 ≤ n → n ≤ 9223372036854775807 → kl ≤ 9223372036854775807 → ns.length ≤ 9223372036854775807 → su s (((7 : Nat) : Nat) : Int) n x ns kl = (decide (x = ⟨#[]⟩) && decide (n = 0) && decide (ns.length = 0) && decide (0 < kl)) := by
  refine ⟨_, rfl, fun n x ns kl hn0 hn1 hk1 hns => ?_⟩
  have et : tx 30 x = decide (x = ⟨#[]⟩) := rfl
  simp only [su, et]
  generalize decide (x = ⟨#[]⟩) = T
  refine beq_iff ?_
  simp only [Bool.and_eq_true, decide_eq_true_eq, Bool.not_eq_true', Bool.and_eq_false_iff, decide_eq_false_iff_not, Bool.not_eq_false']
  constructor
  · rintro ⟨⟨⟨⟨⟨⟨h1, h2, h3⟩, h4, h5⟩, h6, h7⟩, h8⟩, h9⟩, h10⟩
    exact ⟨⟨⟨h1, by omega⟩, by omega⟩, by omega⟩
  · rintro ⟨⟨⟨h1, h2⟩, h9⟩, h3⟩
    obtain rfl := List.eq_nil_of_length_eq_zero h9
    exact ⟨⟨⟨⟨⟨⟨h1, by first | exact hn0 | omega, by first | exact hn1 | omega⟩, by simp, by simp⟩, by omega, by omega⟩, .inl (by decide)⟩, rfl⟩, List.nodup_nil⟩
theorem su_8 : ∃ s, shp 8 = some s ∧ ∀ (n : Int) (x : ByteArray) (ns : List ByteArray) (kl : Nat), -9223372036854775808 ≤ n → n ≤ 9223372036854775807 → kl ≤ 9223372036854775807 → ns.length ≤ 9223372036854775807 → su s (((8 : Nat) : Nat) : Int) n x ns kl = (nmB x && decide (n = 0) && decide (ns.length = 0) && decide (kl = 2)) := by
  refine ⟨_, rfl, fun n x ns kl hn0 hn1 hk1 hns => ?_⟩
  have et : tx 35 x = nmB x := rfl
  simp only [su, et]
  generalize nmB x = T
  refine beq_iff ?_
  simp only [Bool.and_eq_true, decide_eq_true_eq, Bool.not_eq_true', Bool.and_eq_false_iff, decide_eq_false_iff_not, Bool.not_eq_false']
  constructor
  · rintro ⟨⟨⟨⟨⟨⟨h1, h2, h3⟩, h4, h5⟩, h6, h7⟩, h8⟩, h9⟩, h10⟩
    exact ⟨⟨⟨h1, by omega⟩, by omega⟩, by omega⟩
  · rintro ⟨⟨⟨h1, h2⟩, h9⟩, h3⟩
    obtain rfl := List.eq_nil_of_length_eq_zero h9
    exact ⟨⟨⟨⟨⟨⟨h1, by first | exact hn0 | omega, by first | exact hn1 | omega⟩, by simp, by simp⟩, by omega, by omega⟩, .inl (by decide)⟩, rfl⟩, List.nodup_nil⟩
theorem su_9 : ∃ s, shp 9 = some s ∧ ∀ (n : Int) (x : ByteArray) (ns : List ByteArray) (kl : Nat), -9223372036854775808 ≤ n → n ≤ 9223372036854775807 → kl ≤ 9223372036854775807 → ns.length ≤ 9223372036854775807 → su s (((9 : Nat) : Nat) : Int) n x ns kl = (decide (x = ⟨#[]⟩) && decide (n = 0) && decide (ns.length = 0) && decide (kl = 3)) := by
  refine ⟨_, rfl, fun n x ns kl hn0 hn1 hk1 hns => ?_⟩
  have et : tx 30 x = decide (x = ⟨#[]⟩) := rfl
  simp only [su, et]
  generalize decide (x = ⟨#[]⟩) = T
  refine beq_iff ?_
  simp only [Bool.and_eq_true, decide_eq_true_eq, Bool.not_eq_true', Bool.and_eq_false_iff, decide_eq_false_iff_not, Bool.not_eq_false']
  constructor
  · rintro ⟨⟨⟨⟨⟨⟨h1, h2, h3⟩, h4, h5⟩, h6, h7⟩, h8⟩, h9⟩, h10⟩
    exact ⟨⟨⟨h1, by omega⟩, by omega⟩, by omega⟩
  · rintro ⟨⟨⟨h1, h2⟩, h9⟩, h3⟩
    obtain rfl := List.eq_nil_of_length_eq_zero h9
    exact ⟨⟨⟨⟨⟨⟨h1, by first | exact hn0 | omega, by first | exact hn1 | omega⟩, by simp, by simp⟩, by omega, by omega⟩, .inl (by decide)⟩, rfl⟩, List.nodup_nil⟩
theorem su_10 : ∃ s, shp 10 = some s ∧ ∀ (n : Int) (x : ByteArray) (ns : List ByteArray) (kl : Nat), -9223372036854775808 ≤ n → n ≤ 9223372036854775807 → kl ≤ 9223372036854775807 → ns.length ≤ 9223372036854775807 → su s (((10 : Nat) : Nat) : Int) n x ns kl = (decide (x = ⟨#[]⟩) && decide (n = 0) && decide (ns.length = 0) && decide (0 < kl)) := by
  refine ⟨_, rfl, fun n x ns kl hn0 hn1 hk1 hns => ?_⟩
  have et : tx 30 x = decide (x = ⟨#[]⟩) := rfl
  simp only [su, et]
  generalize decide (x = ⟨#[]⟩) = T
  refine beq_iff ?_
  simp only [Bool.and_eq_true, decide_eq_true_eq, Bool.not_eq_true', Bool.and_eq_false_iff, decide_eq_false_iff_not, Bool.not_eq_false']
  constructor
  · rintro ⟨⟨⟨⟨⟨⟨h1, h2, h3⟩, h4, h5⟩, h6, h7⟩, h8⟩, h9⟩, h10⟩
    exact ⟨⟨⟨h1, by omega⟩, by omega⟩, by omega⟩
  · rintro ⟨⟨⟨h1, h2⟩, h9⟩, h3⟩
    obtain rfl := List.eq_nil_of_length_eq_zero h9
    exact ⟨⟨⟨⟨⟨⟨h1, by first | exact hn0 | omega, by first | exact hn1 | omega⟩, by simp, by simp⟩, by omega, by omega⟩, .inl (by decide)⟩, rfl⟩, List.nodup_nil⟩
theorem su_11 : ∃ s, shp 11 = some s ∧ ∀ (n : Int) (x : ByteArray) (ns : List ByteArray) (kl : Nat), -9223372036854775808 ≤ n → n ≤ 9223372036854775807 → kl ≤ 9223372036854775807 → ns.length ≤ 9223372036854775807 → su s (((11 : Nat) : Nat) : Int) n x ns kl = (decide (0 ≤ tk x.data.toList) && decide (n = 0) && decide (ns.length = 0) && decide ((kl : Int) = tk x.data.toList)) := by
  refine ⟨_, rfl, fun n x ns kl hn0 hn1 hk1 hns => ?_⟩
  have et : tx 32 x = decide (0 ≤ tk x.data.toList) := rfl
  simp only [su, et]
  refine beq_iff ?_
  simp only [Bool.and_eq_true, decide_eq_true_eq, Bool.not_eq_true', Bool.and_eq_false_iff, decide_eq_false_iff_not, Bool.not_eq_false']
  constructor
  · rintro ⟨⟨⟨⟨⟨⟨h1, h2, h3⟩, h4, h5⟩, h6, h7⟩, h8⟩, h9⟩, h10⟩
    exact ⟨⟨⟨h1, by omega⟩, by omega⟩, by rcases h8 with h8 | h8 <;> first | omega | exact (h8 rfl).elim | exact (h8 (by decide)).elim⟩
  · rintro ⟨⟨⟨h1, h2⟩, h9⟩, h3⟩
    obtain rfl := List.eq_nil_of_length_eq_zero h9
    exact ⟨⟨⟨⟨⟨⟨h1, by first | exact hn0 | omega, by first | exact hn1 | omega⟩, by simp, by simp⟩, by omega, by omega⟩, .inr (by omega)⟩, rfl⟩, List.nodup_nil⟩
theorem su_12 : ∃ s, shp 12 = some s ∧ ∀ (n : Int) (x : ByteArray) (ns : List ByteArray) (kl : Nat), -9223372036854775808 ≤ n → n ≤ 9223372036854775807 → kl ≤ 9223372036854775807 → ns.length ≤ 9223372036854775807 → su s (((12 : Nat) : Nat) : Int) n x ns kl = (nmB x && decide (n = 0) && decide (ns.length = 0) && decide (kl = 1)) := by
  refine ⟨_, rfl, fun n x ns kl hn0 hn1 hk1 hns => ?_⟩
  have et : tx 35 x = nmB x := rfl
  simp only [su, et]
  generalize nmB x = T
  refine beq_iff ?_
  simp only [Bool.and_eq_true, decide_eq_true_eq, Bool.not_eq_true', Bool.and_eq_false_iff, decide_eq_false_iff_not, Bool.not_eq_false']
  constructor
  · rintro ⟨⟨⟨⟨⟨⟨h1, h2, h3⟩, h4, h5⟩, h6, h7⟩, h8⟩, h9⟩, h10⟩
    exact ⟨⟨⟨h1, by omega⟩, by omega⟩, by omega⟩
  · rintro ⟨⟨⟨h1, h2⟩, h9⟩, h3⟩
    obtain rfl := List.eq_nil_of_length_eq_zero h9
    exact ⟨⟨⟨⟨⟨⟨h1, by first | exact hn0 | omega, by first | exact hn1 | omega⟩, by simp, by simp⟩, by omega, by omega⟩, .inl (by decide)⟩, rfl⟩, List.nodup_nil⟩
theorem su_13 : ∃ s, shp 13 = some s ∧ ∀ (n : Int) (x : ByteArray) (ns : List ByteArray) (kl : Nat), -9223372036854775808 ≤ n → n ≤ 9223372036854775807 → kl ≤ 9223372036854775807 → ns.length ≤ 9223372036854775807 → su s (((13 : Nat) : Nat) : Int) n x ns kl = (decide (x = ⟨#[]⟩) && decide (n = 0) && decide (ns.length = 0) && decide (0 < kl)) := by
  refine ⟨_, rfl, fun n x ns kl hn0 hn1 hk1 hns => ?_⟩
  have et : tx 30 x = decide (x = ⟨#[]⟩) := rfl
  simp only [su, et]
  generalize decide (x = ⟨#[]⟩) = T
  refine beq_iff ?_
  simp only [Bool.and_eq_true, decide_eq_true_eq, Bool.not_eq_true', Bool.and_eq_false_iff, decide_eq_false_iff_not, Bool.not_eq_false']
  constructor
  · rintro ⟨⟨⟨⟨⟨⟨h1, h2, h3⟩, h4, h5⟩, h6, h7⟩, h8⟩, h9⟩, h10⟩
    exact ⟨⟨⟨h1, by omega⟩, by omega⟩, by omega⟩
  · rintro ⟨⟨⟨h1, h2⟩, h9⟩, h3⟩
    obtain rfl := List.eq_nil_of_length_eq_zero h9
    exact ⟨⟨⟨⟨⟨⟨h1, by first | exact hn0 | omega, by first | exact hn1 | omega⟩, by simp, by simp⟩, by omega, by omega⟩, .inl (by decide)⟩, rfl⟩, List.nodup_nil⟩
theorem su_14 : ∃ s, shp 14 = some s ∧ ∀ (n : Int) (x : ByteArray) (ns : List ByteArray) (kl : Nat), -9223372036854775808 ≤ n → n ≤ 9223372036854775807 → kl ≤ 9223372036854775807 → ns.length ≤ 9223372036854775807 → su s (((14 : Nat) : Nat) : Int) n x ns kl = (decide (x = ⟨#[]⟩) && decide (n = 0) && decide (ns.length = 0) && decide (kl = 2)) := by
  refine ⟨_, rfl, fun n x ns kl hn0 hn1 hk1 hns => ?_⟩
  have et : tx 30 x = decide (x = ⟨#[]⟩) := rfl
  simp only [su, et]
  generalize decide (x = ⟨#[]⟩) = T
  refine beq_iff ?_
  simp only [Bool.and_eq_true, decide_eq_true_eq, Bool.not_eq_true', Bool.and_eq_false_iff, decide_eq_false_iff_not, Bool.not_eq_false']
  constructor
  · rintro ⟨⟨⟨⟨⟨⟨h1, h2, h3⟩, h4, h5⟩, h6, h7⟩, h8⟩, h9⟩, h10⟩
    exact ⟨⟨⟨h1, by omega⟩, by omega⟩, by omega⟩
  · rintro ⟨⟨⟨h1, h2⟩, h9⟩, h3⟩
    obtain rfl := List.eq_nil_of_length_eq_zero h9
    exact ⟨⟨⟨⟨⟨⟨h1, by first | exact hn0 | omega, by first | exact hn1 | omega⟩, by simp, by simp⟩, by omega, by omega⟩, .inl (by decide)⟩, rfl⟩, List.nodup_nil⟩
theorem su_15 : ∃ s, shp 15 = some s ∧ ∀ (n : Int) (x : ByteArray) (ns : List ByteArray) (kl : Nat), -9223372036854775808 ≤ n → n ≤ 9223372036854775807 → kl ≤ 9223372036854775807 → ns.length ≤ 9223372036854775807 → su s (((15 : Nat) : Nat) : Int) n x ns kl = (decide (x = ⟨#[]⟩) && decide (n = 0) && decide (ns.length = 0) && decide (kl = 2)) := by
  refine ⟨_, rfl, fun n x ns kl hn0 hn1 hk1 hns => ?_⟩
  have et : tx 30 x = decide (x = ⟨#[]⟩) := rfl
  simp only [su, et]
  generalize decide (x = ⟨#[]⟩) = T
  refine beq_iff ?_
  simp only [Bool.and_eq_true, decide_eq_true_eq, Bool.not_eq_true', Bool.and_eq_false_iff, decide_eq_false_iff_not, Bool.not_eq_false']
  constructor
  · rintro ⟨⟨⟨⟨⟨⟨h1, h2, h3⟩, h4, h5⟩, h6, h7⟩, h8⟩, h9⟩, h10⟩
    exact ⟨⟨⟨h1, by omega⟩, by omega⟩, by omega⟩
  · rintro ⟨⟨⟨h1, h2⟩, h9⟩, h3⟩
    obtain rfl := List.eq_nil_of_length_eq_zero h9
    exact ⟨⟨⟨⟨⟨⟨h1, by first | exact hn0 | omega, by first | exact hn1 | omega⟩, by simp, by simp⟩, by omega, by omega⟩, .inl (by decide)⟩, rfl⟩, List.nodup_nil⟩
theorem su_16 : ∃ s, shp 16 = some s ∧ ∀ (n : Int) (x : ByteArray) (ns : List ByteArray) (kl : Nat), -9223372036854775808 ≤ n → n ≤ 9223372036854775807 → kl ≤ 9223372036854775807 → ns.length ≤ 9223372036854775807 → su s (((16 : Nat) : Nat) : Int) n x ns kl = (decide (x = ⟨#[]⟩) && decide (n = 0) && decide (ns.length = 0) && decide (kl = 3)) := by
  refine ⟨_, rfl, fun n x ns kl hn0 hn1 hk1 hns => ?_⟩
  have et : tx 30 x = decide (x = ⟨#[]⟩) := rfl
  simp only [su, et]
  generalize decide (x = ⟨#[]⟩) = T
  refine beq_iff ?_
  simp only [Bool.and_eq_true, decide_eq_true_eq, Bool.not_eq_true', Bool.and_eq_false_iff, decide_eq_false_iff_not, Bool.not_eq_false']
  constructor
  · rintro ⟨⟨⟨⟨⟨⟨h1, h2, h3⟩, h4, h5⟩, h6, h7⟩, h8⟩, h9⟩, h10⟩
    exact ⟨⟨⟨h1, by omega⟩, by omega⟩, by omega⟩
  · rintro ⟨⟨⟨h1, h2⟩, h9⟩, h3⟩
    obtain rfl := List.eq_nil_of_length_eq_zero h9
    exact ⟨⟨⟨⟨⟨⟨h1, by first | exact hn0 | omega, by first | exact hn1 | omega⟩, by simp, by simp⟩, by omega, by omega⟩, .inl (by decide)⟩, rfl⟩, List.nodup_nil⟩

end Go.Proofs.YtijoadkjkbkjgaaDoor
