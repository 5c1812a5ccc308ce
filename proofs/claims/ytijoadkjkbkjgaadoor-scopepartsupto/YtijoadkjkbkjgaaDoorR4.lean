import Derived.Test.YtijoadkjkbkjgaaDoorR3
namespace Go.Proofs.YtijoadkjkbkjgaaDoor
open Go.RowKit
set_option linter.unusedVariables false
set_option linter.unusedSimpArgs false

/-- What a clause's own fields are to be. -/
def cf (k : Int) (x : ByteArray) (nl : Nat) : Bool := if k = 17 then decide (x = ⟨#[]⟩) && decide (nl = 1) else if k = 18 then nmB x && decide (nl = 2) else decide (x = ⟨#[]⟩) && decide (nl = 0)
theorem dec_eq2 (a : Nat) (n : Nat) : (decide ((n : Int) ≤ (a : Int)) && decide ((a : Int) ≤ (n : Int))) = decide (a = n) := by
  by_cases h : a = n
  · subst h; simp
  · have : ¬ ((n : Int) ≤ a ∧ (a : Int) ≤ n) := by omega
    simp only [h, decide_false]
    rw [← Bool.decide_and]
    simpa using this
theorem dec_zero (n : Int) : (decide ((0 : Int) ≤ n) && decide (n ≤ 0)) = decide (n = 0) := by
  by_cases h : n = 0
  · subst h; rfl
  · simp only [h, decide_false]
    rw [← Bool.decide_and]
    have : ¬ ((0 : Int) ≤ n ∧ n ≤ 0) := by omega
    simpa using this
theorem cl_su {k : Nat} (hk : k = 17 ∨ k = 18 ∨ k = 19) : ∃ s, shp k = some s ∧ ∀ (n : Int) (x : ByteArray) (ns : List ByteArray) (kl : Nat), su s k n x ns kl = (decide (n = 0) && decide (kl = 1) && (ns.all nmB && decide ns.Nodup) && cf k x ns.length) := by
  rcases hk with rfl | rfl | rfl
  · refine ⟨_, rfl, fun n x ns kl => ?_⟩
    simp only [su, tx, cf]
    have h1 := dec_eq2 ns.length 1
    have h2 := dec_eq2 kl 1
    simp only [dec_zero]
    first | rw [show ((1 : Nat) : Int) = 1 from rfl] at h1 h2 | skip
    rw [h1, h2]
    cases decide (n = 0) <;> cases decide (kl = 1) <;> cases ns.all nmB <;> cases decide ns.Nodup <;> cases decide (x = ⟨#[]⟩) <;> cases decide (ns.length = 1) <;> rfl
  · refine ⟨_, rfl, fun n x ns kl => ?_⟩
    simp only [su, tx, cf]
    have h1 := dec_eq2 ns.length 2
    have h2 := dec_eq2 kl 1
    simp only [dec_zero]
    first | rw [show ((1 : Nat) : Int) = 1 from rfl] at h2 | skip
    first | rw [show ((2 : Nat) : Int) = 2 from rfl] at h1 | skip
    rw [h1, h2]
    cases decide (n = 0) <;> cases decide (kl = 1) <;> cases ns.all nmB <;> cases decide ns.Nodup <;> cases nmB x <;> cases decide (ns.length = 2) <;> rfl
  · refine ⟨_, rfl, fun n x ns kl => ?_⟩
    simp only [su, tx, cf]
    have h1 : decide ((ns.length : Int) = 0) = decide (ns.length = 0) := by
      rcases Nat.eq_zero_or_pos ns.length with h | h
      · simp [h]
      · have a : ¬ ((ns.length : Int) = 0) := by omega
        have b : ¬ (ns.length = 0) := by omega
        rw [decide_eq_false a, decide_eq_false b]
    have h2 := dec_eq2 kl 1
    simp only [dec_zero]
    first | rw [show ((1 : Nat) : Int) = 1 from rfl] at h2 | skip
    rw [h1, h2]
    cases decide (n = 0) <;> cases decide (kl = 1) <;> cases ns.all nmB <;> cases decide ns.Nodup <;> cases decide (x = ⟨#[]⟩) <;> cases decide (ns.length = 0) <;> rfl

end Go.Proofs.YtijoadkjkbkjgaaDoor
