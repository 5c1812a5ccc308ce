import Derived.Test.YtndhhmgbekcfoaaDoorE3
namespace Go.Proofs.YtndhhmgbekcfoaaDoor
open Go.RowKit
set_option linter.unusedVariables false
set_option linter.unusedSimpArgs false

set_option maxRecDepth 100000 in
set_option maxHeartbeats 4000000 in
theorem effect_any (r : Mw) (m : Mdl) (op a : Int) (w : World) (h : ModAt w r m) (hv : Vs w) (ha : I64 a) : Calls Tryd.prog 81 #[r.v, .agg #[.int .u8 op, .int .i64 a]] w fun e w' => e = .returned (.tuple #[.int .i64 (ef m op a).1, .int .i64 (ef m op a).2.1, .bool (ef m op a).2.2]) ∧ BW w w' := by
  by_cases h1 : op = 1
  · subst h1
    cases hr : inR a (m.ints.length : Int) with
    | false =>
      have e : ef m 1 a = (0, 0, false) := by simp [ef, plc, hr]
      rw [e]; exact ef_1b r m a w h hv ha hr
    | true =>
      have e : ef m 1 a = (0, 1, true) := by simp [ef, plc, hr]
      rw [e]; exact ef_1 r m a w h hv ha hr
  by_cases h2 : op = 2
  · subst h2
    cases hr : inR a (m.texts.length : Int) with
    | false =>
      have e : ef m 2 a = (0, 0, false) := by simp [ef, plc, hr]
      rw [e]; exact ef_2b r m a w h hv ha hr
    | true =>
      have e : ef m 2 a = (0, 1, true) := by simp [ef, plc, hr]
      rw [e]; exact ef_2 r m a w h hv ha hr
  by_cases h3 : op = 3
  · subst h3
    have e : ef m 3 a = (0, 1, true) := by simp [ef, plc]
    rw [e]; exact ef_3 r m a w h hv ha
  by_cases h4 : op = 4
  · subst h4
    have e : ef m 4 a = (0, 1, true) := by simp [ef, plc]
    rw [e]; exact ef_4 r m a w h hv ha
  by_cases h5 : op = 5
  · subst h5
    have e : ef m 5 a = (0, 1, true) := by simp [ef, plc]
    rw [e]; exact ef_5 r m a w h hv ha
  by_cases h6 : op = 6
  · subst h6
    have e : ef m 6 a = (0, 1, true) := by simp [ef, plc]
    rw [e]; exact ef_6 r m a w h hv ha
  by_cases h7 : op = 7
  · subst h7
    have e : ef m 7 a = (1, 0, true) := by simp [ef, plc]
    rw [e]; exact ef_7 r m a w h hv ha
  by_cases h8 : op = 8
  · subst h8
    have e : ef m 8 a = (0, 1, true) := by simp [ef, plc]
    rw [e]; exact ef_8 r m a w h hv ha
  by_cases h9 : op = 9
  · subst h9
    cases hr : inR a (m.pros.length : Int) with
    | false =>
      have e : ef m 9 a = (0, 0, false) := by simp [ef, plc, hr]
      rw [e]; exact ef_9b r m a w h hv ha hr
    | true =>
      have hr2 := hr
      simp only [inR, Bool.and_eq_true, decide_eq_true_eq] at hr2
      obtain ⟨k, rfl⟩ : ∃ k : Nat, a = (k : Int) := ⟨a.toNat, by omega⟩
      obtain ⟨x, hx⟩ : ∃ x, m.pros[k]? = some x := ⟨_, List.getElem?_eq_getElem (by omega)⟩
      by_cases hu : x.u < 0
      · have e : ef m 9 (k : Int) = (0, 0, false) := by simp [ef, plc, hr, hx, hu]
        rw [e]; exact ef_9n r m k w h hv x hx hu
      · have e : ef m 9 (k : Int) = (x.u, 1, true) := by simp [ef, plc, hr, hx, hu]
        rw [e]; exact ef_9 r m k w h hv x hx hu
  by_cases h10 : op = 10
  · subst h10
    cases hr : inR a 201 with
    | false =>
      have e : ef m 10 a = (0, 0, false) := by simp [ef, plc, hr]
      rw [e]; exact ef_10b r m a w h hv ha hr
    | true =>
      have e : ef m 10 a = (a + 1, 1, true) := by simp [ef, plc, hr]
      rw [e]; exact ef_10 r m a w h hv ha hr
  by_cases h11 : op = 11
  · subst h11
    cases hr : inR a 201 with
    | false =>
      have e : ef m 11 a = (0, 0, false) := by simp [ef, plc, hr]
      rw [e]; exact ef_11b r m a w h hv ha hr
    | true =>
      have e : ef m 11 a = (a + 1, 0, true) := by simp [ef, plc, hr]
      rw [e]; exact ef_11 r m a w h hv ha hr
  by_cases h12 : op = 12
  · subst h12
    have e : ef m 12 a = (1, 0, true) := by simp [ef, plc]
    rw [e]; exact ef_12 r m a w h hv ha
  by_cases h13 : op = 13
  · subst h13
    have e : ef m 13 a = (0, 0, true) := by simp [ef, plc]
    rw [e]; exact ef_13 r m a w h hv ha
  by_cases h14 : op = 14
  · subst h14
    have e : ef m 14 a = (1, 0, true) := by simp [ef, plc]
    rw [e]; exact ef_14 r m a w h hv ha
  by_cases h15 : op = 15
  · subst h15
    have e : ef m 15 a = (1, 0, true) := by simp [ef, plc]
    rw [e]; exact ef_15 r m a w h hv ha
  by_cases h16 : op = 16
  · subst h16
    cases hr : inR a 32 with
    | false =>
      have e : ef m 16 a = (0, 0, false) := by simp [ef, plc, hr]
      rw [e]; exact ef_16b r m a w h hv ha hr
    | true =>
      have hr2 := hr
      simp only [inR, Bool.and_eq_true, decide_eq_true_eq] at hr2
      obtain ⟨k, rfl⟩ : ∃ k : Nat, a = (k : Int) := ⟨a.toNat, by omega⟩
      have e : ef m 16 (k : Int) = (wn k, 1, true) := by simp [ef, plc, hr]
      rw [e]; exact ef_16 r m k w h hv (by omega)
  by_cases h17 : op = 17
  · subst h17
    cases hr : inR a (m.texts.length : Int) with
    | false =>
      have e : ef m 17 a = (0, 0, false) := by simp [ef, plc, hr]
      rw [e]; exact ef_17b r m a w h hv ha hr
    | true =>
      have e : ef m 17 a = (1, 1, true) := by simp [ef, plc, hr]
      rw [e]; exact ef_17 r m a w h hv ha hr
  by_cases h18 : op = 18
  · subst h18
    cases hr : inR a (m.tabs.length : Int) with
    | false =>
      have e : ef m 18 a = (0, 0, false) := by simp [ef, plc, hr]
      rw [e]; exact ef_18b r m a w h hv ha hr
    | true =>
      have hr2 := hr
      simp only [inR, Bool.and_eq_true, decide_eq_true_eq] at hr2
      obtain ⟨k, rfl⟩ : ∃ k : Nat, a = (k : Int) := ⟨a.toNat, by omega⟩
      obtain ⟨x, hx⟩ : ∃ x, m.tabs[k]? = some x := ⟨_, List.getElem?_eq_getElem (by omega)⟩
      have e : ef m 18 (k : Int) = (((cls x : Nat) : Int) + 1, 1, true) := by simp [ef, plc, hr, hx]
      rw [e]; exact ef_18 r m k w h hv x hx
  by_cases h19 : op = 19
  · subst h19
    have e : ef m 19 a = (2, 1, true) := by simp [ef, plc]
    rw [e]; exact ef_19 r m a w h hv ha
  by_cases h20 : op = 20
  · subst h20
    have e : ef m 20 a = (2, 1, true) := by simp [ef, plc]
    rw [e]; exact ef_20 r m a w h hv ha
  by_cases h21 : op = 21
  · subst h21
    have e : ef m 21 a = (3, 1, true) := by simp [ef, plc]
    rw [e]; exact ef_21 r m a w h hv ha
  by_cases h22 : op = 22
  · subst h22
    have e : ef m 22 a = (2, 0, true) := by simp [ef, plc]
    rw [e]; exact ef_22 r m a w h hv ha
  have e : ef m op a = (0, 0, false) := by simp [ef, plc, h1, h2, h3, h4, h5, h6, h7, h8, h9, h10, h11, h12, h13, h14, h15, h16, h17, h18, h19, h20, h21, h22]
  rw [e]; exact ef_no r m op a w h hv ha h1 h2 h3 h4 h5 h6 h7 h8 h9 h10 h11 h12 h13 h14 h15 h16 h17 h18 h19 h20 h21 h22

end Go.Proofs.YtndhhmgbekcfoaaDoor
