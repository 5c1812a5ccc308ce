import Derived.Test.YtinigblglaolmaaDoorN1
namespace Go.Proofs.YtinigblglaolmaaDoor
open Go.RowKit
set_option linter.unusedVariables false
set_option linter.unusedSimpArgs false

/-- Are bytes a word's? (no more than a source may have) -/
def wordB (l : List UInt8) : Bool := !l.isEmpty && l.all plB && !num l
theorem ne_nil {s : ByteArray} (h : ¬ s.size = 0) : ¬ s.data.toList = [] := by
  intro h2
  have h3 : s.data.toList.length = s.size := by simp
  rw [h2] at h3; simp at h3; omega
theorem plB_all {u : ByteArray} (k : Nat) (h : k < u.size) (hp : pl u[k].toNat = false) : wordB u.data.toList = false := by
  unfold wordB
  rw [all_mem (p := plB) k h hp]; simp
theorem word_end {u : ByteArray} (h0 : ¬ u.size = 0) (h : u.data.toList.all plB = true) : wordB u.data.toList = !num u.data.toList := by
  unfold wordB
  rw [h]
  have := ne_nil h0
  cases hl : u.data.toList with
  | nil => exact absurd hl this
  | cons c r => rfl
set_option maxRecDepth 100000 in
set_option maxHeartbeats 1000000 in
theorem word_any (s : ByteArray) (hs : s.size ≤ 1000) (w : World) : Calls Tryd.prog 13 #[.string s] w fun e w' => e = .returned (.bool (wordB s.data.toList)) ∧ w' = w := by
  by_cases h0 : s.size = 0
  · have hs : s = ⟨#[]⟩ := by
      apply ByteArray.ext
      exact Array.eq_empty_of_size_eq_zero h0
    subst hs
    go_enter Tryd.func13, Tryd.ntmps13
    go_wp2_with (fail)
    go_ret
    exact ⟨rfl, rfl⟩
  · have hnil : s.toList.isEmpty = false := by rw [ByteArray.toList_eq]; simpa using ne_nil h0
    have hnil2 := ne_nil h0
    have hq : ¬ (65536 : Int) < s.size := by omega
    have hC := fun w => numeral_any s (by omega) w
    have he : ∀ h : s.data.toList.all plB = true, wordB s.data.toList = !num s.data.toList := word_end h0
    have hb : ∀ (k : Nat) (h : k < s.size), pl s[k].toNat = false → wordB s.data.toList = false := fun k h => plB_all k h
    generalize wordB s.data.toList = R at *
    generalize num s.data.toList = M at *
    go_enter Tryd.func13, Tryd.ntmps13
    go_wp2_with (fail)
    go_loop [13] (fun i => ∃ k : Nat, k ≤ s.size ∧ i = .int .i64 k ∧ (s.data.toList.take k).all plB = true) (fun i => s.size - (intOf i).toNat)
    case atStart => exact ⟨0, Nat.zero_le _, rfl, by simp⟩
    case round =>
      obtain ⟨k, hk, rfl, hall⟩ := hrel
      by_cases hlt : k < s.size
      · by_cases hd : pl s[k].toNat = true
        · have HA : Hid ((s.data.toList.take (k + 1)).all plB = true) := by show _ = _; rw [take_snoc s k hlt]; simp only [List.all_append, hall]; simp [plB, hd]
          clear hall he hb
          go_wp2_with (go_at_call 22; refine (plain_any _ _).mono ?_; rw [hd]; rintro e w' ⟨rfl, rfl⟩)
          go_round
          case rel => exact ⟨k + 1, by omega, by go_num, HA.out⟩
          case measure => simp [intOf]; omega
        · have hd' : pl s[k].toNat = false := by simpa using hd
          have hR := hb k hlt hd'
          subst hR
          clear hall he hb
          go_wp2_with (go_at_call 22; refine (plain_any _ _).mono ?_; rw [hd']; rintro e w' ⟨rfl, rfl⟩)
          go_ret
          exact ⟨rfl, rfl⟩
      · have e : k = s.size := by omega
        subst e
        rw [take_all _ _ (by omega)] at hall
        have hR := he hall
        subst hR
        clear hall he hb
        go_wp2_with (go_at_call 23; refine (hC _).mono ?_; rintro e w' ⟨rfl, rfl⟩)
        go_ret
        exact ⟨rfl, rfl⟩
set_option maxRecDepth 100000 in
set_option maxHeartbeats 1000000 in
theorem refWord_any (s : ByteArray) (hs : s.size ≤ 1000) (w : World) : Calls Tryd.prog 14 #[.string s] w fun e w' => e = .returned (.bool (wordB s.data.toList)) ∧ w' = w := by
  by_cases h0 : s.size = 0
  · have hs : s = ⟨#[]⟩ := by
      apply ByteArray.ext
      exact Array.eq_empty_of_size_eq_zero h0
    subst hs
    go_enter Tryd.func14, Tryd.ntmps14
    go_wp2_with (fail)
    go_ret
    exact ⟨rfl, rfl⟩
  · have hnil : s.toList.isEmpty = false := by rw [ByteArray.toList_eq]; simpa using ne_nil h0
    have hnil2 := ne_nil h0
    have hq : ¬ (65536 : Int) < s.size := by omega
    have hC : ∀ w, Calls Tryd.prog 25 #[.string s] w fun e w' => (∃ m x, e = .returned (.tuple #[m, .bool (num s.data.toList), x])) ∧ w' = w := fun w => (refNumber_any s (by omega) w).mono (by
      rintro e w' ⟨h | ⟨h, m, h2, _⟩, rfl⟩
      · exact ⟨⟨_, _, by rw [h.1]; exact h.2⟩, rfl⟩
      · exact ⟨⟨_, _, by rw [h]; exact h2⟩, rfl⟩)
    have he : ∀ h : s.data.toList.all plB = true, wordB s.data.toList = !num s.data.toList := word_end h0
    have hb : ∀ (k : Nat) (h : k < s.size), pl s[k].toNat = false → wordB s.data.toList = false := fun k h => plB_all k h
    generalize wordB s.data.toList = R at *
    generalize num s.data.toList = M at *
    go_enter Tryd.func14, Tryd.ntmps14
    go_wp2_with (fail)
    go_loop [3] (fun i => ∃ k : Nat, k ≤ s.size ∧ i = .int .i64 k ∧ (s.data.toList.take k).all plB = true) (fun i => s.size - (intOf i).toNat)
    case atStart => exact ⟨0, Nat.zero_le _, rfl, by simp⟩
    case round =>
      obtain ⟨k, hk, rfl, hall⟩ := hrel
      by_cases hlt : k < s.size
      · by_cases hd : pl s[k].toNat = true
        · have HA : Hid ((s.data.toList.take (k + 1)).all plB = true) := by show _ = _; rw [take_snoc s k hlt]; simp only [List.all_append, hall]; simp [plB, hd]
          clear hall he hb
          simp only [pl, Bool.and_eq_true, decide_eq_true_eq, Bool.not_eq_true'] at hd
          obtain ⟨⟨d1, d2⟩, d3⟩ := hd
          have e1 : decide ((s[k].toNat : Int) < 33) = false := by simp; omega
          have e2 : decide ((126 : Int) < (s[k].toNat : Int)) = false := by simp; omega
          go_wp2_with (go_at_call 24; refine (refEnds_any _ _).mono ?_; rw [d3]; rintro e w' ⟨rfl, rfl⟩)
          go_round
          case rel => exact ⟨k + 1, by omega, by go_num, HA.out⟩
          case measure => simp [intOf]; omega
        · have hd' : pl s[k].toNat = false := by simpa using hd
          have hR := hb k hlt hd'
          subst hR
          clear hall he hb
          cases he2 : en s[k].toNat with
          | true =>
            go_wp2_with (go_at_call 24; refine (refEnds_any _ _).mono ?_; rw [he2]; rintro e w' ⟨rfl, rfl⟩)
            go_ret
            exact ⟨rfl, rfl⟩
          | false =>
            have hd2 : (s[k].toNat : Int) < 33 ∨ (126 : Int) < s[k].toNat := by
              simp only [pl, he2, Bool.not_false, Bool.and_true, Bool.and_eq_false_iff, decide_eq_false_iff_not] at hd'
              omega
            go_wp2_with (go_at_call 24; refine (refEnds_any _ _).mono ?_; rw [he2]; rintro e w' ⟨rfl, rfl⟩)
            all_goals first | (go_ret; exact ⟨rfl, rfl⟩) | (exfalso; omega)
      · have e : k = s.size := by omega
        subst e
        rw [take_all _ _ (by omega)] at hall
        have hR := he hall
        subst hR
        clear hall he hb
        go_wp2_with (go_at_call 25; refine (hC _).mono ?_; rintro e w' ⟨⟨m, x, rfl⟩, rfl⟩)
        go_ret
        exact ⟨rfl, rfl⟩

end Go.Proofs.YtinigblglaolmaaDoor
