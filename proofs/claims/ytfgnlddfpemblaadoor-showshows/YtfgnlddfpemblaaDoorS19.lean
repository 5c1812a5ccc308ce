import Derived.Test.YtfgnlddfpemblaaDoorS18
namespace Go.Proofs.YtfgnlddfpemblaaDoor
open Go.RowKit
set_option linter.unusedVariables false
set_option linter.unusedSimpArgs false

/-- A value that may be. -/
structure Fine2 (x : Va) : Prop where
  fine : Fine x
  bool : x.t = 2 → x.n = 0 ∨ x.n = 1
theorem rs_flat (v : Value) (x : Va) (hF : Fine2 x) (h4 : ¬ x.t = 4) (k : Int) (w : World) : Calls Tryd.prog 13 #[v, x.v, .int .i64 k] w fun e w' => e = .returned (.string ⟨(flat x).toArray⟩) ∧ BW w w' := by
  have := hF.fine.t0
  have := hF.fine.t7
  have := hF.fine.n0
  have := hF.fine.n1
  have := hF.fine.s
  have hb := hF.bool
  obtain ⟨t, n, s⟩ := x
  simp only at *
  rcases (by omega : t = 0 ∨ t = 1 ∨ t = 2 ∨ t = 3 ∨ t = 5 ∨ t = 6 ∨ t = 7) with rfl | rfl | rfl | rfl | rfl | rfl | rfl
  · exact rs_0 v n s k w
  · exact rs_1 v n s (by omega) (by omega) k w
  · rcases hb rfl with rfl | rfl
    · have e : flat ⟨2, 0, s⟩ = [102, 97, 108, 115, 101] := by
        show Lib.formatBool ((0 : Int) != 0) = _
        rw [show ((0 : Int) != 0) = false from rfl]; decide
      rw [e]; exact rs_2b v 0 s rfl k w
    · have e : flat ⟨2, 1, s⟩ = [116, 114, 117, 101] := by
        show Lib.formatBool ((1 : Int) != 0) = _
        rw [show ((1 : Int) != 0) = true from rfl]; decide
      rw [e]; exact rs_2a v 1 s rfl k w
  · exact rs_3 v n s (by omega) k w
  · exact rs_5 v n s k w
  · exact rs_6 v n s k w
  · exact rs_7 v n s k w
theorem refShow_any (v : Value) (ps : List (Va × Va)) (hN : ps.length ≤ 1000) (hps : ∀ p ∈ ps, Fine2 p.1 ∧ Fine2 p.2) :
    ∀ (d : Nat), d ≤ 6 → ∀ (x : Va), Fine2 x → ∀ (w : World), RowIs w v ps → Calls Tryd.prog 13 #[v, x.v, .int .i64 (6 - (d : Int))] w fun e w' => e = .returned (.string ⟨(sho (look ps) d x).toArray⟩) ∧ BW w w' := by
  have hf1 : ∀ x y z, look ps x = some (y, z) → Fine y ∧ Fine z := look_fine (fun p hp => ⟨(hps p hp).1.fine, (hps p hp).2.fine⟩)
  have hf2 : ∀ x y z, look ps x = some (y, z) → Fine2 y ∧ Fine2 z := by
    intro x y z e
    unfold look at e
    split at e
    · exact hps (y, z) (List.mem_of_getElem? e)
    · cases e
  intro d
  induction d with
  | zero =>
    intro _ x hF w hr
    by_cases h4 : x.t = 4
    · have e : sho (look ps) 0 x = [46, 46] := by simp [sho, flat, h4]
      rw [e]
      have hA : ∀ w1, BW w w1 → _ := fun w1 hb => at_any v ps hN x h4 w1 (hr.bw hb)
      cases el : look ps x with
      | none =>
        rw [el] at hA
        obtain ⟨t, n, s⟩ := x
        simp only at h4
        subst h4
        exact rs_none v n s _ w hA
      | some yz =>
        obtain ⟨y, z⟩ := yz
        rw [el] at hA
        obtain ⟨t, n, s⟩ := x
        simp only at h4
        subst h4
        exact rs_deep v n s _ _ _ _ _ _ w hA
    · exact rs_flat v x hF h4 _ w
  | succ d ih =>
    intro hd x hF w hr
    by_cases h4 : x.t = 4
    · have hA : ∀ w1, BW w w1 → _ := fun w1 hb => at_any v ps hN x h4 w1 (hr.bw hb)
      cases el : look ps x with
      | none =>
        have e : sho (look ps) (d + 1) x = [46, 46] := by simp [sho, h4, el]
        rw [e]
        rw [el] at hA
        obtain ⟨t, n, s⟩ := x
        simp only at h4
        subst h4
        exact rs_none v n s _ w hA
      | some yz =>
        obtain ⟨y, z⟩ := yz
        have e : sho (look ps) (d + 1) x = 40 :: (sho (look ps) d y ++ [32, 46, 32] ++ sho (look ps) d z ++ [41]) := by simp [sho, h4, el]
        have ly := sho_len (look ps) hf1 d y (hf1 _ _ _ el).1
        have lz := sho_len (look ps) hf1 d z (hf1 _ _ _ el).2
        have hp : 2 ^ d ≤ 2 ^ 6 := Nat.pow_le_pow_right (by omega) (by omega)
        have fy := (hf2 _ _ _ el).1
        have fz := (hf2 _ _ _ el).2
        have e9 : (⟨#[40]⟩ ++ ⟨(sho (look ps) d y).toArray⟩ ++ ⟨#[32, 46, 32]⟩ ++ ⟨(sho (look ps) d z).toArray⟩ ++ ⟨#[41]⟩ : ByteArray) = ⟨(sho (look ps) (d + 1) x).toArray⟩ := by
          rw [e]
          apply ByteArray.ext
          simp [ByteArray.data_append]
        rw [← e9]
        rw [el] at hA
        obtain ⟨t, n, s⟩ := x
        simp only at h4
        subst h4
        have ek : (6 : Int) - ((d + 1 : Nat) : Int) + 1 = 6 - (d : Int) := by omega
        refine rs_some v n s _ _ _ _ _ _ _ (by omega) (i64w _ (by omega) (by omega)) _ _ ?_ ?_ w hA ?_ ?_
        · show (sho (look ps) d y).toArray.size ≤ _
          rw [List.size_toArray]; omega
        · show (sho (look ps) d z).toArray.size ≤ _
          rw [List.size_toArray]; omega
        · intro w1 hb
          rw [ek]
          exact ih (by omega) y fy w1 (hr.bw hb)
        · intro w1 hb
          rw [ek]
          exact ih (by omega) z fz w1 (hr.bw hb)
    · have e : sho (look ps) (d + 1) x = flat x := by simp [sho, h4]
      rw [e]
      exact rs_flat v x hF h4 _ w

end Go.Proofs.YtfgnlddfpemblaaDoor
