import Derived.Test.YtlacjiihbbgbeaaDoorA1
namespace Go.Proofs.YtlacjiihbbgbeaaDoor
open Go.RowKit
set_option linter.unusedVariables false
set_option linter.unusedSimpArgs false

def dg (c : UInt8) : Bool := decide (48 ≤ c.toNat) && decide (c.toNat ≤ 57)
/-- Are bytes a number's? -/
def num (l : List UInt8) : Bool := (Lib.trimPrefix l [45]).all dg && !(Lib.trimPrefix l [45]).isEmpty
theorem trim_len (l p : List UInt8) : (Lib.trimPrefix l p).length ≤ l.length := by
  unfold Lib.trimPrefix; split <;> simp
theorem take_snoc (u : ByteArray) (k : Nat) (h : k < u.size) : u.data.toList.take (k + 1) = u.data.toList.take k ++ [u[k]] := by
  rw [List.take_add_one]
  have : u.data.toList[k]? = some u[k] := by
    rw [List.getElem?_eq_getElem (by simpa using h)]; rfl
  rw [this]; rfl
theorem take_all (u : ByteArray) (k : Nat) (h : ¬ k < u.size) : u.data.toList.take k = u.data.toList := List.take_of_length_le (by simp; omega)
theorem all_mem {u : ByteArray} {p : UInt8 → Bool} (k : Nat) (h : k < u.size) (hp : p u[k] = false) : u.data.toList.all p = false := by
  rw [List.all_eq_false]
  exact ⟨u[k], (List.getElem_mem (l := u.data.toList) (by simpa using h : k < u.data.toList.length)), by simp [hp]⟩
set_option maxRecDepth 100000 in
set_option maxHeartbeats 1000000 in
theorem numeral_any (s : ByteArray) (hs : s.size ≤ 100000) (w : World) : Calls Tryd.prog 24 #[.string s] w fun e w' => e = .returned (.bool (num s.data.toList)) ∧ w' = w := by
  have hl := trim_len s.data.toList [45]
  have hsz : s.data.toList.length = s.size := by simp
  have hc : ∀ w : World, Calls Tryd.prog 37 #[.string s, .string ⟨#[45]⟩] w fun e w' => e = .returned (.string ⟨(Lib.trimPrefix s.data.toList [45]).toArray⟩) ∧ w' = w := fun w => Tryd.strings_TrimPrefix _ _ _
  unfold num
  generalize Lib.trimPrefix s.data.toList [45] = t at *
  obtain ⟨u, rfl⟩ : ∃ u : ByteArray, u.data.toList = t := ⟨⟨t.toArray⟩, rfl⟩
  have hu : u.size ≤ 100000 := by simp at hl; omega
  have hc' : ∀ w : World, Calls Tryd.prog 37 #[.string s, .string ⟨#[45]⟩] w fun e w' => e = .returned (.string u) ∧ w' = w := by simpa using hc
  clear hc hl hsz
  go_enter Tryd.func24, Tryd.ntmps24
  go_wp2_with (go_at_call 37; refine (hc' _).mono ?_; rintro e w' ⟨rfl, rfl⟩)
  go_loop [8] (fun i => ∃ k : Nat, k ≤ u.size ∧ i = .int .i64 k ∧ (u.data.toList.take k).all dg = true) (fun i => u.size - (intOf i).toNat)
  case atStart => exact ⟨0, Nat.zero_le _, rfl, by simp⟩
  case round =>
    obtain ⟨k, hk, rfl, hall⟩ := hrel
    by_cases hlt : k < u.size
    · by_cases hd : dg u[k] = true
      · have HA : Hid ((u.data.toList.take (k + 1)).all dg = true) := by show _ = _; rw [take_snoc u k hlt]; simp only [List.all_append, hall]; simp [hd]
        clear hall
        simp only [dg, Bool.and_eq_true, decide_eq_true_eq] at hd
        obtain ⟨d1, d2⟩ := hd
        have e1 : decide ((u[k].toNat : Int) < 48) = false := by simp; omega
        have e2 : decide ((57 : Int) < (u[k].toNat : Int)) = false := by simp; omega
        go_wp2_with fail
        go_round
        case rel => exact ⟨k + 1, by omega, by go_num, HA.out⟩
        case measure => simp [intOf]; omega
      · have HA : u.data.toList.all dg = false := all_mem k hlt (by simpa using hd)
        simp only [dg, Bool.and_eq_true, decide_eq_true_eq, not_and] at hd
        go_wp2_with fail
        all_goals (go_ret; exact ⟨rfl, rfl⟩)
    · have e : k = u.size := by omega
      subst e
      rw [take_all _ _ (by omega)] at hall
      go_wp2_with fail
      all_goals (go_ret; refine ⟨?_, rfl⟩; rw [ByteArray.toList_eq]; simp)

end Go.Proofs.YtlacjiihbbgbeaaDoor
