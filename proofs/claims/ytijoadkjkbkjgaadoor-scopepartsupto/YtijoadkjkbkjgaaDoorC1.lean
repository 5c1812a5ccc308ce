import Derived.Test.YtijoadkjkbkjgaaDoorU0
namespace Go.Proofs.YtijoadkjkbkjgaaDoor
open Go.RowKit
set_option linter.unusedVariables false
set_option linter.unusedSimpArgs false

/-- Is a text a word? -/
def wdB (s : ByteArray) : Bool := decide (s.size ≤ 65536) && wordB s.data.toList
/-- Is a text a name? -/
def nmB (s : ByteArray) : Bool := wdB s && !decide (s = ⟨#[116, 114, 117, 101]⟩) && !decide (s = ⟨#[102, 97, 108, 115, 101]⟩) && !decide (s = ⟨#[117, 110, 105, 116]⟩)
theorem lit_dec (s : ByteArray) (l : List UInt8) : (s.toList == l) = decide (s = ⟨l.toArray⟩) := by
  by_cases h : s = ⟨l.toArray⟩
  · rw [h, ByteArray.toList_eq]; simp
  · rw [(lit_ne h).1]; simp [h]
set_option maxRecDepth 100000 in
set_option maxHeartbeats 1000000 in
theorem word_all (s : ByteArray) (hs : s.size ≤ 9223372036854775807) (w : World) : Calls Tryd.prog 48 #[.string s] w fun e w' => e = .returned (.bool (wdB s)) ∧ w' = w := by
  unfold wdB
  by_cases h : s.size ≤ 65536
  · have e : decide (s.size ≤ 65536) = true := by simpa using h
    rw [e]
    exact word_any s h w
  · have e : decide (s.size ≤ 65536) = false := by simpa using h
    rw [e]
    have h0 : ¬ s.size = 0 := by omega
    have hnil : s.toList.isEmpty = false := by rw [ByteArray.toList_eq]; simpa using ne_nil h0
    have hnil2 : ¬ s.toList = [] := by rw [ByteArray.toList_eq]; exact ne_nil h0
    have hnil3 : (s.toList == []) = false := by simpa using hnil2
    have hq : decide ((65536 : Int) < s.size) = true := by simp; omega
    go_enter Tryd.func48, Tryd.ntmps48
    go_wp2_with (fail)
    go_ret
    exact ⟨rfl, rfl⟩
set_option maxRecDepth 100000 in
set_option maxHeartbeats 1000000 in
theorem refWord_all (s : ByteArray) (hs : s.size ≤ 9223372036854775807) (w : World) : Calls Tryd.prog 43 #[.string s] w fun e w' => e = .returned (.bool (wdB s)) ∧ w' = w := by
  unfold wdB
  by_cases h : s.size ≤ 65536
  · have e : decide (s.size ≤ 65536) = true := by simpa using h
    rw [e]
    exact refWord_any s h w
  · have e : decide (s.size ≤ 65536) = false := by simpa using h
    rw [e]
    have h0 : ¬ s.size = 0 := by omega
    have hnil : s.toList.isEmpty = false := by rw [ByteArray.toList_eq]; simpa using ne_nil h0
    have hnil2 : ¬ s.toList = [] := by rw [ByteArray.toList_eq]; exact ne_nil h0
    have hnil3 : (s.toList == []) = false := by simpa using hnil2
    have hq : decide ((65536 : Int) < s.size) = true := by simp; omega
    go_enter Tryd.func43, Tryd.ntmps43
    go_wp2_with (fail)
    go_ret
    exact ⟨rfl, rfl⟩
set_option maxRecDepth 100000 in
set_option maxHeartbeats 1000000 in
theorem name_any (s : ByteArray) (hs : s.size ≤ 9223372036854775807) (w : World) : Calls Tryd.prog 35 #[.string s] w fun e w' => e = .returned (.bool (nmB s)) ∧ w' = w := by
  have e1 : (s.toList == [116, 114, 117, 101]) = decide (s = ⟨#[116, 114, 117, 101]⟩) := lit_dec s _
  have e2 : (s.toList == [102, 97, 108, 115, 101]) = decide (s = ⟨#[102, 97, 108, 115, 101]⟩) := lit_dec s _
  have e3 : (s.toList == [117, 110, 105, 116]) = decide (s = ⟨#[117, 110, 105, 116]⟩) := lit_dec s _
  have HN : Hid (nmB s = (wdB s && !decide (s = ⟨#[116, 114, 117, 101]⟩) && !decide (s = ⟨#[102, 97, 108, 115, 101]⟩) && !decide (s = ⟨#[117, 110, 105, 116]⟩))) := rfl
  generalize nmB s = R at *
  generalize decide (s = ⟨#[116, 114, 117, 101]⟩) = d1 at *
  generalize decide (s = ⟨#[102, 97, 108, 115, 101]⟩) = d2 at *
  generalize decide (s = ⟨#[117, 110, 105, 116]⟩) = d3 at *
  have hC := fun w => word_all s hs w
  generalize wdB s = d0 at *
  have hC' : Hid _ := hC
  clear hC
  cases d0 <;> cases d1 <;> cases d2 <;> cases d3
  all_goals (
    go_enter Tryd.func35, Tryd.ntmps35
    go_wp2_with (go_at_call 48; refine (hC'.out _).mono ?_; rintro e w' ⟨rfl, rfl⟩)
    go_ret
    exact ⟨by rw [HN.out]; rfl, rfl⟩)
set_option maxRecDepth 100000 in
set_option maxHeartbeats 1000000 in
theorem refName_any (s : ByteArray) (hs : s.size ≤ 9223372036854775807) (w : World) : Calls Tryd.prog 23 #[.string s] w fun e w' => e = .returned (.bool (nmB s)) ∧ w' = w := by
  have e1 : (s.toList == [116, 114, 117, 101]) = decide (s = ⟨#[116, 114, 117, 101]⟩) := lit_dec s _
  have e2 : (s.toList == [102, 97, 108, 115, 101]) = decide (s = ⟨#[102, 97, 108, 115, 101]⟩) := lit_dec s _
  have e3 : (s.toList == [117, 110, 105, 116]) = decide (s = ⟨#[117, 110, 105, 116]⟩) := lit_dec s _
  have HN : Hid (nmB s = (wdB s && !decide (s = ⟨#[116, 114, 117, 101]⟩) && !decide (s = ⟨#[102, 97, 108, 115, 101]⟩) && !decide (s = ⟨#[117, 110, 105, 116]⟩))) := rfl
  generalize nmB s = R at *
  generalize decide (s = ⟨#[116, 114, 117, 101]⟩) = d1 at *
  generalize decide (s = ⟨#[102, 97, 108, 115, 101]⟩) = d2 at *
  generalize decide (s = ⟨#[117, 110, 105, 116]⟩) = d3 at *
  have hC := fun w => refWord_all s hs w
  generalize wdB s = d0 at *
  have hC' : Hid _ := hC
  clear hC
  cases d0 <;> cases d1 <;> cases d2 <;> cases d3
  all_goals (
    go_enter Tryd.func23, Tryd.ntmps23
    go_wp2_with (go_at_call 43; refine (hC'.out _).mono ?_; rintro e w' ⟨rfl, rfl⟩)
    go_ret
    exact ⟨by rw [HN.out]; rfl, rfl⟩)
set_option maxRecDepth 100000 in
set_option maxHeartbeats 1000000 in
theorem has_any (a b n : Int) (w : World) : Calls Tryd.prog 55 #[.agg #[.int .i64 a, .int .i64 b], .int .i64 n] w fun e w' => e = .returned (.bool (decide (a ≤ n) && decide (n ≤ b))) ∧ BW w w' := by
  cases h1 : decide (a ≤ n) <;> cases h2 : decide (n ≤ b)
  all_goals (
    go_enter Tryd.func55, Tryd.ntmps55
    go_wp2_with (fail)
    go_ret
    exact ⟨by simp [*], (by repeat (first | exact BW.refl _ | assumption | apply BW.alloc | apply BW.drewN | apply BW.drew | (refine BW.setCell ?_ (by first | omega | (simp; done) | (simp; omega)) _) | (refine BW.trans ?_ (by assumption))))⟩)
/-- Is a text right? -/
def tx (f : Nat) (s : ByteArray) : Bool := if f = 30 then decide (s = ⟨#[]⟩) else if f = 31 then decide (s.size ≤ 65536) else if f = 32 then decide (0 ≤ tk s.data.toList) else nmB s
set_option maxRecDepth 100000 in
set_option maxHeartbeats 1000000 in
theorem none_any (s : ByteArray) (w : World) : Calls Tryd.prog 30 #[.string s] w fun e w' => e = .returned (.bool (tx 30 s)) ∧ BW w w' := by
  have e1 : (s.toList == []) = decide (s = ⟨#[]⟩) := lit_dec s _
  have HT : Hid (tx 30 s = decide (s = ⟨#[]⟩)) := rfl
  generalize decide (s = ⟨#[]⟩) = d at *
  cases d
  all_goals (
    go_enter Tryd.func30, Tryd.ntmps30
    go_wp2_with (fail)
    go_ret
    exact ⟨by rw [HT.out]; simp_all, (by repeat (first | exact BW.refl _ | assumption | apply BW.alloc | apply BW.drewN | apply BW.drew | (refine BW.setCell ?_ (by first | omega | (simp; done) | (simp; omega)) _) | (refine BW.trans ?_ (by assumption))))⟩)
set_option maxRecDepth 100000 in
set_option maxHeartbeats 1000000 in
theorem short_any (s : ByteArray) (hs : s.size ≤ 9223372036854775807) (w : World) : Calls Tryd.prog 31 #[.string s] w fun e w' => e = .returned (.bool (tx 31 s)) ∧ BW w w' := by
  have HT : Hid (tx 31 s = decide ((s.size : Int) ≤ 65536)) := by show tx 31 s = _; simp [tx]; omega
  go_enter Tryd.func31, Tryd.ntmps31
  go_wp2_with (fail)
  go_ret
  exact ⟨by rw [HT.out]; rfl, (by repeat (first | exact BW.refl _ | assumption | apply BW.alloc | apply BW.drewN | apply BW.drew | (refine BW.setCell ?_ (by first | omega | (simp; done) | (simp; omega)) _) | (refine BW.trans ?_ (by assumption))))⟩
set_option maxRecDepth 100000 in
set_option maxHeartbeats 1000000 in
theorem prim_any (s : ByteArray) (w : World) (ht : Tw w) : Calls Tryd.prog 32 #[.string s] w fun e w' => e = .returned (.bool (tx 32 s)) ∧ BW w w' := by
  have HT : Hid (tx 32 s = decide (0 ≤ tk s.data.toList)) := rfl
  generalize tx 32 s = R at *
  have hC := takes_any s w ht
  generalize tk s.data.toList = q at *
  go_enter Tryd.func32, Tryd.ntmps32
  go_wp2_with (go_at_call 33; refine hC.mono ?_; rintro e w' ⟨rfl, b1⟩)
  go_ret
  exact ⟨by rw [HT.out]; rfl, (by repeat (first | exact BW.refl _ | assumption | apply BW.alloc | apply BW.drewN | apply BW.drew | (refine BW.setCell ?_ (by first | omega | (simp; done) | (simp; omega)) _) | (refine BW.trans ?_ (by assumption))))⟩
set_option maxRecDepth 100000 in
set_option maxHeartbeats 1000000 in
theorem clause_any (k n : Int) (s : ByteArray) (na : Option Addr) (nl nc : Nat) (ka : Option Addr) (kl kc : Nat) (w : World) : Calls Tryd.prog 37 #[ndv k n s na nl nc ka kl kc] w fun e w' => e = .returned (.bool (k == 17 || k == 18 || k == 19)) ∧ BW w w' := by
  cases h1 : (k == 17) <;> cases h2 : (k == 18) <;> cases h3 : (k == 19)
  all_goals (
    go_enter Tryd.func37, Tryd.ntmps37
    go_wp2_with (fail)
    go_ret
    exact ⟨by simp_all, (by repeat (first | exact BW.refl _ | assumption | apply BW.alloc | apply BW.drewN | apply BW.drew | (refine BW.setCell ?_ (by first | omega | (simp; done) | (simp; omega)) _) | (refine BW.trans ?_ (by assumption))))⟩)

end Go.Proofs.YtijoadkjkbkjgaaDoor
