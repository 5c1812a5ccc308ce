import Derived.Test.YtndhhmgbekcfoaaDoorG1
namespace Go.Proofs.YtndhhmgbekcfoaaDoor
open Go.RowKit
set_option linter.unusedVariables false
set_option linter.unusedSimpArgs false

set_option maxRecDepth 100000 in
set_option maxHeartbeats 4000000 in
theorem rf_1 (r : Mw) (m : Mdl) (a : Int) (w : World) (h : ModAt w r m) (ha : I64 a) (hr : inR a (m.ints.length : Int) = true) : Calls Tryd.prog 50 #[r.v, .agg #[.int .u8 1, .int .i64 a]] w fun e w' => e = .returned (.tuple #[.int .i64 (0), .int .i64 (1), .bool true]) ∧ BW w w' := by
  obtain ⟨l1, l2, l3, l4, _⟩ := h.lens
  rw [l1] at hr
  clear l1 l2 l3 l4
  have H : Hid (ModAt w _ m) := h
  clear h
  go_enter Tryd.func50, Tryd.ntmps50
  go_wp2_with (first | (go_at_call 49; refine (place_any _ _ _).mono ?_; rw [hr]; rintro e w2 ⟨rfl, rfl⟩))
  go_ret3
  exact ⟨rfl, (by repeat (first | exact BW.refl _ | assumption | apply BW.alloc | apply BW.drewN | apply BW.drew | (refine BW.setCell ?_ (by first | omega | (simp; done) | (simp; omega)) _) | (refine BW.trans ?_ (by assumption))))⟩
set_option maxRecDepth 100000 in
set_option maxHeartbeats 4000000 in
theorem rf_1b (r : Mw) (m : Mdl) (a : Int) (w : World) (h : ModAt w r m) (ha : I64 a) (hr : inR a (m.ints.length : Int) = false) : Calls Tryd.prog 50 #[r.v, .agg #[.int .u8 1, .int .i64 a]] w fun e w' => e = .returned (.tuple #[.int .i64 (0), .int .i64 (0), .bool false]) ∧ BW w w' := by
  obtain ⟨l1, l2, l3, l4, _⟩ := h.lens
  rw [l1] at hr
  clear l1 l2 l3 l4
  have H : Hid (ModAt w _ m) := h
  clear h
  go_enter Tryd.func50, Tryd.ntmps50
  go_wp2_with (first | (go_at_call 49; refine (place_any _ _ _).mono ?_; rw [hr]; rintro e w2 ⟨rfl, rfl⟩))
  go_ret3
  exact ⟨rfl, (by repeat (first | exact BW.refl _ | assumption | apply BW.alloc | apply BW.drewN | apply BW.drew | (refine BW.setCell ?_ (by first | omega | (simp; done) | (simp; omega)) _) | (refine BW.trans ?_ (by assumption))))⟩
set_option maxRecDepth 100000 in
set_option maxHeartbeats 4000000 in
theorem rf_2 (r : Mw) (m : Mdl) (a : Int) (w : World) (h : ModAt w r m) (ha : I64 a) (hr : inR a (m.texts.length : Int) = true) : Calls Tryd.prog 50 #[r.v, .agg #[.int .u8 2, .int .i64 a]] w fun e w' => e = .returned (.tuple #[.int .i64 (0), .int .i64 (1), .bool true]) ∧ BW w w' := by
  obtain ⟨l1, l2, l3, l4, _⟩ := h.lens
  rw [l2] at hr
  clear l1 l2 l3 l4
  have H : Hid (ModAt w _ m) := h
  clear h
  go_enter Tryd.func50, Tryd.ntmps50
  go_wp2_with (first | (go_at_call 49; refine (place_any _ _ _).mono ?_; rw [hr]; rintro e w2 ⟨rfl, rfl⟩))
  go_ret3
  exact ⟨rfl, (by repeat (first | exact BW.refl _ | assumption | apply BW.alloc | apply BW.drewN | apply BW.drew | (refine BW.setCell ?_ (by first | omega | (simp; done) | (simp; omega)) _) | (refine BW.trans ?_ (by assumption))))⟩
set_option maxRecDepth 100000 in
set_option maxHeartbeats 4000000 in
theorem rf_2b (r : Mw) (m : Mdl) (a : Int) (w : World) (h : ModAt w r m) (ha : I64 a) (hr : inR a (m.texts.length : Int) = false) : Calls Tryd.prog 50 #[r.v, .agg #[.int .u8 2, .int .i64 a]] w fun e w' => e = .returned (.tuple #[.int .i64 (0), .int .i64 (0), .bool false]) ∧ BW w w' := by
  obtain ⟨l1, l2, l3, l4, _⟩ := h.lens
  rw [l2] at hr
  clear l1 l2 l3 l4
  have H : Hid (ModAt w _ m) := h
  clear h
  go_enter Tryd.func50, Tryd.ntmps50
  go_wp2_with (first | (go_at_call 49; refine (place_any _ _ _).mono ?_; rw [hr]; rintro e w2 ⟨rfl, rfl⟩))
  go_ret3
  exact ⟨rfl, (by repeat (first | exact BW.refl _ | assumption | apply BW.alloc | apply BW.drewN | apply BW.drew | (refine BW.setCell ?_ (by first | omega | (simp; done) | (simp; omega)) _) | (refine BW.trans ?_ (by assumption))))⟩
set_option maxRecDepth 100000 in
set_option maxHeartbeats 4000000 in
theorem rf_3 (r : Mw) (m : Mdl) (a : Int) (w : World) (h : ModAt w r m) (ha : I64 a) : Calls Tryd.prog 50 #[r.v, .agg #[.int .u8 3, .int .i64 a]] w fun e w' => e = .returned (.tuple #[.int .i64 (0), .int .i64 (1), .bool true]) ∧ BW w w' := by
  have H : Hid (ModAt w _ m) := h
  clear h
  go_enter Tryd.func50, Tryd.ntmps50
  go_wp2_with (fail)
  go_ret3
  exact ⟨rfl, (by repeat (first | exact BW.refl _ | assumption | apply BW.alloc | apply BW.drewN | apply BW.drew | (refine BW.setCell ?_ (by first | omega | (simp; done) | (simp; omega)) _) | (refine BW.trans ?_ (by assumption))))⟩
set_option maxRecDepth 100000 in
set_option maxHeartbeats 4000000 in
theorem rf_4 (r : Mw) (m : Mdl) (a : Int) (w : World) (h : ModAt w r m) (ha : I64 a) : Calls Tryd.prog 50 #[r.v, .agg #[.int .u8 4, .int .i64 a]] w fun e w' => e = .returned (.tuple #[.int .i64 (0), .int .i64 (1), .bool true]) ∧ BW w w' := by
  have H : Hid (ModAt w _ m) := h
  clear h
  go_enter Tryd.func50, Tryd.ntmps50
  go_wp2_with (fail)
  go_ret3
  exact ⟨rfl, (by repeat (first | exact BW.refl _ | assumption | apply BW.alloc | apply BW.drewN | apply BW.drew | (refine BW.setCell ?_ (by first | omega | (simp; done) | (simp; omega)) _) | (refine BW.trans ?_ (by assumption))))⟩
set_option maxRecDepth 100000 in
set_option maxHeartbeats 4000000 in
theorem rf_5 (r : Mw) (m : Mdl) (a : Int) (w : World) (h : ModAt w r m) (ha : I64 a) : Calls Tryd.prog 50 #[r.v, .agg #[.int .u8 5, .int .i64 a]] w fun e w' => e = .returned (.tuple #[.int .i64 (0), .int .i64 (1), .bool true]) ∧ BW w w' := by
  have H : Hid (ModAt w _ m) := h
  clear h
  go_enter Tryd.func50, Tryd.ntmps50
  go_wp2_with (fail)
  go_ret3
  exact ⟨rfl, (by repeat (first | exact BW.refl _ | assumption | apply BW.alloc | apply BW.drewN | apply BW.drew | (refine BW.setCell ?_ (by first | omega | (simp; done) | (simp; omega)) _) | (refine BW.trans ?_ (by assumption))))⟩
set_option maxRecDepth 100000 in
set_option maxHeartbeats 4000000 in
theorem rf_6 (r : Mw) (m : Mdl) (a : Int) (w : World) (h : ModAt w r m) (ha : I64 a) : Calls Tryd.prog 50 #[r.v, .agg #[.int .u8 6, .int .i64 a]] w fun e w' => e = .returned (.tuple #[.int .i64 (0), .int .i64 (1), .bool true]) ∧ BW w w' := by
  have H : Hid (ModAt w _ m) := h
  clear h
  go_enter Tryd.func50, Tryd.ntmps50
  go_wp2_with (fail)
  go_ret3
  exact ⟨rfl, (by repeat (first | exact BW.refl _ | assumption | apply BW.alloc | apply BW.drewN | apply BW.drew | (refine BW.setCell ?_ (by first | omega | (simp; done) | (simp; omega)) _) | (refine BW.trans ?_ (by assumption))))⟩
set_option maxRecDepth 100000 in
set_option maxHeartbeats 4000000 in
theorem rf_7 (r : Mw) (m : Mdl) (a : Int) (w : World) (h : ModAt w r m) (ha : I64 a) : Calls Tryd.prog 50 #[r.v, .agg #[.int .u8 7, .int .i64 a]] w fun e w' => e = .returned (.tuple #[.int .i64 (1), .int .i64 (0), .bool true]) ∧ BW w w' := by
  have H : Hid (ModAt w _ m) := h
  clear h
  go_enter Tryd.func50, Tryd.ntmps50
  go_wp2_with (fail)
  go_ret3
  exact ⟨rfl, (by repeat (first | exact BW.refl _ | assumption | apply BW.alloc | apply BW.drewN | apply BW.drew | (refine BW.setCell ?_ (by first | omega | (simp; done) | (simp; omega)) _) | (refine BW.trans ?_ (by assumption))))⟩
set_option maxRecDepth 100000 in
set_option maxHeartbeats 4000000 in
theorem rf_8 (r : Mw) (m : Mdl) (a : Int) (w : World) (h : ModAt w r m) (ha : I64 a) : Calls Tryd.prog 50 #[r.v, .agg #[.int .u8 8, .int .i64 a]] w fun e w' => e = .returned (.tuple #[.int .i64 (0), .int .i64 (1), .bool true]) ∧ BW w w' := by
  have H : Hid (ModAt w _ m) := h
  clear h
  go_enter Tryd.func50, Tryd.ntmps50
  go_wp2_with (fail)
  go_ret3
  exact ⟨rfl, (by repeat (first | exact BW.refl _ | assumption | apply BW.alloc | apply BW.drewN | apply BW.drew | (refine BW.setCell ?_ (by first | omega | (simp; done) | (simp; omega)) _) | (refine BW.trans ?_ (by assumption))))⟩
set_option maxRecDepth 100000 in
set_option maxHeartbeats 4000000 in
theorem rf_10 (r : Mw) (m : Mdl) (a : Int) (w : World) (h : ModAt w r m) (ha : I64 a) (hr : inR a 201 = true) : Calls Tryd.prog 50 #[r.v, .agg #[.int .u8 10, .int .i64 a]] w fun e w' => e = .returned (.tuple #[.int .i64 (a + 1), .int .i64 (1), .bool true]) ∧ BW w w' := by
  unfold inR at hr
  simp only [Bool.and_eq_true, decide_eq_true_eq] at hr
  have e1 : decide (0 ≤ a) = true := by simpa using hr.1
  have e2 : decide (a ≤ 200) = true := by simp; omega
  have e3 : decide (a + 1 < 0) = false := by simp; omega
  have w1 := i64w (a + 1) (by omega) (by omega)
  have H : Hid (ModAt w _ m) := h
  clear h
  go_enter Tryd.func50, Tryd.ntmps50
  go_wp2_with (fail)
  go_ret3
  exact ⟨rfl, (by repeat (first | exact BW.refl _ | assumption | apply BW.alloc | apply BW.drewN | apply BW.drew | (refine BW.setCell ?_ (by first | omega | (simp; done) | (simp; omega)) _) | (refine BW.trans ?_ (by assumption))))⟩
set_option maxRecDepth 100000 in
set_option maxHeartbeats 4000000 in
theorem rf_10b (r : Mw) (m : Mdl) (a : Int) (w : World) (h : ModAt w r m) (ha : I64 a) (hr : inR a 201 = false) : Calls Tryd.prog 50 #[r.v, .agg #[.int .u8 10, .int .i64 a]] w fun e w' => e = .returned (.tuple #[.int .i64 (0), .int .i64 (0), .bool false]) ∧ BW w w' := by
  by_cases h0 : 0 ≤ a
  · have h2 : ¬ a ≤ 200 := by intro h2; simp [inR, h0] at hr; omega
    have e1 : decide (0 ≤ a) = true := by simpa using h0
    have e2 : decide (a ≤ 200) = false := by simpa using h2
    have H : Hid (ModAt w _ m) := h
    clear h
    go_enter Tryd.func50, Tryd.ntmps50
    go_wp2_with (fail)
    go_ret3
    exact ⟨rfl, (by repeat (first | exact BW.refl _ | assumption | apply BW.alloc | apply BW.drewN | apply BW.drew | (refine BW.setCell ?_ (by first | omega | (simp; done) | (simp; omega)) _) | (refine BW.trans ?_ (by assumption))))⟩
  · have e1 : decide (0 ≤ a) = false := by simpa using h0
    have H : Hid (ModAt w _ m) := h
    clear h
    go_enter Tryd.func50, Tryd.ntmps50
    go_wp2_with (fail)
    go_ret3
    exact ⟨rfl, (by repeat (first | exact BW.refl _ | assumption | apply BW.alloc | apply BW.drewN | apply BW.drew | (refine BW.setCell ?_ (by first | omega | (simp; done) | (simp; omega)) _) | (refine BW.trans ?_ (by assumption))))⟩
set_option maxRecDepth 100000 in
set_option maxHeartbeats 4000000 in
theorem rf_11 (r : Mw) (m : Mdl) (a : Int) (w : World) (h : ModAt w r m) (ha : I64 a) (hr : inR a 201 = true) : Calls Tryd.prog 50 #[r.v, .agg #[.int .u8 11, .int .i64 a]] w fun e w' => e = .returned (.tuple #[.int .i64 (a + 1), .int .i64 (0), .bool true]) ∧ BW w w' := by
  unfold inR at hr
  simp only [Bool.and_eq_true, decide_eq_true_eq] at hr
  have e1 : decide (0 ≤ a) = true := by simpa using hr.1
  have e2 : decide (a ≤ 200) = true := by simp; omega
  have e3 : decide (a + 1 < 0) = false := by simp; omega
  have w1 := i64w (a + 1) (by omega) (by omega)
  have H : Hid (ModAt w _ m) := h
  clear h
  go_enter Tryd.func50, Tryd.ntmps50
  go_wp2_with (fail)
  go_ret3
  exact ⟨rfl, (by repeat (first | exact BW.refl _ | assumption | apply BW.alloc | apply BW.drewN | apply BW.drew | (refine BW.setCell ?_ (by first | omega | (simp; done) | (simp; omega)) _) | (refine BW.trans ?_ (by assumption))))⟩
set_option maxRecDepth 100000 in
set_option maxHeartbeats 4000000 in
theorem rf_11b (r : Mw) (m : Mdl) (a : Int) (w : World) (h : ModAt w r m) (ha : I64 a) (hr : inR a 201 = false) : Calls Tryd.prog 50 #[r.v, .agg #[.int .u8 11, .int .i64 a]] w fun e w' => e = .returned (.tuple #[.int .i64 (0), .int .i64 (0), .bool false]) ∧ BW w w' := by
  by_cases h0 : 0 ≤ a
  · have h2 : ¬ a ≤ 200 := by intro h2; simp [inR, h0] at hr; omega
    have e1 : decide (0 ≤ a) = true := by simpa using h0
    have e2 : decide (a ≤ 200) = false := by simpa using h2
    have H : Hid (ModAt w _ m) := h
    clear h
    go_enter Tryd.func50, Tryd.ntmps50
    go_wp2_with (fail)
    go_ret3
    exact ⟨rfl, (by repeat (first | exact BW.refl _ | assumption | apply BW.alloc | apply BW.drewN | apply BW.drew | (refine BW.setCell ?_ (by first | omega | (simp; done) | (simp; omega)) _) | (refine BW.trans ?_ (by assumption))))⟩
  · have e1 : decide (0 ≤ a) = false := by simpa using h0
    have H : Hid (ModAt w _ m) := h
    clear h
    go_enter Tryd.func50, Tryd.ntmps50
    go_wp2_with (fail)
    go_ret3
    exact ⟨rfl, (by repeat (first | exact BW.refl _ | assumption | apply BW.alloc | apply BW.drewN | apply BW.drew | (refine BW.setCell ?_ (by first | omega | (simp; done) | (simp; omega)) _) | (refine BW.trans ?_ (by assumption))))⟩
set_option maxRecDepth 100000 in
set_option maxHeartbeats 4000000 in
theorem rf_12 (r : Mw) (m : Mdl) (a : Int) (w : World) (h : ModAt w r m) (ha : I64 a) : Calls Tryd.prog 50 #[r.v, .agg #[.int .u8 12, .int .i64 a]] w fun e w' => e = .returned (.tuple #[.int .i64 (1), .int .i64 (0), .bool true]) ∧ BW w w' := by
  have H : Hid (ModAt w _ m) := h
  clear h
  go_enter Tryd.func50, Tryd.ntmps50
  go_wp2_with (fail)
  go_ret3
  exact ⟨rfl, (by repeat (first | exact BW.refl _ | assumption | apply BW.alloc | apply BW.drewN | apply BW.drew | (refine BW.setCell ?_ (by first | omega | (simp; done) | (simp; omega)) _) | (refine BW.trans ?_ (by assumption))))⟩
set_option maxRecDepth 100000 in
set_option maxHeartbeats 4000000 in
theorem rf_13 (r : Mw) (m : Mdl) (a : Int) (w : World) (h : ModAt w r m) (ha : I64 a) : Calls Tryd.prog 50 #[r.v, .agg #[.int .u8 13, .int .i64 a]] w fun e w' => e = .returned (.tuple #[.int .i64 (0), .int .i64 (0), .bool true]) ∧ BW w w' := by
  have H : Hid (ModAt w _ m) := h
  clear h
  go_enter Tryd.func50, Tryd.ntmps50
  go_wp2_with (fail)
  go_ret3
  exact ⟨rfl, (by repeat (first | exact BW.refl _ | assumption | apply BW.alloc | apply BW.drewN | apply BW.drew | (refine BW.setCell ?_ (by first | omega | (simp; done) | (simp; omega)) _) | (refine BW.trans ?_ (by assumption))))⟩
set_option maxRecDepth 100000 in
set_option maxHeartbeats 4000000 in
theorem rf_14 (r : Mw) (m : Mdl) (a : Int) (w : World) (h : ModAt w r m) (ha : I64 a) : Calls Tryd.prog 50 #[r.v, .agg #[.int .u8 14, .int .i64 a]] w fun e w' => e = .returned (.tuple #[.int .i64 (1), .int .i64 (0), .bool true]) ∧ BW w w' := by
  have H : Hid (ModAt w _ m) := h
  clear h
  go_enter Tryd.func50, Tryd.ntmps50
  go_wp2_with (fail)
  go_ret3
  exact ⟨rfl, (by repeat (first | exact BW.refl _ | assumption | apply BW.alloc | apply BW.drewN | apply BW.drew | (refine BW.setCell ?_ (by first | omega | (simp; done) | (simp; omega)) _) | (refine BW.trans ?_ (by assumption))))⟩
set_option maxRecDepth 100000 in
set_option maxHeartbeats 4000000 in
theorem rf_15 (r : Mw) (m : Mdl) (a : Int) (w : World) (h : ModAt w r m) (ha : I64 a) : Calls Tryd.prog 50 #[r.v, .agg #[.int .u8 15, .int .i64 a]] w fun e w' => e = .returned (.tuple #[.int .i64 (1), .int .i64 (0), .bool true]) ∧ BW w w' := by
  have H : Hid (ModAt w _ m) := h
  clear h
  go_enter Tryd.func50, Tryd.ntmps50
  go_wp2_with (fail)
  go_ret3
  exact ⟨rfl, (by repeat (first | exact BW.refl _ | assumption | apply BW.alloc | apply BW.drewN | apply BW.drew | (refine BW.setCell ?_ (by first | omega | (simp; done) | (simp; omega)) _) | (refine BW.trans ?_ (by assumption))))⟩
set_option maxRecDepth 100000 in
set_option maxHeartbeats 4000000 in
theorem rf_17 (r : Mw) (m : Mdl) (a : Int) (w : World) (h : ModAt w r m) (ha : I64 a) (hr : inR a (m.texts.length : Int) = true) : Calls Tryd.prog 50 #[r.v, .agg #[.int .u8 17, .int .i64 a]] w fun e w' => e = .returned (.tuple #[.int .i64 (1), .int .i64 (1), .bool true]) ∧ BW w w' := by
  obtain ⟨l1, l2, l3, l4, _⟩ := h.lens
  rw [l2] at hr
  clear l1 l2 l3 l4
  have H : Hid (ModAt w _ m) := h
  clear h
  go_enter Tryd.func50, Tryd.ntmps50
  go_wp2_with (first | (go_at_call 49; refine (place_any _ _ _).mono ?_; rw [hr]; rintro e w2 ⟨rfl, rfl⟩))
  go_ret3
  exact ⟨rfl, (by repeat (first | exact BW.refl _ | assumption | apply BW.alloc | apply BW.drewN | apply BW.drew | (refine BW.setCell ?_ (by first | omega | (simp; done) | (simp; omega)) _) | (refine BW.trans ?_ (by assumption))))⟩
set_option maxRecDepth 100000 in
set_option maxHeartbeats 4000000 in
theorem rf_17b (r : Mw) (m : Mdl) (a : Int) (w : World) (h : ModAt w r m) (ha : I64 a) (hr : inR a (m.texts.length : Int) = false) : Calls Tryd.prog 50 #[r.v, .agg #[.int .u8 17, .int .i64 a]] w fun e w' => e = .returned (.tuple #[.int .i64 (0), .int .i64 (0), .bool false]) ∧ BW w w' := by
  obtain ⟨l1, l2, l3, l4, _⟩ := h.lens
  rw [l2] at hr
  clear l1 l2 l3 l4
  have H : Hid (ModAt w _ m) := h
  clear h
  go_enter Tryd.func50, Tryd.ntmps50
  go_wp2_with (first | (go_at_call 49; refine (place_any _ _ _).mono ?_; rw [hr]; rintro e w2 ⟨rfl, rfl⟩))
  go_ret3
  exact ⟨rfl, (by repeat (first | exact BW.refl _ | assumption | apply BW.alloc | apply BW.drewN | apply BW.drew | (refine BW.setCell ?_ (by first | omega | (simp; done) | (simp; omega)) _) | (refine BW.trans ?_ (by assumption))))⟩
set_option maxRecDepth 100000 in
set_option maxHeartbeats 4000000 in
theorem rf_19 (r : Mw) (m : Mdl) (a : Int) (w : World) (h : ModAt w r m) (ha : I64 a) : Calls Tryd.prog 50 #[r.v, .agg #[.int .u8 19, .int .i64 a]] w fun e w' => e = .returned (.tuple #[.int .i64 (2), .int .i64 (1), .bool true]) ∧ BW w w' := by
  have H : Hid (ModAt w _ m) := h
  clear h
  go_enter Tryd.func50, Tryd.ntmps50
  go_wp2_with (fail)
  go_ret3
  exact ⟨rfl, (by repeat (first | exact BW.refl _ | assumption | apply BW.alloc | apply BW.drewN | apply BW.drew | (refine BW.setCell ?_ (by first | omega | (simp; done) | (simp; omega)) _) | (refine BW.trans ?_ (by assumption))))⟩
set_option maxRecDepth 100000 in
set_option maxHeartbeats 4000000 in
theorem rf_20 (r : Mw) (m : Mdl) (a : Int) (w : World) (h : ModAt w r m) (ha : I64 a) : Calls Tryd.prog 50 #[r.v, .agg #[.int .u8 20, .int .i64 a]] w fun e w' => e = .returned (.tuple #[.int .i64 (2), .int .i64 (1), .bool true]) ∧ BW w w' := by
  have H : Hid (ModAt w _ m) := h
  clear h
  go_enter Tryd.func50, Tryd.ntmps50
  go_wp2_with (fail)
  go_ret3
  exact ⟨rfl, (by repeat (first | exact BW.refl _ | assumption | apply BW.alloc | apply BW.drewN | apply BW.drew | (refine BW.setCell ?_ (by first | omega | (simp; done) | (simp; omega)) _) | (refine BW.trans ?_ (by assumption))))⟩
set_option maxRecDepth 100000 in
set_option maxHeartbeats 4000000 in
theorem rf_21 (r : Mw) (m : Mdl) (a : Int) (w : World) (h : ModAt w r m) (ha : I64 a) : Calls Tryd.prog 50 #[r.v, .agg #[.int .u8 21, .int .i64 a]] w fun e w' => e = .returned (.tuple #[.int .i64 (3), .int .i64 (1), .bool true]) ∧ BW w w' := by
  have H : Hid (ModAt w _ m) := h
  clear h
  go_enter Tryd.func50, Tryd.ntmps50
  go_wp2_with (fail)
  go_ret3
  exact ⟨rfl, (by repeat (first | exact BW.refl _ | assumption | apply BW.alloc | apply BW.drewN | apply BW.drew | (refine BW.setCell ?_ (by first | omega | (simp; done) | (simp; omega)) _) | (refine BW.trans ?_ (by assumption))))⟩
set_option maxRecDepth 100000 in
set_option maxHeartbeats 4000000 in
theorem rf_22 (r : Mw) (m : Mdl) (a : Int) (w : World) (h : ModAt w r m) (ha : I64 a) : Calls Tryd.prog 50 #[r.v, .agg #[.int .u8 22, .int .i64 a]] w fun e w' => e = .returned (.tuple #[.int .i64 (2), .int .i64 (0), .bool true]) ∧ BW w w' := by
  have H : Hid (ModAt w _ m) := h
  clear h
  go_enter Tryd.func50, Tryd.ntmps50
  go_wp2_with (fail)
  go_ret3
  exact ⟨rfl, (by repeat (first | exact BW.refl _ | assumption | apply BW.alloc | apply BW.drewN | apply BW.drew | (refine BW.setCell ?_ (by first | omega | (simp; done) | (simp; omega)) _) | (refine BW.trans ?_ (by assumption))))⟩
set_option maxRecDepth 100000 in
set_option maxHeartbeats 4000000 in
theorem rf_9b (r : Mw) (m : Mdl) (a : Int) (w : World) (h : ModAt w r m) (ha : I64 a) (hr : inR a (m.pros.length : Int) = false) : Calls Tryd.prog 50 #[r.v, .agg #[.int .u8 9, .int .i64 a]] w fun e w' => e = .returned (.tuple #[.int .i64 (0), .int .i64 (0), .bool false]) ∧ BW w w' := by
  obtain ⟨l1, l2, l3, l4, _⟩ := h.lens
  rw [l3] at hr
  clear l1 l2 l3 l4
  have H : Hid (ModAt w _ m) := h
  clear h
  go_enter Tryd.func50, Tryd.ntmps50
  go_wp2_with (first | (go_at_call 49; refine (place_any _ _ _).mono ?_; rw [hr]; rintro e w2 ⟨rfl, rfl⟩))
  go_ret3
  exact ⟨rfl, (by repeat (first | exact BW.refl _ | assumption | apply BW.alloc | apply BW.drewN | apply BW.drew | (refine BW.setCell ?_ (by first | omega | (simp; done) | (simp; omega)) _) | (refine BW.trans ?_ (by assumption))))⟩
set_option maxRecDepth 100000 in
set_option maxHeartbeats 4000000 in
theorem rf_16b (r : Mw) (m : Mdl) (a : Int) (w : World) (h : ModAt w r m) (ha : I64 a) (hr : inR a 32 = false) : Calls Tryd.prog 50 #[r.v, .agg #[.int .u8 16, .int .i64 a]] w fun e w' => e = .returned (.tuple #[.int .i64 (0), .int .i64 (0), .bool false]) ∧ BW w w' := by
  have H : Hid (ModAt w _ m) := h
  clear h
  go_enter Tryd.func50, Tryd.ntmps50
  go_wp2_with (first | (go_at_call 49; refine (place_any _ _ _).mono ?_; rw [hr]; rintro e w2 ⟨rfl, rfl⟩))
  go_ret3
  exact ⟨rfl, (by repeat (first | exact BW.refl _ | assumption | apply BW.alloc | apply BW.drewN | apply BW.drew | (refine BW.setCell ?_ (by first | omega | (simp; done) | (simp; omega)) _) | (refine BW.trans ?_ (by assumption))))⟩
set_option maxRecDepth 100000 in
set_option maxHeartbeats 4000000 in
theorem rf_18b (r : Mw) (m : Mdl) (a : Int) (w : World) (h : ModAt w r m) (ha : I64 a) (hr : inR a (m.tabs.length : Int) = false) : Calls Tryd.prog 50 #[r.v, .agg #[.int .u8 18, .int .i64 a]] w fun e w' => e = .returned (.tuple #[.int .i64 (0), .int .i64 (0), .bool false]) ∧ BW w w' := by
  obtain ⟨l1, l2, l3, l4, _⟩ := h.lens
  rw [l4] at hr
  clear l1 l2 l3 l4
  have H : Hid (ModAt w _ m) := h
  clear h
  go_enter Tryd.func50, Tryd.ntmps50
  go_wp2_with (first | (go_at_call 49; refine (place_any _ _ _).mono ?_; rw [hr]; rintro e w2 ⟨rfl, rfl⟩))
  go_ret3
  exact ⟨rfl, (by repeat (first | exact BW.refl _ | assumption | apply BW.alloc | apply BW.drewN | apply BW.drew | (refine BW.setCell ?_ (by first | omega | (simp; done) | (simp; omega)) _) | (refine BW.trans ?_ (by assumption))))⟩
set_option maxRecDepth 100000 in
set_option maxHeartbeats 4000000 in
theorem rf_no (r : Mw) (m : Mdl) (op a : Int) (w : World) (h : ModAt w r m) (ha : I64 a) (h1 : ¬ op = 1) (h2 : ¬ op = 2) (h3 : ¬ op = 3) (h4 : ¬ op = 4) (h5 : ¬ op = 5) (h6 : ¬ op = 6) (h7 : ¬ op = 7) (h8 : ¬ op = 8) (h9 : ¬ op = 9) (h10 : ¬ op = 10) (h11 : ¬ op = 11) (h12 : ¬ op = 12) (h13 : ¬ op = 13) (h14 : ¬ op = 14) (h15 : ¬ op = 15) (h16 : ¬ op = 16) (h17 : ¬ op = 17) (h18 : ¬ op = 18) (h19 : ¬ op = 19) (h20 : ¬ op = 20) (h21 : ¬ op = 21) (h22 : ¬ op = 22) : Calls Tryd.prog 50 #[r.v, .agg #[.int .u8 op, .int .i64 a]] w fun e w' => e = .returned (.tuple #[.int .i64 (0), .int .i64 (0), .bool false]) ∧ BW w w' := by
  have e1 : (op == 1) = false := by simpa using h1
  have e2 : (op == 2) = false := by simpa using h2
  have e3 : (op == 3) = false := by simpa using h3
  have e4 : (op == 4) = false := by simpa using h4
  have e5 : (op == 5) = false := by simpa using h5
  have e6 : (op == 6) = false := by simpa using h6
  have e7 : (op == 7) = false := by simpa using h7
  have e8 : (op == 8) = false := by simpa using h8
  have e9 : (op == 9) = false := by simpa using h9
  have e10 : (op == 10) = false := by simpa using h10
  have e11 : (op == 11) = false := by simpa using h11
  have e12 : (op == 12) = false := by simpa using h12
  have e13 : (op == 13) = false := by simpa using h13
  have e14 : (op == 14) = false := by simpa using h14
  have e15 : (op == 15) = false := by simpa using h15
  have e16 : (op == 16) = false := by simpa using h16
  have e17 : (op == 17) = false := by simpa using h17
  have e18 : (op == 18) = false := by simpa using h18
  have e19 : (op == 19) = false := by simpa using h19
  have e20 : (op == 20) = false := by simpa using h20
  have e21 : (op == 21) = false := by simpa using h21
  have e22 : (op == 22) = false := by simpa using h22
  have H : Hid (ModAt w _ m) := h
  clear h
  go_enter Tryd.func50, Tryd.ntmps50
  go_wp2_with (fail)
  go_ret3
  exact ⟨rfl, (by repeat (first | exact BW.refl _ | assumption | apply BW.alloc | apply BW.drewN | apply BW.drew | (refine BW.setCell ?_ (by first | omega | (simp; done) | (simp; omega)) _) | (refine BW.trans ?_ (by assumption))))⟩
set_option maxRecDepth 100000 in
set_option maxHeartbeats 4000000 in
theorem rf_9 (r : Mw) (m : Mdl) (k : Nat) (w : World) (h : ModAt w r m)  (x : Pro) (hx : m.pros[k]? = some x) (hu : ¬ x.u < 0) : Calls Tryd.prog 50 #[r.v, .agg #[.int .u8 9, .int .i64 (k : Nat)]] w fun e w' => e = .returned (.tuple #[.int .i64 (x.u), .int .i64 (1), .bool true]) ∧ BW w w' := by
  obtain ⟨_, _, l3, _, _, _, b3, _⟩ := h.lens
  have hlt : k < r.pl := by have := (List.getElem?_eq_some_iff.1 hx).1; omega
  have hr : inR (k : Int) (r.pl : Int) = true := by simp [inR]; omega
  clear l3
  obtain ⟨ia, il, ic, ta, tl, tc, pa, pl, pc, ha', hl, hc⟩ := r
  dsimp only at hlt b3 hr
  obtain ⟨b, off, x', rfl, hbl, hx', ca, cl, cc, hK, hV⟩ := RowAt.get h.pros hlt
  obtain rfl : x = x' := Option.some.inj (hx.symm.trans hx')
  obtain ⟨d0, d1, d2, d3⟩ := hK
  have hu2 : decide (x.u < 0) = false := by simpa using hu
  clear hV hx hx'
  have H : Hid (ModAt w _ m) := h
  clear h
  go_enter Tryd.func50, Tryd.ntmps50
  go_wp2_with (first | (go_at_call 49; refine (place_any _ _ _).mono ?_; rw [hr]; rintro e w2 ⟨rfl, rfl⟩))
  go_ret3
  exact ⟨rfl, (by repeat (first | exact BW.refl _ | assumption | apply BW.alloc | apply BW.drewN | apply BW.drew | (refine BW.setCell ?_ (by first | omega | (simp; done) | (simp; omega)) _) | (refine BW.trans ?_ (by assumption))))⟩
set_option maxRecDepth 100000 in
set_option maxHeartbeats 4000000 in
theorem rf_9n (r : Mw) (m : Mdl) (k : Nat) (w : World) (h : ModAt w r m)  (x : Pro) (hx : m.pros[k]? = some x) (hu : x.u < 0) : Calls Tryd.prog 50 #[r.v, .agg #[.int .u8 9, .int .i64 (k : Nat)]] w fun e w' => e = .returned (.tuple #[.int .i64 (0), .int .i64 (0), .bool false]) ∧ BW w w' := by
  obtain ⟨_, _, l3, _, _, _, b3, _⟩ := h.lens
  have hlt : k < r.pl := by have := (List.getElem?_eq_some_iff.1 hx).1; omega
  have hr : inR (k : Int) (r.pl : Int) = true := by simp [inR]; omega
  clear l3
  obtain ⟨ia, il, ic, ta, tl, tc, pa, pl, pc, ha', hl, hc⟩ := r
  dsimp only at hlt b3 hr
  obtain ⟨b, off, x', rfl, hbl, hx', ca, cl, cc, hK, hV⟩ := RowAt.get h.pros hlt
  obtain rfl : x = x' := Option.some.inj (hx.symm.trans hx')
  obtain ⟨d0, d1, d2, d3⟩ := hK
  have hu2 : decide (x.u < 0) = true := by simpa using hu
  clear hV hx hx'
  have H : Hid (ModAt w _ m) := h
  clear h
  go_enter Tryd.func50, Tryd.ntmps50
  go_wp2_with (first | (go_at_call 49; refine (place_any _ _ _).mono ?_; rw [hr]; rintro e w2 ⟨rfl, rfl⟩))
  go_ret3
  exact ⟨rfl, (by repeat (first | exact BW.refl _ | assumption | apply BW.alloc | apply BW.drewN | apply BW.drew | (refine BW.setCell ?_ (by first | omega | (simp; done) | (simp; omega)) _) | (refine BW.trans ?_ (by assumption))))⟩
set_option maxRecDepth 100000 in
set_option maxHeartbeats 4000000 in
theorem rf_16 (r : Mw) (m : Mdl) (k : Nat) (w : World) (h : ModAt w r m)  (hk : k < 32) : Calls Tryd.prog 50 #[r.v, .agg #[.int .u8 16, .int .i64 (k : Nat)]] w fun e w' => e = .returned (.tuple #[.int .i64 (wn k), .int .i64 (1), .bool true]) ∧ BW w w' := by
  have hr : inR (k : Int) 32 = true := by simp [inR]; omega
  have hp := wn_pos k hk
  have e1 : decide (wn k < 0) = false := by simp; omega
  have hwl := wl_get k hk
  have htk := tk_wk k hk
  have hi0 : (0 : Int) ≤ (k : Int) := by omega
  have hi1 : (k : Int) < 32 := by omega
  have HQ : Hid (∀ W, Calls Tryd.prog 73 #[] W fun e w' => (∃ g cp, e = .returned (.slice (some ⟨g, 0, none⟩) 32 cp) ∧ w'.cell? ⟨g, k, none⟩ = some (.string (wk k))) ∧ BW W w') := fun W => (refWords_any W).mono (by
    rintro e w' ⟨⟨g, cp, rfl, hs, _, _⟩, hb⟩
    refine ⟨⟨g, cp, rfl, ?_⟩, hb⟩
    obtain ⟨_, off, x, e, hbl, hx, _, hc⟩ := StrsAt.get hs hk
    cases e; rw [hwl] at hx; cases hx; simpa using hc)
  have HK : Hid (∀ W, Calls Tryd.prog 72 #[.string (wk k)] W fun e w' => e = .returned (.int .i64 (wn k)) ∧ BW W w') := fun W => by have := refTakes_any (wk k) W; rw [htk] at this; exact this
  clear hwl htk hp
  generalize wk k = x at *
  generalize wn k = n at *
  have H : Hid (ModAt w _ m) := h
  clear h
  go_enter Tryd.func50, Tryd.ntmps50
  go_wp2_with (first | (go_at_call 49; refine (place_any _ _ _).mono ?_; rw [hr]; rintro e w2 ⟨rfl, rfl⟩))
  go_region_with (first | (go_at_call 73; refine (HQ.out _).mono ?_; rintro e w3 ⟨⟨g, cp, rfl, c3⟩, b3⟩; obtain ⟨_, ⟨_, c4⟩, cz, cb⟩ := bxMI_at (r := r) (x := ⟨16, (k : Int)⟩) (BW.trans (BW.drew (BW.refl _)) b3)) | (go_at_call 72; refine (HK.out _).mono ?_; rintro e w4 ⟨rfl, b4⟩))
  all_goals (go_wp2_with (fail))
  all_goals go_ret3
  all_goals exact ⟨rfl, (by repeat (first | exact BW.refl _ | assumption | apply BW.alloc | apply BW.drewN | apply BW.drew | (refine BW.setCell ?_ (by first | omega | (simp; done) | (simp; omega)) _) | (refine BW.trans ?_ (by assumption))))⟩
set_option maxRecDepth 100000 in
set_option maxHeartbeats 4000000 in
theorem rf_18 (r : Mw) (m : Mdl) (k : Nat) (w : World) (h : ModAt w r m)  (x : Tbl) (hx : m.tabs[k]? = some x) : Calls Tryd.prog 50 #[r.v, .agg #[.int .u8 18, .int .i64 (k : Nat)]] w fun e w' => e = .returned (.tuple #[.int .i64 ((cls x : Nat) + 1), .int .i64 (1), .bool true]) ∧ BW w w' := by
  obtain ⟨_, _, _, l4, _, _, _, b4⟩ := h.lens
  have hlt : k < r.hl := by have := (List.getElem?_eq_some_iff.1 hx).1; omega
  have hr : inR (k : Int) (r.hl : Int) = true := by simp [inR]; omega
  clear l4
  obtain ⟨ia, il, ic, ta, tl, tc, pa, pl, pc, ha', hl, hc⟩ := r
  dsimp only at hlt b4 hr
  obtain ⟨b, off, x', rfl, hbl, hx', oa, ol, oc, hK, hT⟩ := RowAt.get h.tabs hlt
  obtain rfl : x = x' := Option.some.inj (hx.symm.trans hx')
  obtain ⟨d0, d1, d2⟩ := hK
  have hol := hT.2.2.2.1
  have hob := hT.2.2.1
  have hcl := cls_le hT
  have HE : Hid (∀ v : Int, v = ((cls x : Nat) : Int) + 1 → cls x = x.ops.length + (if x.ret then 1 else 0) + (if x.fin then 1 else 0)) := fun _ _ => rfl
  have w1 := i64w (1 + (ol : Int)) (by omega) (by omega)
  have w2 := i64w (1 + (ol : Int) + 1) (by omega) (by omega)
  have w3 := i64w (1 + (ol : Int) + 1 + 1) (by omega) (by omega)
  have e1 : decide (1 + (ol : Int) < 0) = false := by simp; omega
  have e2 : decide (1 + (ol : Int) + 1 < 0) = false := by simp; omega
  have e3 : decide (1 + (ol : Int) + 1 + 1 < 0) = false := by simp; omega
  have hL : Hid (x.ops.length = ol) := hol
  obtain ⟨ops, rt, fn⟩ := x
  clear hT hx hx' hcl hol HE
  dsimp only at d0 d1 d2
  cases rt <;> cases fn
  all_goals (have H : Hid (ModAt w _ m) := h; clear h; go_enter Tryd.func50, Tryd.ntmps50; go_wp2_with (first | (go_at_call 49; refine (place_any _ _ _).mono ?_; rw [hr]; rintro e w2 ⟨rfl, rfl⟩)); go_ret3; refine ⟨?_, (by repeat (first | exact BW.refl _ | assumption | apply BW.alloc | apply BW.drewN | apply BW.drew | (refine BW.setCell ?_ (by first | omega | (simp; done) | (simp; omega)) _) | (refine BW.trans ?_ (by assumption))))⟩)
  all_goals (simp [cls, hL.out]; omega)
set_option maxRecDepth 100000 in
set_option maxHeartbeats 4000000 in
theorem refEffect_any (r : Mw) (m : Mdl) (op a : Int) (w : World) (h : ModAt w r m) (ha : I64 a) : Calls Tryd.prog 50 #[r.v, .agg #[.int .u8 op, .int .i64 a]] w fun e w' => e = .returned (.tuple #[.int .i64 (ef m op a).1, .int .i64 (ef m op a).2.1, .bool (ef m op a).2.2]) ∧ BW w w' := by
  by_cases h1 : op = 1
  · subst h1
    cases hr : inR a (m.ints.length : Int) with
    | false =>
      have e : ef m 1 a = (0, 0, false) := by simp [ef, plc, hr]
      rw [e]; exact rf_1b r m a w h ha hr
    | true =>
      have e : ef m 1 a = (0, 1, true) := by simp [ef, plc, hr]
      rw [e]; exact rf_1 r m a w h ha hr
  by_cases h2 : op = 2
  · subst h2
    cases hr : inR a (m.texts.length : Int) with
    | false =>
      have e : ef m 2 a = (0, 0, false) := by simp [ef, plc, hr]
      rw [e]; exact rf_2b r m a w h ha hr
    | true =>
      have e : ef m 2 a = (0, 1, true) := by simp [ef, plc, hr]
      rw [e]; exact rf_2 r m a w h ha hr
  by_cases h3 : op = 3
  · subst h3
    have e : ef m 3 a = (0, 1, true) := by simp [ef, plc]
    rw [e]; exact rf_3 r m a w h ha
  by_cases h4 : op = 4
  · subst h4
    have e : ef m 4 a = (0, 1, true) := by simp [ef, plc]
    rw [e]; exact rf_4 r m a w h ha
  by_cases h5 : op = 5
  · subst h5
    have e : ef m 5 a = (0, 1, true) := by simp [ef, plc]
    rw [e]; exact rf_5 r m a w h ha
  by_cases h6 : op = 6
  · subst h6
    have e : ef m 6 a = (0, 1, true) := by simp [ef, plc]
    rw [e]; exact rf_6 r m a w h ha
  by_cases h7 : op = 7
  · subst h7
    have e : ef m 7 a = (1, 0, true) := by simp [ef, plc]
    rw [e]; exact rf_7 r m a w h ha
  by_cases h8 : op = 8
  · subst h8
    have e : ef m 8 a = (0, 1, true) := by simp [ef, plc]
    rw [e]; exact rf_8 r m a w h ha
  by_cases h9 : op = 9
  · subst h9
    cases hr : inR a (m.pros.length : Int) with
    | false =>
      have e : ef m 9 a = (0, 0, false) := by simp [ef, plc, hr]
      rw [e]; exact rf_9b r m a w h ha hr
    | true =>
      have hr2 := hr
      simp only [inR, Bool.and_eq_true, decide_eq_true_eq] at hr2
      obtain ⟨k, rfl⟩ : ∃ k : Nat, a = (k : Int) := ⟨a.toNat, by omega⟩
      obtain ⟨x, hx⟩ : ∃ x, m.pros[k]? = some x := ⟨_, List.getElem?_eq_getElem (by omega)⟩
      by_cases hu : x.u < 0
      · have e : ef m 9 (k : Int) = (0, 0, false) := by simp [ef, plc, hr, hx, hu]
        rw [e]; exact rf_9n r m k w h x hx hu
      · have e : ef m 9 (k : Int) = (x.u, 1, true) := by simp [ef, plc, hr, hx, hu]
        rw [e]; exact rf_9 r m k w h x hx hu
  by_cases h10 : op = 10
  · subst h10
    cases hr : inR a 201 with
    | false =>
      have e : ef m 10 a = (0, 0, false) := by simp [ef, plc, hr]
      rw [e]; exact rf_10b r m a w h ha hr
    | true =>
      have e : ef m 10 a = (a + 1, 1, true) := by simp [ef, plc, hr]
      rw [e]; exact rf_10 r m a w h ha hr
  by_cases h11 : op = 11
  · subst h11
    cases hr : inR a 201 with
    | false =>
      have e : ef m 11 a = (0, 0, false) := by simp [ef, plc, hr]
      rw [e]; exact rf_11b r m a w h ha hr
    | true =>
      have e : ef m 11 a = (a + 1, 0, true) := by simp [ef, plc, hr]
      rw [e]; exact rf_11 r m a w h ha hr
  by_cases h12 : op = 12
  · subst h12
    have e : ef m 12 a = (1, 0, true) := by simp [ef, plc]
    rw [e]; exact rf_12 r m a w h ha
  by_cases h13 : op = 13
  · subst h13
    have e : ef m 13 a = (0, 0, true) := by simp [ef, plc]
    rw [e]; exact rf_13 r m a w h ha
  by_cases h14 : op = 14
  · subst h14
    have e : ef m 14 a = (1, 0, true) := by simp [ef, plc]
    rw [e]; exact rf_14 r m a w h ha
  by_cases h15 : op = 15
  · subst h15
    have e : ef m 15 a = (1, 0, true) := by simp [ef, plc]
    rw [e]; exact rf_15 r m a w h ha
  by_cases h16 : op = 16
  · subst h16
    cases hr : inR a 32 with
    | false =>
      have e : ef m 16 a = (0, 0, false) := by simp [ef, plc, hr]
      rw [e]; exact rf_16b r m a w h ha hr
    | true =>
      have hr2 := hr
      simp only [inR, Bool.and_eq_true, decide_eq_true_eq] at hr2
      obtain ⟨k, rfl⟩ : ∃ k : Nat, a = (k : Int) := ⟨a.toNat, by omega⟩
      have e : ef m 16 (k : Int) = (wn k, 1, true) := by simp [ef, plc, hr]
      rw [e]; exact rf_16 r m k w h (by omega)
  by_cases h17 : op = 17
  · subst h17
    cases hr : inR a (m.texts.length : Int) with
    | false =>
      have e : ef m 17 a = (0, 0, false) := by simp [ef, plc, hr]
      rw [e]; exact rf_17b r m a w h ha hr
    | true =>
      have e : ef m 17 a = (1, 1, true) := by simp [ef, plc, hr]
      rw [e]; exact rf_17 r m a w h ha hr
  by_cases h18 : op = 18
  · subst h18
    cases hr : inR a (m.tabs.length : Int) with
    | false =>
      have e : ef m 18 a = (0, 0, false) := by simp [ef, plc, hr]
      rw [e]; exact rf_18b r m a w h ha hr
    | true =>
      have hr2 := hr
      simp only [inR, Bool.and_eq_true, decide_eq_true_eq] at hr2
      obtain ⟨k, rfl⟩ : ∃ k : Nat, a = (k : Int) := ⟨a.toNat, by omega⟩
      obtain ⟨x, hx⟩ : ∃ x, m.tabs[k]? = some x := ⟨_, List.getElem?_eq_getElem (by omega)⟩
      have e : ef m 18 (k : Int) = (((cls x : Nat) : Int) + 1, 1, true) := by simp [ef, plc, hr, hx]
      rw [e]; exact rf_18 r m k w h x hx
  by_cases h19 : op = 19
  · subst h19
    have e : ef m 19 a = (2, 1, true) := by simp [ef, plc]
    rw [e]; exact rf_19 r m a w h ha
  by_cases h20 : op = 20
  · subst h20
    have e : ef m 20 a = (2, 1, true) := by simp [ef, plc]
    rw [e]; exact rf_20 r m a w h ha
  by_cases h21 : op = 21
  · subst h21
    have e : ef m 21 a = (3, 1, true) := by simp [ef, plc]
    rw [e]; exact rf_21 r m a w h ha
  by_cases h22 : op = 22
  · subst h22
    have e : ef m 22 a = (2, 0, true) := by simp [ef, plc]
    rw [e]; exact rf_22 r m a w h ha
  have e : ef m op a = (0, 0, false) := by simp [ef, plc, h1, h2, h3, h4, h5, h6, h7, h8, h9, h10, h11, h12, h13, h14, h15, h16, h17, h18, h19, h20, h21, h22]
  rw [e]; exact rf_no r m op a w h ha h1 h2 h3 h4 h5 h6 h7 h8 h9 h10 h11 h12 h13 h14 h15 h16 h17 h18 h19 h20 h21 h22

end Go.Proofs.YtndhhmgbekcfoaaDoor
