import Derived.Test.YtijoadkjkbkjgaaDoorR5
namespace Go.Proofs.YtijoadkjkbkjgaaDoor
open Go.RowKit
set_option linter.unusedVariables false
set_option linter.unusedSimpArgs false

set_option maxRecDepth 100000 in
set_option maxHeartbeats 1000000 in
theorem right_1 (w : World) (tn : Int) (ts : ByteArray) (na : Option Addr) (nl nc : Nat) (ka : Option Addr) (kl kc d : Nat) (hd : d ≤ 60) (hs : ts.size ≤ 9223372036854775807) (hml : kl ≤ 9223372036854775807) (hmn : nl ≤ 9223372036854775807) (q : Bool) (CP : Hid (∀ w', BW w w' → Calls Tryd.prog 22 #[ndv 1 tn ts na nl nc ka kl kc, .int .i64 0, .int .i64 d] w' fun e w'' => e = .returned (.bool q) ∧ BW w' w'')) : Calls Tryd.prog 16 #[ndv 1 tn ts na nl nc ka kl kc, .int .i64 d] w fun e w' => e = .returned (.bool (decide (ts = ⟨#[]⟩) && q)) ∧ BW w w' := by
  generalize hR : (decide (ts = ⟨#[]⟩) && q) = R
  have HR : Hid ((decide (ts = ⟨#[]⟩) && q) = R) := hR
  clear hR
  have e60 : decide ((60 : Int) < d) = false := decide_eq_false (by omega)
  by_cases h0 : tn = 0
  · subst h0
    by_cases ht : ts = ⟨#[]⟩
    · subst ht
      have HE : Hid (R = q) := by show R = _; rw [← HR.out]; simp
      skip
      go_enter Tryd.func16, Tryd.ntmps16
      go_wp2_with (go_at_call 22; refine (CP.out _ (by repeat (first | exact BW.refl _ | assumption | apply BW.alloc | apply BW.drewN | apply BW.drew | (refine BW.setCell ?_ (by first | omega | (simp; done) | (simp; omega)) _) | (refine BW.trans ?_ (by assumption))))).mono ?_; rintro e w2 ⟨rfl, b2⟩)
      go_ret
      exact ⟨by rw [HE.out]; rfl, (by repeat (first | exact BW.refl _ | assumption | apply BW.alloc | apply BW.drewN | apply BW.drew | (refine BW.setCell ?_ (by first | omega | (simp; done) | (simp; omega)) _) | (refine BW.trans ?_ (by assumption))))⟩
    · obtain ⟨et, et2⟩ := bytes_ne ht
      have HE : Hid (R = false) := by show R = _; rw [← HR.out]; simp [ht]
      clear ht
      go_enter Tryd.func16, Tryd.ntmps16
      go_wp2_with (fail)
      go_ret
      exact ⟨by rw [HE.out]; rfl, (by repeat (first | exact BW.refl _ | assumption | apply BW.alloc | apply BW.drewN | apply BW.drew | (refine BW.setCell ?_ (by first | omega | (simp; done) | (simp; omega)) _) | (refine BW.trans ?_ (by assumption))))⟩
  · have e0 : (tn == 0) = false := by simpa using h0
    have e0' : (tn != 0) = true := by simpa using h0
    by_cases ht : ts = ⟨#[]⟩
    · subst ht
      have HE : Hid (R = q) := by show R = _; rw [← HR.out]; simp
      clear h0
      go_enter Tryd.func16, Tryd.ntmps16
      go_wp2_with (go_at_call 22; refine (CP.out _ (by repeat (first | exact BW.refl _ | assumption | apply BW.alloc | apply BW.drewN | apply BW.drew | (refine BW.setCell ?_ (by first | omega | (simp; done) | (simp; omega)) _) | (refine BW.trans ?_ (by assumption))))).mono ?_; rintro e w2 ⟨rfl, b2⟩)
      go_ret
      exact ⟨by rw [HE.out]; rfl, (by repeat (first | exact BW.refl _ | assumption | apply BW.alloc | apply BW.drewN | apply BW.drew | (refine BW.setCell ?_ (by first | omega | (simp; done) | (simp; omega)) _) | (refine BW.trans ?_ (by assumption))))⟩
    · obtain ⟨et, et2⟩ := bytes_ne ht
      have HE : Hid (R = false) := by show R = _; rw [← HR.out]; simp [ht]
      clear ht h0
      go_enter Tryd.func16, Tryd.ntmps16
      go_wp2_with (fail)
      go_ret
      exact ⟨by rw [HE.out]; rfl, (by repeat (first | exact BW.refl _ | assumption | apply BW.alloc | apply BW.drewN | apply BW.drew | (refine BW.setCell ?_ (by first | omega | (simp; done) | (simp; omega)) _) | (refine BW.trans ?_ (by assumption))))⟩
set_option maxRecDepth 100000 in
set_option maxHeartbeats 1000000 in
theorem right_2 (w : World) (tn : Int) (ts : ByteArray) (na : Option Addr) (nl nc : Nat) (ka : Option Addr) (kl kc d : Nat) (hd : d ≤ 60) (hs : ts.size ≤ 9223372036854775807) (hml : kl ≤ 9223372036854775807) (hmn : nl ≤ 9223372036854775807) (q : Bool) (CP : Hid (∀ w', BW w w' → Calls Tryd.prog 22 #[ndv 2 tn ts na nl nc ka kl kc, .int .i64 0, .int .i64 d] w' fun e w'' => e = .returned (.bool q) ∧ BW w' w'')) : Calls Tryd.prog 16 #[ndv 2 tn ts na nl nc ka kl kc, .int .i64 d] w fun e w' => e = .returned (.bool (decide (ts = ⟨#[]⟩) && decide (tn = 0 ∨ tn = 1) && q)) ∧ BW w w' := by
  generalize hR : (decide (ts = ⟨#[]⟩) && decide (tn = 0 ∨ tn = 1) && q) = R
  have HR : Hid ((decide (ts = ⟨#[]⟩) && decide (tn = 0 ∨ tn = 1) && q) = R) := hR
  clear hR
  have e60 : decide ((60 : Int) < d) = false := decide_eq_false (by omega)
  by_cases h0 : tn = 0
  · subst h0
    by_cases ht : ts = ⟨#[]⟩
    · subst ht
      have HE : Hid (R = q) := by show R = _; rw [← HR.out]; simp
      skip
      go_enter Tryd.func16, Tryd.ntmps16
      go_wp2_with (go_at_call 22; refine (CP.out _ (by repeat (first | exact BW.refl _ | assumption | apply BW.alloc | apply BW.drewN | apply BW.drew | (refine BW.setCell ?_ (by first | omega | (simp; done) | (simp; omega)) _) | (refine BW.trans ?_ (by assumption))))).mono ?_; rintro e w2 ⟨rfl, b2⟩)
      go_ret
      exact ⟨by rw [HE.out]; rfl, (by repeat (first | exact BW.refl _ | assumption | apply BW.alloc | apply BW.drewN | apply BW.drew | (refine BW.setCell ?_ (by first | omega | (simp; done) | (simp; omega)) _) | (refine BW.trans ?_ (by assumption))))⟩
    · obtain ⟨et, et2⟩ := bytes_ne ht
      have HE : Hid (R = false) := by show R = _; rw [← HR.out]; simp [ht]
      clear ht
      go_enter Tryd.func16, Tryd.ntmps16
      go_wp2_with (fail)
      go_ret
      exact ⟨by rw [HE.out]; rfl, (by repeat (first | exact BW.refl _ | assumption | apply BW.alloc | apply BW.drewN | apply BW.drew | (refine BW.setCell ?_ (by first | omega | (simp; done) | (simp; omega)) _) | (refine BW.trans ?_ (by assumption))))⟩
  · have e0 : (tn == 0) = false := by simpa using h0
    have e0' : (tn != 0) = true := by simpa using h0
    by_cases ht : ts = ⟨#[]⟩
    · subst ht
      by_cases h1 : tn = 1
      · subst h1
        have HE : Hid (R = q) := by show R = _; rw [← HR.out]; simp
        skip
        go_enter Tryd.func16, Tryd.ntmps16
        go_wp2_with (go_at_call 22; refine (CP.out _ (by repeat (first | exact BW.refl _ | assumption | apply BW.alloc | apply BW.drewN | apply BW.drew | (refine BW.setCell ?_ (by first | omega | (simp; done) | (simp; omega)) _) | (refine BW.trans ?_ (by assumption))))).mono ?_; rintro e w2 ⟨rfl, b2⟩)
        go_ret
        exact ⟨by rw [HE.out]; rfl, (by repeat (first | exact BW.refl _ | assumption | apply BW.alloc | apply BW.drewN | apply BW.drew | (refine BW.setCell ?_ (by first | omega | (simp; done) | (simp; omega)) _) | (refine BW.trans ?_ (by assumption))))⟩
      · have e1 : (tn == 1) = false := by simpa using h1
        have HE : Hid (R = false) := by show R = _; rw [← HR.out]; simp [h0, h1]
        clear h0 h1
        go_enter Tryd.func16, Tryd.ntmps16
        go_wp2_with (fail)
        go_ret
        exact ⟨by rw [HE.out]; rfl, (by repeat (first | exact BW.refl _ | assumption | apply BW.alloc | apply BW.drewN | apply BW.drew | (refine BW.setCell ?_ (by first | omega | (simp; done) | (simp; omega)) _) | (refine BW.trans ?_ (by assumption))))⟩
    · obtain ⟨et, et2⟩ := bytes_ne ht
      have HE : Hid (R = false) := by show R = _; rw [← HR.out]; simp [ht]
      clear ht h0
      go_enter Tryd.func16, Tryd.ntmps16
      go_wp2_with (fail)
      go_ret
      exact ⟨by rw [HE.out]; rfl, (by repeat (first | exact BW.refl _ | assumption | apply BW.alloc | apply BW.drewN | apply BW.drew | (refine BW.setCell ?_ (by first | omega | (simp; done) | (simp; omega)) _) | (refine BW.trans ?_ (by assumption))))⟩
set_option maxRecDepth 100000 in
set_option maxHeartbeats 1000000 in
theorem right_3 (w : World) (tn : Int) (ts : ByteArray) (na : Option Addr) (nl nc : Nat) (ka : Option Addr) (kl kc d : Nat) (hd : d ≤ 60) (hs : ts.size ≤ 9223372036854775807) (hml : kl ≤ 9223372036854775807) (hmn : nl ≤ 9223372036854775807) (q : Bool) (CP : Hid (∀ w', BW w w' → Calls Tryd.prog 22 #[ndv 3 0 ts na nl nc ka kl kc, .int .i64 0, .int .i64 d] w' fun e w'' => e = .returned (.bool q) ∧ BW w' w'')) : Calls Tryd.prog 16 #[ndv 3 0 ts na nl nc ka kl kc, .int .i64 d] w fun e w' => e = .returned (.bool (decide (ts.size ≤ 65536) && q)) ∧ BW w w' := by
  generalize hR : (decide (ts.size ≤ 65536) && q) = R
  have HR : Hid ((decide (ts.size ≤ 65536) && q) = R) := hR
  clear hR
  have e60 : decide ((60 : Int) < d) = false := decide_eq_false (by omega)
  by_cases h1 : ts.size ≤ 65536
  · have e1 : decide ((ts.size : Int) ≤ 65536) = true := decide_eq_true (by omega)
    have HE : Hid (R = q) := by show R = _; rw [← HR.out]; simp [h1]
    clear h1
    go_enter Tryd.func16, Tryd.ntmps16
    go_wp2_with (go_at_call 22; refine (CP.out _ (by repeat (first | exact BW.refl _ | assumption | apply BW.alloc | apply BW.drewN | apply BW.drew | (refine BW.setCell ?_ (by first | omega | (simp; done) | (simp; omega)) _) | (refine BW.trans ?_ (by assumption))))).mono ?_; rintro e w2 ⟨rfl, b2⟩)
    go_ret
    exact ⟨by rw [HE.out]; rfl, (by repeat (first | exact BW.refl _ | assumption | apply BW.alloc | apply BW.drewN | apply BW.drew | (refine BW.setCell ?_ (by first | omega | (simp; done) | (simp; omega)) _) | (refine BW.trans ?_ (by assumption))))⟩
  · have e1 : decide ((ts.size : Int) ≤ 65536) = false := decide_eq_false (by omega)
    have HE : Hid (R = false) := by show R = _; rw [← HR.out]; simp [h1]
    clear h1
    go_enter Tryd.func16, Tryd.ntmps16
    go_wp2_with (fail)
    go_ret
    exact ⟨by rw [HE.out]; rfl, (by repeat (first | exact BW.refl _ | assumption | apply BW.alloc | apply BW.drewN | apply BW.drew | (refine BW.setCell ?_ (by first | omega | (simp; done) | (simp; omega)) _) | (refine BW.trans ?_ (by assumption))))⟩
set_option maxRecDepth 100000 in
set_option maxHeartbeats 1000000 in
theorem right_4 (w : World) (tn : Int) (ts : ByteArray) (na : Option Addr) (nl nc : Nat) (ka : Option Addr) (kl kc d : Nat) (hd : d ≤ 60) (hs : ts.size ≤ 9223372036854775807) (hml : kl ≤ 9223372036854775807) (hmn : nl ≤ 9223372036854775807) (q : Bool) (CP : Hid (∀ w', BW w w' → Calls Tryd.prog 22 #[ndv 4 0 ts na nl nc ka kl kc, .int .i64 0, .int .i64 d] w' fun e w'' => e = .returned (.bool q) ∧ BW w' w'')) : Calls Tryd.prog 16 #[ndv 4 0 ts na nl nc ka kl kc, .int .i64 d] w fun e w' => e = .returned (.bool (decide (ts = ⟨#[]⟩) && q)) ∧ BW w w' := by
  generalize hR : (decide (ts = ⟨#[]⟩) && q) = R
  have HR : Hid ((decide (ts = ⟨#[]⟩) && q) = R) := hR
  clear hR
  have e60 : decide ((60 : Int) < d) = false := decide_eq_false (by omega)
  by_cases ht : ts = ⟨#[]⟩
  · subst ht
    have HE : Hid (R = q) := by show R = _; rw [← HR.out]; simp
    skip
    go_enter Tryd.func16, Tryd.ntmps16
    go_wp2_with (go_at_call 22; refine (CP.out _ (by repeat (first | exact BW.refl _ | assumption | apply BW.alloc | apply BW.drewN | apply BW.drew | (refine BW.setCell ?_ (by first | omega | (simp; done) | (simp; omega)) _) | (refine BW.trans ?_ (by assumption))))).mono ?_; rintro e w2 ⟨rfl, b2⟩)
    go_ret
    exact ⟨by rw [HE.out]; rfl, (by repeat (first | exact BW.refl _ | assumption | apply BW.alloc | apply BW.drewN | apply BW.drew | (refine BW.setCell ?_ (by first | omega | (simp; done) | (simp; omega)) _) | (refine BW.trans ?_ (by assumption))))⟩
  · obtain ⟨et, et2⟩ := bytes_ne ht
    have HE : Hid (R = false) := by show R = _; rw [← HR.out]; simp [ht]
    clear ht
    go_enter Tryd.func16, Tryd.ntmps16
    go_wp2_with (fail)
    go_ret
    exact ⟨by rw [HE.out]; rfl, (by repeat (first | exact BW.refl _ | assumption | apply BW.alloc | apply BW.drewN | apply BW.drew | (refine BW.setCell ?_ (by first | omega | (simp; done) | (simp; omega)) _) | (refine BW.trans ?_ (by assumption))))⟩
set_option maxRecDepth 100000 in
set_option maxHeartbeats 1000000 in
theorem right_5 (w : World) (tn : Int) (ts : ByteArray) (na : Option Addr) (nl nc : Nat) (ka : Option Addr) (kl kc d : Nat) (hd : d ≤ 60) (hs : ts.size ≤ 9223372036854775807) (hml : kl ≤ 9223372036854775807) (hmn : nl ≤ 9223372036854775807) (q : Bool) (CP : Hid (∀ w', BW w w' → Calls Tryd.prog 22 #[ndv 5 0 ts na nl nc ka kl kc, .int .i64 0, .int .i64 d] w' fun e w'' => e = .returned (.bool q) ∧ BW w' w'')) : Calls Tryd.prog 16 #[ndv 5 0 ts na nl nc ka kl kc, .int .i64 d] w fun e w' => e = .returned (.bool (nmB ts && q)) ∧ BW w w' := by
  generalize hR : (nmB ts && q) = R
  have HR : Hid ((nmB ts && q) = R) := hR
  clear hR
  have e60 : decide ((60 : Int) < d) = false := decide_eq_false (by omega)
  have C3 : Hid (∀ w', Calls Tryd.prog 23 #[.string ts] w' fun e w'' => e = .returned (.bool (nmB ts)) ∧ w'' = w') := fun w' => refName_any ts hs w'
  cases hnm : nmB ts with
  | false =>
    rw [hnm] at C3 HR
    clear hnm
    have HE : Hid (R = false) := by show R = _; rw [← HR.out]; rfl
    skip
    go_enter Tryd.func16, Tryd.ntmps16
    go_wp2_with (go_at_call 23; refine (C3.out _).mono ?_; rintro e w4 ⟨rfl, rfl⟩)
    go_ret
    exact ⟨by rw [HE.out]; rfl, (by repeat (first | exact BW.refl _ | assumption | apply BW.alloc | apply BW.drewN | apply BW.drew | (refine BW.setCell ?_ (by first | omega | (simp; done) | (simp; omega)) _) | (refine BW.trans ?_ (by assumption))))⟩
  | true =>
    rw [hnm] at C3 HR
    clear hnm
    have HE : Hid (R = q) := by show R = _; rw [← HR.out]; rfl
    skip
    go_enter Tryd.func16, Tryd.ntmps16
    go_wp2_with (first | (go_at_call 23; refine (C3.out _).mono ?_; rintro e w4 ⟨rfl, rfl⟩) | (go_at_call 22; refine (CP.out _ (by repeat (first | exact BW.refl _ | assumption | apply BW.alloc | apply BW.drewN | apply BW.drew | (refine BW.setCell ?_ (by first | omega | (simp; done) | (simp; omega)) _) | (refine BW.trans ?_ (by assumption))))).mono ?_; rintro e w2 ⟨rfl, b2⟩))
    go_ret
    exact ⟨by rw [HE.out]; rfl, (by repeat (first | exact BW.refl _ | assumption | apply BW.alloc | apply BW.drewN | apply BW.drew | (refine BW.setCell ?_ (by first | omega | (simp; done) | (simp; omega)) _) | (refine BW.trans ?_ (by assumption))))⟩
set_option maxRecDepth 100000 in
set_option maxHeartbeats 1000000 in
theorem right_8 (w : World) (tn : Int) (ts : ByteArray) (na : Option Addr) (nl nc : Nat) (ka : Option Addr) (kl kc d : Nat) (hd : d ≤ 60) (hs : ts.size ≤ 9223372036854775807) (hml : kl ≤ 9223372036854775807) (hmn : nl ≤ 9223372036854775807) (q : Bool) (CP : Hid (∀ w', BW w w' → Calls Tryd.prog 22 #[ndv 8 0 ts na nl nc ka kl kc, .int .i64 2, .int .i64 d] w' fun e w'' => e = .returned (.bool q) ∧ BW w' w'')) : Calls Tryd.prog 16 #[ndv 8 0 ts na nl nc ka kl kc, .int .i64 d] w fun e w' => e = .returned (.bool (nmB ts && q)) ∧ BW w w' := by
  generalize hR : (nmB ts && q) = R
  have HR : Hid ((nmB ts && q) = R) := hR
  clear hR
  have e60 : decide ((60 : Int) < d) = false := decide_eq_false (by omega)
  have C3 : Hid (∀ w', Calls Tryd.prog 23 #[.string ts] w' fun e w'' => e = .returned (.bool (nmB ts)) ∧ w'' = w') := fun w' => refName_any ts hs w'
  cases hnm : nmB ts with
  | false =>
    rw [hnm] at C3 HR
    clear hnm
    have HE : Hid (R = false) := by show R = _; rw [← HR.out]; rfl
    skip
    go_enter Tryd.func16, Tryd.ntmps16
    go_wp2_with (go_at_call 23; refine (C3.out _).mono ?_; rintro e w4 ⟨rfl, rfl⟩)
    go_ret
    exact ⟨by rw [HE.out]; rfl, (by repeat (first | exact BW.refl _ | assumption | apply BW.alloc | apply BW.drewN | apply BW.drew | (refine BW.setCell ?_ (by first | omega | (simp; done) | (simp; omega)) _) | (refine BW.trans ?_ (by assumption))))⟩
  | true =>
    rw [hnm] at C3 HR
    clear hnm
    have HE : Hid (R = q) := by show R = _; rw [← HR.out]; rfl
    skip
    go_enter Tryd.func16, Tryd.ntmps16
    go_wp2_with (first | (go_at_call 23; refine (C3.out _).mono ?_; rintro e w4 ⟨rfl, rfl⟩) | (go_at_call 22; refine (CP.out _ (by repeat (first | exact BW.refl _ | assumption | apply BW.alloc | apply BW.drewN | apply BW.drew | (refine BW.setCell ?_ (by first | omega | (simp; done) | (simp; omega)) _) | (refine BW.trans ?_ (by assumption))))).mono ?_; rintro e w2 ⟨rfl, b2⟩))
    go_ret
    exact ⟨by rw [HE.out]; rfl, (by repeat (first | exact BW.refl _ | assumption | apply BW.alloc | apply BW.drewN | apply BW.drew | (refine BW.setCell ?_ (by first | omega | (simp; done) | (simp; omega)) _) | (refine BW.trans ?_ (by assumption))))⟩
set_option maxRecDepth 100000 in
set_option maxHeartbeats 1000000 in
theorem right_12 (w : World) (tn : Int) (ts : ByteArray) (na : Option Addr) (nl nc : Nat) (ka : Option Addr) (kl kc d : Nat) (hd : d ≤ 60) (hs : ts.size ≤ 9223372036854775807) (hml : kl ≤ 9223372036854775807) (hmn : nl ≤ 9223372036854775807) (q : Bool) (CP : Hid (∀ w', BW w w' → Calls Tryd.prog 22 #[ndv 12 0 ts na nl nc ka kl kc, .int .i64 1, .int .i64 d] w' fun e w'' => e = .returned (.bool q) ∧ BW w' w'')) : Calls Tryd.prog 16 #[ndv 12 0 ts na nl nc ka kl kc, .int .i64 d] w fun e w' => e = .returned (.bool (nmB ts && q)) ∧ BW w w' := by
  generalize hR : (nmB ts && q) = R
  have HR : Hid ((nmB ts && q) = R) := hR
  clear hR
  have e60 : decide ((60 : Int) < d) = false := decide_eq_false (by omega)
  have C3 : Hid (∀ w', Calls Tryd.prog 23 #[.string ts] w' fun e w'' => e = .returned (.bool (nmB ts)) ∧ w'' = w') := fun w' => refName_any ts hs w'
  cases hnm : nmB ts with
  | false =>
    rw [hnm] at C3 HR
    clear hnm
    have HE : Hid (R = false) := by show R = _; rw [← HR.out]; rfl
    skip
    go_enter Tryd.func16, Tryd.ntmps16
    go_wp2_with (go_at_call 23; refine (C3.out _).mono ?_; rintro e w4 ⟨rfl, rfl⟩)
    go_ret
    exact ⟨by rw [HE.out]; rfl, (by repeat (first | exact BW.refl _ | assumption | apply BW.alloc | apply BW.drewN | apply BW.drew | (refine BW.setCell ?_ (by first | omega | (simp; done) | (simp; omega)) _) | (refine BW.trans ?_ (by assumption))))⟩
  | true =>
    rw [hnm] at C3 HR
    clear hnm
    have HE : Hid (R = q) := by show R = _; rw [← HR.out]; rfl
    skip
    go_enter Tryd.func16, Tryd.ntmps16
    go_wp2_with (first | (go_at_call 23; refine (C3.out _).mono ?_; rintro e w4 ⟨rfl, rfl⟩) | (go_at_call 22; refine (CP.out _ (by repeat (first | exact BW.refl _ | assumption | apply BW.alloc | apply BW.drewN | apply BW.drew | (refine BW.setCell ?_ (by first | omega | (simp; done) | (simp; omega)) _) | (refine BW.trans ?_ (by assumption))))).mono ?_; rintro e w2 ⟨rfl, b2⟩))
    go_ret
    exact ⟨by rw [HE.out]; rfl, (by repeat (first | exact BW.refl _ | assumption | apply BW.alloc | apply BW.drewN | apply BW.drew | (refine BW.setCell ?_ (by first | omega | (simp; done) | (simp; omega)) _) | (refine BW.trans ?_ (by assumption))))⟩
set_option maxRecDepth 100000 in
set_option maxHeartbeats 1000000 in
theorem right_9 (w : World) (tn : Int) (ts : ByteArray) (na : Option Addr) (nl nc : Nat) (ka : Option Addr) (kl kc d : Nat) (hd : d ≤ 60) (hs : ts.size ≤ 9223372036854775807) (hml : kl ≤ 9223372036854775807) (hmn : nl ≤ 9223372036854775807) (q : Bool) (CP : Hid (∀ w', BW w w' → Calls Tryd.prog 22 #[ndv 9 0 ts na nl nc ka kl kc, .int .i64 3, .int .i64 d] w' fun e w'' => e = .returned (.bool q) ∧ BW w' w'')) : Calls Tryd.prog 16 #[ndv 9 0 ts na nl nc ka kl kc, .int .i64 d] w fun e w' => e = .returned (.bool (decide (ts = ⟨#[]⟩) && q)) ∧ BW w w' := by
  generalize hR : (decide (ts = ⟨#[]⟩) && q) = R
  have HR : Hid ((decide (ts = ⟨#[]⟩) && q) = R) := hR
  clear hR
  have e60 : decide ((60 : Int) < d) = false := decide_eq_false (by omega)
  by_cases ht : ts = ⟨#[]⟩
  · subst ht
    have HE : Hid (R = q) := by show R = _; rw [← HR.out]; simp
    skip
    go_enter Tryd.func16, Tryd.ntmps16
    go_wp2_with (go_at_call 22; refine (CP.out _ (by repeat (first | exact BW.refl _ | assumption | apply BW.alloc | apply BW.drewN | apply BW.drew | (refine BW.setCell ?_ (by first | omega | (simp; done) | (simp; omega)) _) | (refine BW.trans ?_ (by assumption))))).mono ?_; rintro e w2 ⟨rfl, b2⟩)
    go_ret
    exact ⟨by rw [HE.out]; rfl, (by repeat (first | exact BW.refl _ | assumption | apply BW.alloc | apply BW.drewN | apply BW.drew | (refine BW.setCell ?_ (by first | omega | (simp; done) | (simp; omega)) _) | (refine BW.trans ?_ (by assumption))))⟩
  · obtain ⟨et, et2⟩ := bytes_ne ht
    have HE : Hid (R = false) := by show R = _; rw [← HR.out]; simp [ht]
    clear ht
    go_enter Tryd.func16, Tryd.ntmps16
    go_wp2_with (fail)
    go_ret
    exact ⟨by rw [HE.out]; rfl, (by repeat (first | exact BW.refl _ | assumption | apply BW.alloc | apply BW.drewN | apply BW.drew | (refine BW.setCell ?_ (by first | omega | (simp; done) | (simp; omega)) _) | (refine BW.trans ?_ (by assumption))))⟩
set_option maxRecDepth 100000 in
set_option maxHeartbeats 1000000 in
theorem right_14 (w : World) (tn : Int) (ts : ByteArray) (na : Option Addr) (nl nc : Nat) (ka : Option Addr) (kl kc d : Nat) (hd : d ≤ 60) (hs : ts.size ≤ 9223372036854775807) (hml : kl ≤ 9223372036854775807) (hmn : nl ≤ 9223372036854775807) (q : Bool) (CP : Hid (∀ w', BW w w' → Calls Tryd.prog 22 #[ndv 14 0 ts na nl nc ka kl kc, .int .i64 2, .int .i64 d] w' fun e w'' => e = .returned (.bool q) ∧ BW w' w'')) : Calls Tryd.prog 16 #[ndv 14 0 ts na nl nc ka kl kc, .int .i64 d] w fun e w' => e = .returned (.bool (decide (ts = ⟨#[]⟩) && q)) ∧ BW w w' := by
  generalize hR : (decide (ts = ⟨#[]⟩) && q) = R
  have HR : Hid ((decide (ts = ⟨#[]⟩) && q) = R) := hR
  clear hR
  have e60 : decide ((60 : Int) < d) = false := decide_eq_false (by omega)
  by_cases ht : ts = ⟨#[]⟩
  · subst ht
    have HE : Hid (R = q) := by show R = _; rw [← HR.out]; simp
    skip
    go_enter Tryd.func16, Tryd.ntmps16
    go_wp2_with (go_at_call 22; refine (CP.out _ (by repeat (first | exact BW.refl _ | assumption | apply BW.alloc | apply BW.drewN | apply BW.drew | (refine BW.setCell ?_ (by first | omega | (simp; done) | (simp; omega)) _) | (refine BW.trans ?_ (by assumption))))).mono ?_; rintro e w2 ⟨rfl, b2⟩)
    go_ret
    exact ⟨by rw [HE.out]; rfl, (by repeat (first | exact BW.refl _ | assumption | apply BW.alloc | apply BW.drewN | apply BW.drew | (refine BW.setCell ?_ (by first | omega | (simp; done) | (simp; omega)) _) | (refine BW.trans ?_ (by assumption))))⟩
  · obtain ⟨et, et2⟩ := bytes_ne ht
    have HE : Hid (R = false) := by show R = _; rw [← HR.out]; simp [ht]
    clear ht
    go_enter Tryd.func16, Tryd.ntmps16
    go_wp2_with (fail)
    go_ret
    exact ⟨by rw [HE.out]; rfl, (by repeat (first | exact BW.refl _ | assumption | apply BW.alloc | apply BW.drewN | apply BW.drew | (refine BW.setCell ?_ (by first | omega | (simp; done) | (simp; omega)) _) | (refine BW.trans ?_ (by assumption))))⟩
set_option maxRecDepth 100000 in
set_option maxHeartbeats 1000000 in
theorem right_15 (w : World) (tn : Int) (ts : ByteArray) (na : Option Addr) (nl nc : Nat) (ka : Option Addr) (kl kc d : Nat) (hd : d ≤ 60) (hs : ts.size ≤ 9223372036854775807) (hml : kl ≤ 9223372036854775807) (hmn : nl ≤ 9223372036854775807) (q : Bool) (CP : Hid (∀ w', BW w w' → Calls Tryd.prog 22 #[ndv 15 0 ts na nl nc ka kl kc, .int .i64 2, .int .i64 d] w' fun e w'' => e = .returned (.bool q) ∧ BW w' w'')) : Calls Tryd.prog 16 #[ndv 15 0 ts na nl nc ka kl kc, .int .i64 d] w fun e w' => e = .returned (.bool (decide (ts = ⟨#[]⟩) && q)) ∧ BW w w' := by
  generalize hR : (decide (ts = ⟨#[]⟩) && q) = R
  have HR : Hid ((decide (ts = ⟨#[]⟩) && q) = R) := hR
  clear hR
  have e60 : decide ((60 : Int) < d) = false := decide_eq_false (by omega)
  by_cases ht : ts = ⟨#[]⟩
  · subst ht
    have HE : Hid (R = q) := by show R = _; rw [← HR.out]; simp
    skip
    go_enter Tryd.func16, Tryd.ntmps16
    go_wp2_with (go_at_call 22; refine (CP.out _ (by repeat (first | exact BW.refl _ | assumption | apply BW.alloc | apply BW.drewN | apply BW.drew | (refine BW.setCell ?_ (by first | omega | (simp; done) | (simp; omega)) _) | (refine BW.trans ?_ (by assumption))))).mono ?_; rintro e w2 ⟨rfl, b2⟩)
    go_ret
    exact ⟨by rw [HE.out]; rfl, (by repeat (first | exact BW.refl _ | assumption | apply BW.alloc | apply BW.drewN | apply BW.drew | (refine BW.setCell ?_ (by first | omega | (simp; done) | (simp; omega)) _) | (refine BW.trans ?_ (by assumption))))⟩
  · obtain ⟨et, et2⟩ := bytes_ne ht
    have HE : Hid (R = false) := by show R = _; rw [← HR.out]; simp [ht]
    clear ht
    go_enter Tryd.func16, Tryd.ntmps16
    go_wp2_with (fail)
    go_ret
    exact ⟨by rw [HE.out]; rfl, (by repeat (first | exact BW.refl _ | assumption | apply BW.alloc | apply BW.drewN | apply BW.drew | (refine BW.setCell ?_ (by first | omega | (simp; done) | (simp; omega)) _) | (refine BW.trans ?_ (by assumption))))⟩
set_option maxRecDepth 100000 in
set_option maxHeartbeats 1000000 in
theorem right_16 (w : World) (tn : Int) (ts : ByteArray) (na : Option Addr) (nl nc : Nat) (ka : Option Addr) (kl kc d : Nat) (hd : d ≤ 60) (hs : ts.size ≤ 9223372036854775807) (hml : kl ≤ 9223372036854775807) (hmn : nl ≤ 9223372036854775807) (q : Bool) (CP : Hid (∀ w', BW w w' → Calls Tryd.prog 22 #[ndv 16 0 ts na nl nc ka kl kc, .int .i64 3, .int .i64 d] w' fun e w'' => e = .returned (.bool q) ∧ BW w' w'')) : Calls Tryd.prog 16 #[ndv 16 0 ts na nl nc ka kl kc, .int .i64 d] w fun e w' => e = .returned (.bool (decide (ts = ⟨#[]⟩) && q)) ∧ BW w w' := by
  generalize hR : (decide (ts = ⟨#[]⟩) && q) = R
  have HR : Hid ((decide (ts = ⟨#[]⟩) && q) = R) := hR
  clear hR
  have e60 : decide ((60 : Int) < d) = false := decide_eq_false (by omega)
  by_cases ht : ts = ⟨#[]⟩
  · subst ht
    have HE : Hid (R = q) := by show R = _; rw [← HR.out]; simp
    skip
    go_enter Tryd.func16, Tryd.ntmps16
    go_wp2_with (go_at_call 22; refine (CP.out _ (by repeat (first | exact BW.refl _ | assumption | apply BW.alloc | apply BW.drewN | apply BW.drew | (refine BW.setCell ?_ (by first | omega | (simp; done) | (simp; omega)) _) | (refine BW.trans ?_ (by assumption))))).mono ?_; rintro e w2 ⟨rfl, b2⟩)
    go_ret
    exact ⟨by rw [HE.out]; rfl, (by repeat (first | exact BW.refl _ | assumption | apply BW.alloc | apply BW.drewN | apply BW.drew | (refine BW.setCell ?_ (by first | omega | (simp; done) | (simp; omega)) _) | (refine BW.trans ?_ (by assumption))))⟩
  · obtain ⟨et, et2⟩ := bytes_ne ht
    have HE : Hid (R = false) := by show R = _; rw [← HR.out]; simp [ht]
    clear ht
    go_enter Tryd.func16, Tryd.ntmps16
    go_wp2_with (fail)
    go_ret
    exact ⟨by rw [HE.out]; rfl, (by repeat (first | exact BW.refl _ | assumption | apply BW.alloc | apply BW.drewN | apply BW.drew | (refine BW.setCell ?_ (by first | omega | (simp; done) | (simp; omega)) _) | (refine BW.trans ?_ (by assumption))))⟩

end Go.Proofs.YtijoadkjkbkjgaaDoor
