import Derived.Test.YtijoadkjkbkjgaaDoorR5
namespace Go.Proofs.YtijoadkjkbkjgaaDoor
open Go.RowKit
set_option linter.unusedVariables false
set_option linter.unusedSimpArgs false

set_option maxRecDepth 100000 in
set_option maxHeartbeats 1000000 in
theorem right_6 (w : World) (tn : Int) (ts : ByteArray) (na : Option Addr) (nl nc : Nat) (ka : Option Addr) (kl kc d : Nat) (hd : d ≤ 60) (hs : ts.size ≤ 9223372036854775807) (hml : kl ≤ 9223372036854775807) (hmn : nl ≤ 9223372036854775807) (qn qv : Bool) (CN : Hid (∀ w', BW w w' → Calls Tryd.prog 24 #[.slice na nl nc] w' fun e w'' => e = .returned (.bool qn) ∧ BW w' w'')) (CV : Hid (1 ≤ kl → ∀ w', BW w w' → Calls Tryd.prog 25 #[ndv 6 0 ts na nl nc ka kl kc, .int .i64 0, .int .i64 1, .int .i64 d] w' fun e w'' => e = .returned (.bool qv) ∧ BW w' w'')) : Calls Tryd.prog 16 #[ndv 6 0 ts na nl nc ka kl kc, .int .i64 d] w fun e w' => e = .returned (.bool (nmB ts && qn && decide (kl = 1) && qv)) ∧ BW w w' := by
  generalize hR : (nmB ts && qn && decide (kl = 1) && qv) = R
  have HR : Hid ((nmB ts && qn && decide (kl = 1) && qv) = R) := hR
  clear hR
  have e60 : decide ((60 : Int) < d) = false := decide_eq_false (by omega)
  have C3 : Hid (∀ w', Calls Tryd.prog 23 #[.string ts] w' fun e w'' => e = .returned (.bool (nmB ts)) ∧ w'' = w') := fun w' => refName_any ts hs w'
  cases hnm : nmB ts with
  | false =>
    rw [hnm] at C3 HR
    clear hnm
    have HE : Hid (R = false) := by show R = _; rw [← HR.out]; rfl
    skip
    go_enter Tryd.func16, Tryd.ntmps16
    go_wp2_with (go_at_call 23; refine (C3.out _).mono ?_; rintro e w4 ⟨rfl, rfl⟩)
    go_ret
    exact ⟨by rw [HE.out]; rfl, (by repeat (first | exact BW.refl _ | assumption | apply BW.alloc | apply BW.drewN | apply BW.drew | (refine BW.setCell ?_ (by first | omega | (simp; done) | (simp; omega)) _) | (refine BW.trans ?_ (by assumption))))⟩
  | true =>
    rw [hnm] at C3 HR
    clear hnm
    cases qn with
    | false =>
      have HE : Hid (R = false) := by show R = _; rw [← HR.out]; rfl
      skip
      go_enter Tryd.func16, Tryd.ntmps16
      go_wp2_with (first | (go_at_call 23; refine (C3.out _).mono ?_; rintro e w4 ⟨rfl, rfl⟩) | (go_at_call 24; refine (CN.out _ (by repeat (first | exact BW.refl _ | assumption | apply BW.alloc | apply BW.drewN | apply BW.drew | (refine BW.setCell ?_ (by first | omega | (simp; done) | (simp; omega)) _) | (refine BW.trans ?_ (by assumption))))).mono ?_; rintro e w5 ⟨rfl, b5⟩; obtain ⟨⟨g0, g1, g2, g3, g4⟩, hz1, hb⟩ := bx_at b5))
      go_ret
      exact ⟨by rw [HE.out]; rfl, (by repeat (first | exact BW.refl _ | assumption | apply BW.alloc | apply BW.drewN | apply BW.drew | (refine BW.setCell ?_ (by first | omega | (simp; done) | (simp; omega)) _) | (refine BW.trans ?_ (by assumption))))⟩
    | true =>
      by_cases h1 : kl = 1
      · subst h1
        have CV1 : Hid _ := CV.out (Nat.le_refl _)
        have HE : Hid (R = qv) := by show R = _; rw [← HR.out]; simp
        clear CV
        go_enter Tryd.func16, Tryd.ntmps16
        go_wp2_with (first | (go_at_call 23; refine (C3.out _).mono ?_; rintro e w4 ⟨rfl, rfl⟩) | (go_at_call 24; refine (CN.out _ (by repeat (first | exact BW.refl _ | assumption | apply BW.alloc | apply BW.drewN | apply BW.drew | (refine BW.setCell ?_ (by first | omega | (simp; done) | (simp; omega)) _) | (refine BW.trans ?_ (by assumption))))).mono ?_; rintro e w5 ⟨rfl, b5⟩; obtain ⟨⟨g0, g1, g2, g3, g4⟩, hz1, hb⟩ := bx_at b5) | (go_at_call 25; refine (CV1.out _ hb).mono ?_; rintro e w6 ⟨rfl, b6⟩))
        go_ret
        exact ⟨by rw [HE.out]; rfl, (by repeat (first | exact BW.refl _ | assumption | apply BW.alloc | apply BW.drewN | apply BW.drew | (refine BW.setCell ?_ (by first | omega | (simp; done) | (simp; omega)) _) | (refine BW.trans ?_ (by assumption))))⟩
      · have e1 : ((kl : Int) == 1) = false := by simp; omega
        have HE : Hid (R = false) := by show R = _; rw [← HR.out]; simp [h1]
        clear h1
        go_enter Tryd.func16, Tryd.ntmps16
        go_wp2_with (first | (go_at_call 23; refine (C3.out _).mono ?_; rintro e w4 ⟨rfl, rfl⟩) | (go_at_call 24; refine (CN.out _ (by repeat (first | exact BW.refl _ | assumption | apply BW.alloc | apply BW.drewN | apply BW.drew | (refine BW.setCell ?_ (by first | omega | (simp; done) | (simp; omega)) _) | (refine BW.trans ?_ (by assumption))))).mono ?_; rintro e w5 ⟨rfl, b5⟩; obtain ⟨⟨g0, g1, g2, g3, g4⟩, hz1, hb⟩ := bx_at b5))
        go_ret
        exact ⟨by rw [HE.out]; rfl, (by repeat (first | exact BW.refl _ | assumption | apply BW.alloc | apply BW.drewN | apply BW.drew | (refine BW.setCell ?_ (by first | omega | (simp; done) | (simp; omega)) _) | (refine BW.trans ?_ (by assumption))))⟩
set_option maxRecDepth 100000 in
set_option maxHeartbeats 1000000 in
theorem right_7 (w : World) (tn : Int) (ts : ByteArray) (na : Option Addr) (nl nc : Nat) (ka : Option Addr) (kl kc d : Nat) (hd : d ≤ 60) (hs : ts.size ≤ 9223372036854775807) (hml : kl ≤ 9223372036854775807) (hmn : nl ≤ 9223372036854775807) (q : Bool) (CP : Hid (∀ w', BW w w' → Calls Tryd.prog 22 #[ndv 7 0 ts na nl nc ka kl kc, .int .i64 kl, .int .i64 d] w' fun e w'' => e = .returned (.bool q) ∧ BW w' w'')) : Calls Tryd.prog 16 #[ndv 7 0 ts na nl nc ka kl kc, .int .i64 d] w fun e w' => e = .returned (.bool (decide (ts = ⟨#[]⟩) && decide (0 < kl) && q)) ∧ BW w w' := by
  generalize hR : (decide (ts = ⟨#[]⟩) && decide (0 < kl) && q) = R
  have HR : Hid ((decide (ts = ⟨#[]⟩) && decide (0 < kl) && q) = R) := hR
  clear hR
  have e60 : decide ((60 : Int) < d) = false := decide_eq_false (by omega)
  by_cases ht : ts = ⟨#[]⟩
  · subst ht
    by_cases h1 : 0 < kl
    · have e1 : decide ((0 : Int) < kl) = true := decide_eq_true (by omega)
      have HE : Hid (R = q) := by show R = _; rw [← HR.out]; simp [h1]
      skip
      go_enter Tryd.func16, Tryd.ntmps16
      go_wp2_with (go_at_call 22; refine (CP.out _ (by repeat (first | exact BW.refl _ | assumption | apply BW.alloc | apply BW.drewN | apply BW.drew | (refine BW.setCell ?_ (by first | omega | (simp; done) | (simp; omega)) _) | (refine BW.trans ?_ (by assumption))))).mono ?_; rintro e w2 ⟨rfl, b2⟩)
      go_ret
      exact ⟨by rw [HE.out]; rfl, (by repeat (first | exact BW.refl _ | assumption | apply BW.alloc | apply BW.drewN | apply BW.drew | (refine BW.setCell ?_ (by first | omega | (simp; done) | (simp; omega)) _) | (refine BW.trans ?_ (by assumption))))⟩
    · obtain rfl : kl = 0 := by omega
      have HE : Hid (R = false) := by show R = _; rw [← HR.out]; simp
      clear h1
      go_enter Tryd.func16, Tryd.ntmps16
      go_wp2_with (fail)
      go_ret
      exact ⟨by rw [HE.out]; rfl, (by repeat (first | exact BW.refl _ | assumption | apply BW.alloc | apply BW.drewN | apply BW.drew | (refine BW.setCell ?_ (by first | omega | (simp; done) | (simp; omega)) _) | (refine BW.trans ?_ (by assumption))))⟩
  · obtain ⟨et, et2⟩ := bytes_ne ht
    have HE : Hid (R = false) := by show R = _; rw [← HR.out]; simp [ht]
    clear ht
    go_enter Tryd.func16, Tryd.ntmps16
    go_wp2_with (fail)
    go_ret
    exact ⟨by rw [HE.out]; rfl, (by repeat (first | exact BW.refl _ | assumption | apply BW.alloc | apply BW.drewN | apply BW.drew | (refine BW.setCell ?_ (by first | omega | (simp; done) | (simp; omega)) _) | (refine BW.trans ?_ (by assumption))))⟩
set_option maxRecDepth 100000 in
set_option maxHeartbeats 1000000 in
theorem right_10 (w : World) (tn : Int) (ts : ByteArray) (na : Option Addr) (nl nc : Nat) (ka : Option Addr) (kl kc d : Nat) (hd : d ≤ 60) (hs : ts.size ≤ 9223372036854775807) (hml : kl ≤ 9223372036854775807) (hmn : nl ≤ 9223372036854775807) (q : Bool) (CP : Hid (∀ w', BW w w' → Calls Tryd.prog 22 #[ndv 10 0 ts na nl nc ka kl kc, .int .i64 kl, .int .i64 d] w' fun e w'' => e = .returned (.bool q) ∧ BW w' w'')) : Calls Tryd.prog 16 #[ndv 10 0 ts na nl nc ka kl kc, .int .i64 d] w fun e w' => e = .returned (.bool (decide (ts = ⟨#[]⟩) && decide (0 < kl) && q)) ∧ BW w w' := by
  generalize hR : (decide (ts = ⟨#[]⟩) && decide (0 < kl) && q) = R
  have HR : Hid ((decide (ts = ⟨#[]⟩) && decide (0 < kl) && q) = R) := hR
  clear hR
  have e60 : decide ((60 : Int) < d) = false := decide_eq_false (by omega)
  by_cases ht : ts = ⟨#[]⟩
  · subst ht
    by_cases h1 : 0 < kl
    · have e1 : decide ((0 : Int) < kl) = true := decide_eq_true (by omega)
      have HE : Hid (R = q) := by show R = _; rw [← HR.out]; simp [h1]
      skip
      go_enter Tryd.func16, Tryd.ntmps16
      go_wp2_with (go_at_call 22; refine (CP.out _ (by repeat (first | exact BW.refl _ | assumption | apply BW.alloc | apply BW.drewN | apply BW.drew | (refine BW.setCell ?_ (by first | omega | (simp; done) | (simp; omega)) _) | (refine BW.trans ?_ (by assumption))))).mono ?_; rintro e w2 ⟨rfl, b2⟩)
      go_ret
      exact ⟨by rw [HE.out]; rfl, (by repeat (first | exact BW.refl _ | assumption | apply BW.alloc | apply BW.drewN | apply BW.drew | (refine BW.setCell ?_ (by first | omega | (simp; done) | (simp; omega)) _) | (refine BW.trans ?_ (by assumption))))⟩
    · obtain rfl : kl = 0 := by omega
      have HE : Hid (R = false) := by show R = _; rw [← HR.out]; simp
      clear h1
      go_enter Tryd.func16, Tryd.ntmps16
      go_wp2_with (fail)
      go_ret
      exact ⟨by rw [HE.out]; rfl, (by repeat (first | exact BW.refl _ | assumption | apply BW.alloc | apply BW.drewN | apply BW.drew | (refine BW.setCell ?_ (by first | omega | (simp; done) | (simp; omega)) _) | (refine BW.trans ?_ (by assumption))))⟩
  · obtain ⟨et, et2⟩ := bytes_ne ht
    have HE : Hid (R = false) := by show R = _; rw [← HR.out]; simp [ht]
    clear ht
    go_enter Tryd.func16, Tryd.ntmps16
    go_wp2_with (fail)
    go_ret
    exact ⟨by rw [HE.out]; rfl, (by repeat (first | exact BW.refl _ | assumption | apply BW.alloc | apply BW.drewN | apply BW.drew | (refine BW.setCell ?_ (by first | omega | (simp; done) | (simp; omega)) _) | (refine BW.trans ?_ (by assumption))))⟩
set_option maxRecDepth 100000 in
set_option maxHeartbeats 1000000 in
theorem right_13 (w : World) (tn : Int) (ts : ByteArray) (na : Option Addr) (nl nc : Nat) (ka : Option Addr) (kl kc d : Nat) (hd : d ≤ 60) (hs : ts.size ≤ 9223372036854775807) (hml : kl ≤ 9223372036854775807) (hmn : nl ≤ 9223372036854775807) (qv qc : Bool) (CV : Hid (1 ≤ kl → ∀ w', BW w w' → Calls Tryd.prog 25 #[ndv 13 0 ts na nl nc ka kl kc, .int .i64 0, .int .i64 1, .int .i64 d] w' fun e w'' => e = .returned (.bool qv) ∧ BW w' w'')) (CC : Hid (1 ≤ kl → ∀ w', BW w w' → Calls Tryd.prog 27 #[ndv 13 0 ts na nl nc ka kl kc, .int .i64 d] w' fun e w'' => e = .returned (.bool qc) ∧ BW w' w'')) : Calls Tryd.prog 16 #[ndv 13 0 ts na nl nc ka kl kc, .int .i64 d] w fun e w' => e = .returned (.bool (decide (ts = ⟨#[]⟩) && decide (0 < kl) && decide (nl = 0) && qv && qc)) ∧ BW w w' := by
  generalize hR : (decide (ts = ⟨#[]⟩) && decide (0 < kl) && decide (nl = 0) && qv && qc) = R
  have HR : Hid ((decide (ts = ⟨#[]⟩) && decide (0 < kl) && decide (nl = 0) && qv && qc) = R) := hR
  clear hR
  have e60 : decide ((60 : Int) < d) = false := decide_eq_false (by omega)
  by_cases ht : ts = ⟨#[]⟩
  · subst ht
    by_cases h1 : 0 < kl
    · have e1 : decide ((0 : Int) < kl) = true := decide_eq_true (by omega)
      have CV1 : Hid _ := CV.out h1
      have CC1 : Hid _ := CC.out h1
      clear CV CC
      by_cases h2 : nl = 0
      · subst h2
        cases qv with
        | false =>
          have HE : Hid (R = false) := by show R = _; rw [← HR.out]; simp
          skip
          go_enter Tryd.func16, Tryd.ntmps16
          go_wp2_with ((go_at_call 25; refine (CV1.out _ (by repeat (first | exact BW.refl _ | assumption | apply BW.alloc | apply BW.drewN | apply BW.drew | (refine BW.setCell ?_ (by first | omega | (simp; done) | (simp; omega)) _) | (refine BW.trans ?_ (by assumption))))).mono ?_; rintro e w5 ⟨rfl, b5⟩; obtain ⟨⟨g0, g1, g2, g3, g4⟩, hz1, hb⟩ := bx_at b5))
          go_ret
          exact ⟨by rw [HE.out]; rfl, (by repeat (first | exact BW.refl _ | assumption | apply BW.alloc | apply BW.drewN | apply BW.drew | (refine BW.setCell ?_ (by first | omega | (simp; done) | (simp; omega)) _) | (refine BW.trans ?_ (by assumption))))⟩
        | true =>
          have HE : Hid (R = qc) := by show R = _; rw [← HR.out]; simp [h1]
          skip
          go_enter Tryd.func16, Tryd.ntmps16
          go_wp2_with (first | (go_at_call 25; refine (CV1.out _ (by repeat (first | exact BW.refl _ | assumption | apply BW.alloc | apply BW.drewN | apply BW.drew | (refine BW.setCell ?_ (by first | omega | (simp; done) | (simp; omega)) _) | (refine BW.trans ?_ (by assumption))))).mono ?_; rintro e w5 ⟨rfl, b5⟩; obtain ⟨⟨g0, g1, g2, g3, g4⟩, hz1, hb⟩ := bx_at b5) | (go_at_call 27; refine (CC1.out _ hb).mono ?_; rintro e w6 ⟨rfl, b6⟩))
          go_ret
          exact ⟨by rw [HE.out]; rfl, (by repeat (first | exact BW.refl _ | assumption | apply BW.alloc | apply BW.drewN | apply BW.drew | (refine BW.setCell ?_ (by first | omega | (simp; done) | (simp; omega)) _) | (refine BW.trans ?_ (by assumption))))⟩
      · have e2 : ((nl : Int) == 0) = false := by simp; omega
        have HE : Hid (R = false) := by show R = _; rw [← HR.out]; simp [h2]
        clear h2
        go_enter Tryd.func16, Tryd.ntmps16
        go_wp2_with (fail)
        go_ret
        exact ⟨by rw [HE.out]; rfl, (by repeat (first | exact BW.refl _ | assumption | apply BW.alloc | apply BW.drewN | apply BW.drew | (refine BW.setCell ?_ (by first | omega | (simp; done) | (simp; omega)) _) | (refine BW.trans ?_ (by assumption))))⟩
    · obtain rfl : kl = 0 := by omega
      have HE : Hid (R = false) := by show R = _; rw [← HR.out]; simp
      clear h1
      go_enter Tryd.func16, Tryd.ntmps16
      go_wp2_with (fail)
      go_ret
      exact ⟨by rw [HE.out]; rfl, (by repeat (first | exact BW.refl _ | assumption | apply BW.alloc | apply BW.drewN | apply BW.drew | (refine BW.setCell ?_ (by first | omega | (simp; done) | (simp; omega)) _) | (refine BW.trans ?_ (by assumption))))⟩
  · obtain ⟨et, et2⟩ := bytes_ne ht
    have HE : Hid (R = false) := by show R = _; rw [← HR.out]; simp [ht]
    clear ht
    go_enter Tryd.func16, Tryd.ntmps16
    go_wp2_with (fail)
    go_ret
    exact ⟨by rw [HE.out]; rfl, (by repeat (first | exact BW.refl _ | assumption | apply BW.alloc | apply BW.drewN | apply BW.drew | (refine BW.setCell ?_ (by first | omega | (simp; done) | (simp; omega)) _) | (refine BW.trans ?_ (by assumption))))⟩

end Go.Proofs.YtijoadkjkbkjgaaDoor
