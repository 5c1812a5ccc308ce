import Derived.Test.YtijoadkjkbkjgaaDoorR5
namespace Go.Proofs.YtijoadkjkbkjgaaDoor
open Go.RowKit
set_option linter.unusedVariables false
set_option linter.unusedSimpArgs false

theorem tk_cases (s : ByteArray) : tk s.data.toList = -1 ∨ tk s.data.toList = 0 ∨ tk s.data.toList = 1 ∨ tk s.data.toList = 2 := by
  rw [tk_ref]
  split
  · simp
  · split
    · simp
    · split <;> simp
set_option maxRecDepth 100000 in
set_option maxHeartbeats 1000000 in
theorem right_11 (w : World) (tn : Int) (ts : ByteArray) (na : Option Addr) (nl nc : Nat) (ka : Option Addr) (kl kc d : Nat) (hd : d ≤ 60) (hs : ts.size ≤ 9223372036854775807) (hml : kl ≤ 9223372036854775807) (hmn : nl ≤ 9223372036854775807) (q : Bool) (CP : Hid (0 ≤ tk ts.data.toList → ∀ w', BW w w' → Calls Tryd.prog 22 #[ndv 11 0 ts na nl nc ka kl kc, .int .i64 (tk ts.data.toList), .int .i64 d] w' fun e w'' => e = .returned (.bool q) ∧ BW w' w'')) : Calls Tryd.prog 16 #[ndv 11 0 ts na nl nc ka kl kc, .int .i64 d] w fun e w' => e = .returned (.bool (decide (0 ≤ tk ts.data.toList) && q)) ∧ BW w w' := by
  generalize hR : (decide (0 ≤ tk ts.data.toList) && q) = R
  have HR : Hid ((decide (0 ≤ tk ts.data.toList) && q) = R) := hR
  clear hR
  have e60 : decide ((60 : Int) < d) = false := decide_eq_false (by omega)
  have CT : Hid (∀ w, Calls Tryd.prog 26 #[.string ts] w fun e w' => e = .returned (.int .i64 (tk ts.data.toList)) ∧ BW w w') := fun w => refTakes_any ts w
  have ha := tk_cases ts
  generalize tk ts.data.toList = a at *
  rcases ha with rfl | rfl | rfl | rfl
  · have HE : Hid (R = false) := by show R = _; rw [← HR.out]; simp
    go_enter Tryd.func16, Tryd.ntmps16
    go_wp2_with (fail)
    obtain ⟨W1, hW1⟩ : ∃ W1, W1 = w.alloc (.cells #[.int .u8 11, .int .i64 0, .string ts, .slice na nl nc, .slice ka kl kc] 25) := ⟨_, rfl⟩
    have hbW : BW w W1 := by rw [hW1]; exact BW.alloc (BW.refl w) _
    obtain ⟨⟨g0, g1, g2, g3, g4⟩, gz, _⟩ := bx_at (w' := W1) (by rw [hW1]; exact BW.refl _)
    rw [← hW1]
    clear hW1
    refine wp_region_held_drew (S := fun w' => BW W1 w' ∧ w'.cell? ⟨w.heap.size, 0, none⟩ = some (.int .u8 11) ∧ w'.cell? ⟨w.heap.size, 1, none⟩ = some (.int .i64 0) ∧ w'.cell? ⟨w.heap.size, 2, none⟩ = some (.string ts) ∧ w'.cell? ⟨w.heap.size, 3, none⟩ = some (.slice na nl nc) ∧ w'.cell? ⟨w.heap.size, 4, none⟩ = some (.slice ka kl kc)) (by kernel_rfl) (by (try dsimp only); (refine ⟨(by repeat (first | exact BW.refl _ | assumption | apply BW.alloc | apply BW.drewN | apply BW.drew | (refine BW.setCell ?_ (by first | omega | (simp; done) | (simp; omega)) _) | (refine BW.trans ?_ (by assumption)))), ?_⟩; go_keep)) (fun hHeld => ?_)
    refine wpAnyH_take (i := 0) (v := ?v0) rfl (by kernel_rfl) (by kernel_rfl) (by kernel_rfl) (fun _ _ _ h => h) (Or.inl ⟨by kernel_rfl, ?hy0⟩) (by assumption) ?rest0
    case hy0 => (intro w hSw; (try dsimp only at hSw); go_simp; first | done | with_reducible rfl)
    try simp only [Act.put, List.setIfInBounds_toArray, List.set_cons_zero, List.set_cons_succ]
    refine wpAnyH_take (i := 1) (v := ?v1) rfl (by kernel_rfl) (by kernel_rfl) (by kernel_rfl) (fun _ _ _ h => h) (Or.inl ⟨by kernel_rfl, ?hy1⟩) (by assumption) ?rest1
    case hy1 => (intro w hSw; (try dsimp only at hSw); go_simp; first | done | with_reducible rfl)
    try simp only [Act.put, List.setIfInBounds_toArray, List.set_cons_zero, List.set_cons_succ]
    refine wpAnyH_ready (rs := [2]) (by kernel_rfl) (by simp) ?_
    refine AllReadyH.cons rfl (fun K hK => ?_) AllReadyH.nil
    go_simp
    refine (CT.out _).mono ?_
    rintro e w3 ⟨rfl, b3⟩
    have z1 := fun o => b3.cells w.heap.size o (by simp; omega)
    dsimp only
    refine hK.out _ _ ?hS2 (fun hHeld2 => ?rest2)
    case hS2 => (refine ⟨(by repeat (first | exact BW.refl _ | assumption | apply BW.alloc | apply BW.drewN | apply BW.drew | (refine BW.setCell ?_ (by first | omega | (simp; done) | (simp; omega)) _) | (refine BW.trans ?_ (by assumption)))), ?_⟩; go_keep)
    clear hK K
    try simp only [Act.put, List.setIfInBounds_toArray, List.set_cons_zero, List.set_cons_succ]
    refine wpAnyH_take (i := 3) (v := ?v3) rfl (by kernel_rfl) (by kernel_rfl) (by kernel_rfl) (fun _ _ _ h => h) (Or.inl ⟨by kernel_rfl, ?hy3⟩) (by assumption) ?rest3
    case hy3 => (intro w hSw; (try dsimp only at hSw); go_simp; first | done | with_reducible rfl)
    try simp only [Act.put, List.setIfInBounds_toArray, List.set_cons_zero, List.set_cons_succ]
    refine wpAnyH_take (i := 4) (v := ?v4) rfl (by kernel_rfl) (by kernel_rfl) (by kernel_rfl) (fun _ _ _ h => h) (Or.inl ⟨by kernel_rfl, ?hy4⟩) (by assumption) ?rest4
    case hy4 => (intro w hSw; (try dsimp only at hSw); go_simp; first | done | with_reducible rfl)
    try simp only [Act.put, List.setIfInBounds_toArray, List.set_cons_zero, List.set_cons_succ]
    refine wpAnyH_take (i := 5) (v := undef) rfl (by kernel_rfl) (by kernel_rfl) (by kernel_rfl) (fun _ _ _ h => h) (Or.inr ⟨by kernel_rfl, rfl⟩) (by assumption) ?_
    try simp only [Act.put, List.setIfInBounds_toArray, List.set_cons_zero, List.set_cons_succ]
    refine wpAnyH_take (i := 6) (v := undef) rfl (by kernel_rfl) (by kernel_rfl) (by kernel_rfl) (fun _ _ _ h => h) (Or.inr ⟨by kernel_rfl, rfl⟩) (by assumption) ?_
    try simp only [Act.put, List.setIfInBounds_toArray, List.set_cons_zero, List.set_cons_succ]
    refine wpAnyH_take (i := 7) (v := undef) rfl (by kernel_rfl) (by kernel_rfl) (by kernel_rfl) (fun _ _ _ h => h) (Or.inr ⟨by kernel_rfl, rfl⟩) (by assumption) ?_
    try simp only [Act.put, List.setIfInBounds_toArray, List.set_cons_zero, List.set_cons_succ]
    refine wpAnyH_take (i := 8) (v := undef) rfl (by kernel_rfl) (by kernel_rfl) (by kernel_rfl) (fun _ _ _ h => h) (Or.inr ⟨by kernel_rfl, rfl⟩) (by assumption) ?_
    try simp only [Act.put, List.setIfInBounds_toArray, List.set_cons_zero, List.set_cons_succ]
    refine wpAnyH_take (i := 9) (v := undef) rfl (by kernel_rfl) (by kernel_rfl) (by kernel_rfl) (fun _ _ _ h => h) (Or.inr ⟨by kernel_rfl, rfl⟩) (by assumption) ?_
    try simp only [Act.put, List.setIfInBounds_toArray, List.set_cons_zero, List.set_cons_succ]
    refine wpAnyH_take (i := 10) (v := undef) rfl (by kernel_rfl) (by kernel_rfl) (by kernel_rfl) (fun _ _ _ h => h) (Or.inr ⟨by kernel_rfl, rfl⟩) (by assumption) ?_
    try simp only [Act.put, List.setIfInBounds_toArray, List.set_cons_zero, List.set_cons_succ]
    refine wpAnyH_take (i := 11) (v := ?v11) rfl (by kernel_rfl) (by kernel_rfl) (by kernel_rfl) (fun _ _ _ h => h) (Or.inl ⟨by kernel_rfl, ?hy11⟩) (by assumption) ?rest11
    case hy11 => (intro w hSw; (try dsimp only at hSw); go_simp; first | done | with_reducible rfl)
    try simp only [Act.put, List.setIfInBounds_toArray, List.set_cons_zero, List.set_cons_succ]
    refine wpAnyH_take (i := 12) (v := ?v12) rfl (by kernel_rfl) (by kernel_rfl) (by kernel_rfl) (fun _ _ _ h => h) (Or.inl ⟨by kernel_rfl, ?hy12⟩) (by assumption) ?rest12
    case hy12 => (intro w hSw; (try dsimp only at hSw); go_simp; first | done | with_reducible rfl)
    try simp only [Act.put, List.setIfInBounds_toArray, List.set_cons_zero, List.set_cons_succ]
    refine wpAnyH_done (by kernel_rfl) ?_ _
    have HB : Hid (BW w w3) := BW.trans hbW (BW.trans (BW.drew (BW.refl _)) b3)
    clear z1 b3 hHeld2 hHeld
    go_wp2_with (fail)
    go_ret
    exact ⟨by rw [HE.out]; rfl, HB.out⟩
  · have CP1 : Hid _ := CP.out (by decide)
    have HE : Hid (R = q) := by show R = _; rw [← HR.out]; simp
    clear CP
    go_enter Tryd.func16, Tryd.ntmps16
    go_wp2_with (fail)
    obtain ⟨W1, hW1⟩ : ∃ W1, W1 = w.alloc (.cells #[.int .u8 11, .int .i64 0, .string ts, .slice na nl nc, .slice ka kl kc] 25) := ⟨_, rfl⟩
    have hbW : BW w W1 := by rw [hW1]; exact BW.alloc (BW.refl w) _
    obtain ⟨⟨g0, g1, g2, g3, g4⟩, gz, _⟩ := bx_at (w' := W1) (by rw [hW1]; exact BW.refl _)
    rw [← hW1]
    clear hW1
    go_region_held3 (fun w' => BW W1 w' ∧ w'.cell? ⟨w.heap.size, 0, none⟩ = some (.int .u8 11) ∧ w'.cell? ⟨w.heap.size, 1, none⟩ = some (.int .i64 0) ∧ w'.cell? ⟨w.heap.size, 2, none⟩ = some (.string ts) ∧ w'.cell? ⟨w.heap.size, 3, none⟩ = some (.slice na nl nc) ∧ w'.cell? ⟨w.heap.size, 4, none⟩ = some (.slice ka kl kc)) ((refine ⟨(by repeat (first | exact BW.refl _ | assumption | apply BW.alloc | apply BW.drewN | apply BW.drew | (refine BW.setCell ?_ (by first | omega | (simp; done) | (simp; omega)) _) | (refine BW.trans ?_ (by assumption)))), ?_⟩; go_keep)) (first | (go_at_call 26; refine (CT.out _).mono ?_; rintro e w4 ⟨rfl, b4⟩; have z2 := fun o => b4.cells w.heap.size o (by have := b3.size; simp at this; simp; omega)) | (go_at_call 26; refine (CT.out _).mono ?_; rintro e w3 ⟨rfl, b3⟩; have z1 := fun o => b3.cells w.heap.size o (by simp; omega)) | (go_at_call 22; refine (CP1.out _ (BW.trans hbW (BW.trans (BW.drew (BW.refl _)) (BW.trans b3 b4)))).mono ?_; rintro e w5 ⟨rfl, b5⟩; have z3 := fun o => b5.cells w.heap.size o (by have := b3.size; have := b4.size; simp at *; omega)))
    have HB : Hid (BW w w5) := BW.trans hbW (BW.trans (BW.drew (BW.refl _)) (BW.trans b3 (BW.trans b4 b5)))
    clear z1 z2 z3 b3 b4 b5
    go_wp2_with (fail)
    go_ret
    exact ⟨by rw [HE.out]; rfl, HB.out⟩
  · have CP1 : Hid _ := CP.out (by decide)
    have HE : Hid (R = q) := by show R = _; rw [← HR.out]; simp
    clear CP
    go_enter Tryd.func16, Tryd.ntmps16
    go_wp2_with (fail)
    obtain ⟨W1, hW1⟩ : ∃ W1, W1 = w.alloc (.cells #[.int .u8 11, .int .i64 0, .string ts, .slice na nl nc, .slice ka kl kc] 25) := ⟨_, rfl⟩
    have hbW : BW w W1 := by rw [hW1]; exact BW.alloc (BW.refl w) _
    obtain ⟨⟨g0, g1, g2, g3, g4⟩, gz, _⟩ := bx_at (w' := W1) (by rw [hW1]; exact BW.refl _)
    rw [← hW1]
    clear hW1
    go_region_held3 (fun w' => BW W1 w' ∧ w'.cell? ⟨w.heap.size, 0, none⟩ = some (.int .u8 11) ∧ w'.cell? ⟨w.heap.size, 1, none⟩ = some (.int .i64 0) ∧ w'.cell? ⟨w.heap.size, 2, none⟩ = some (.string ts) ∧ w'.cell? ⟨w.heap.size, 3, none⟩ = some (.slice na nl nc) ∧ w'.cell? ⟨w.heap.size, 4, none⟩ = some (.slice ka kl kc)) ((refine ⟨(by repeat (first | exact BW.refl _ | assumption | apply BW.alloc | apply BW.drewN | apply BW.drew | (refine BW.setCell ?_ (by first | omega | (simp; done) | (simp; omega)) _) | (refine BW.trans ?_ (by assumption)))), ?_⟩; go_keep)) (first | (go_at_call 26; refine (CT.out _).mono ?_; rintro e w4 ⟨rfl, b4⟩; have z2 := fun o => b4.cells w.heap.size o (by have := b3.size; simp at this; simp; omega)) | (go_at_call 26; refine (CT.out _).mono ?_; rintro e w3 ⟨rfl, b3⟩; have z1 := fun o => b3.cells w.heap.size o (by simp; omega)) | (go_at_call 22; refine (CP1.out _ (BW.trans hbW (BW.trans (BW.drew (BW.refl _)) (BW.trans b3 b4)))).mono ?_; rintro e w5 ⟨rfl, b5⟩; have z3 := fun o => b5.cells w.heap.size o (by have := b3.size; have := b4.size; simp at *; omega)))
    have HB : Hid (BW w w5) := BW.trans hbW (BW.trans (BW.drew (BW.refl _)) (BW.trans b3 (BW.trans b4 b5)))
    clear z1 z2 z3 b3 b4 b5
    go_wp2_with (fail)
    go_ret
    exact ⟨by rw [HE.out]; rfl, HB.out⟩
  · have CP1 : Hid _ := CP.out (by decide)
    have HE : Hid (R = q) := by show R = _; rw [← HR.out]; simp
    clear CP
    go_enter Tryd.func16, Tryd.ntmps16
    go_wp2_with (fail)
    obtain ⟨W1, hW1⟩ : ∃ W1, W1 = w.alloc (.cells #[.int .u8 11, .int .i64 0, .string ts, .slice na nl nc, .slice ka kl kc] 25) := ⟨_, rfl⟩
    have hbW : BW w W1 := by rw [hW1]; exact BW.alloc (BW.refl w) _
    obtain ⟨⟨g0, g1, g2, g3, g4⟩, gz, _⟩ := bx_at (w' := W1) (by rw [hW1]; exact BW.refl _)
    rw [← hW1]
    clear hW1
    go_region_held3 (fun w' => BW W1 w' ∧ w'.cell? ⟨w.heap.size, 0, none⟩ = some (.int .u8 11) ∧ w'.cell? ⟨w.heap.size, 1, none⟩ = some (.int .i64 0) ∧ w'.cell? ⟨w.heap.size, 2, none⟩ = some (.string ts) ∧ w'.cell? ⟨w.heap.size, 3, none⟩ = some (.slice na nl nc) ∧ w'.cell? ⟨w.heap.size, 4, none⟩ = some (.slice ka kl kc)) ((refine ⟨(by repeat (first | exact BW.refl _ | assumption | apply BW.alloc | apply BW.drewN | apply BW.drew | (refine BW.setCell ?_ (by first | omega | (simp; done) | (simp; omega)) _) | (refine BW.trans ?_ (by assumption)))), ?_⟩; go_keep)) (first | (go_at_call 26; refine (CT.out _).mono ?_; rintro e w4 ⟨rfl, b4⟩; have z2 := fun o => b4.cells w.heap.size o (by have := b3.size; simp at this; simp; omega)) | (go_at_call 26; refine (CT.out _).mono ?_; rintro e w3 ⟨rfl, b3⟩; have z1 := fun o => b3.cells w.heap.size o (by simp; omega)) | (go_at_call 22; refine (CP1.out _ (BW.trans hbW (BW.trans (BW.drew (BW.refl _)) (BW.trans b3 b4)))).mono ?_; rintro e w5 ⟨rfl, b5⟩; have z3 := fun o => b5.cells w.heap.size o (by have := b3.size; have := b4.size; simp at *; omega)))
    have HB : Hid (BW w w5) := BW.trans hbW (BW.trans (BW.drew (BW.refl _)) (BW.trans b3 (BW.trans b4 b5)))
    clear z1 z2 z3 b3 b4 b5
    go_wp2_with (fail)
    go_ret
    exact ⟨by rw [HE.out]; rfl, HB.out⟩

end Go.Proofs.YtijoadkjkbkjgaaDoor
