import Derived.Test.YtogeoaanlkeciaaDoorR1
namespace Go.Proofs.YtogeoaanlkeciaaDoor
open Go.RowKit
set_option linter.unusedVariables false
set_option linter.unusedSimpArgs false

/-- Don't instructions go on? -/
def en (op : Int) : Bool := decide (op = 11) || decide (op = 12) || decide (op = 13) || decide (op = 22)
set_option maxRecDepth 100000 in
set_option maxHeartbeats 4000000 in
theorem ends_any (op : Int) (w : World) : Calls Tryd.prog 15 #[.int .u8 op] w fun e w' => e = .returned (.bool (en op)) ∧ w' = w := by
  unfold en
  by_cases h11 : op = 11
  · subst h11
    go_enter Tryd.func15, Tryd.ntmps15
    go_wp2_with (fail)
    go_ret
    exact ⟨rfl, rfl⟩
  have e11 : (op == 11) = false := by simpa using h11
  by_cases h12 : op = 12
  · subst h12
    go_enter Tryd.func15, Tryd.ntmps15
    go_wp2_with (fail)
    go_ret
    exact ⟨rfl, rfl⟩
  have e12 : (op == 12) = false := by simpa using h12
  by_cases h13 : op = 13
  · subst h13
    go_enter Tryd.func15, Tryd.ntmps15
    go_wp2_with (fail)
    go_ret
    exact ⟨rfl, rfl⟩
  have e13 : (op == 13) = false := by simpa using h13
  by_cases h22 : op = 22
  · subst h22
    go_enter Tryd.func15, Tryd.ntmps15
    go_wp2_with (fail)
    go_ret
    exact ⟨rfl, rfl⟩
  have e22 : (op == 22) = false := by simpa using h22
  simp only [h11, h12, h13, h22, decide_false]
  go_enter Tryd.func15, Tryd.ntmps15
  go_wp2_with (fail)
  go_ret
  exact ⟨rfl, rfl⟩
set_option maxRecDepth 100000 in
set_option maxHeartbeats 4000000 in
theorem refEnds_any (op : Int) (w : World) : Calls Tryd.prog 16 #[.int .u8 op] w fun e w' => e = .returned (.bool (en op)) ∧ w' = w := by
  unfold en
  by_cases h11 : op = 11
  · subst h11
    go_enter Tryd.func16, Tryd.ntmps16
    go_wp2_with (fail)
    go_ret
    exact ⟨rfl, rfl⟩
  have e11 : (op == 11) = false := by simpa using h11
  by_cases h12 : op = 12
  · subst h12
    go_enter Tryd.func16, Tryd.ntmps16
    go_wp2_with (fail)
    go_ret
    exact ⟨rfl, rfl⟩
  have e12 : (op == 12) = false := by simpa using h12
  by_cases h13 : op = 13
  · subst h13
    go_enter Tryd.func16, Tryd.ntmps16
    go_wp2_with (fail)
    go_ret
    exact ⟨rfl, rfl⟩
  have e13 : (op == 13) = false := by simpa using h13
  by_cases h22 : op = 22
  · subst h22
    go_enter Tryd.func16, Tryd.ntmps16
    go_wp2_with (fail)
    go_ret
    exact ⟨rfl, rfl⟩
  have e22 : (op == 22) = false := by simpa using h22
  simp only [h11, h12, h13, h22, decide_false]
  go_enter Tryd.func16, Tryd.ntmps16
  go_wp2_with (fail)
  go_ret
  exact ⟨rfl, rfl⟩
set_option maxRecDepth 100000 in
set_option maxHeartbeats 4000000 in
theorem codeEffects_any (r : Mw) (m : Mdl) (x : Ins) (w : World) (h : ModAt w r m) (hx : (0 ≤ x.op ∧ x.op ≤ 255) ∧ I64 x.a) (hv : Vs w) : Calls Tryd.prog 4 #[r.v, .agg #[.int .u8 x.op, .int .i64 x.a]] w fun e w' => e = .returned (.bool true) ∧ BW w w' := by
  have HG : Hid (∀ w', BW w w' → Calls Tryd.prog 7 #[r.v] w' fun e w'' => e = .returned (.bool (gr m)) ∧ BW w' w'') := fun w' k => great_any r m w' (h.bw k)
  have HE : Hid (∀ w', BW w w' → Calls Tryd.prog 13 #[r.v, .agg #[.int .u8 x.op, .int .i64 x.a]] w' fun e w'' => e = .returned (.tuple #[.int .i64 (ef m x.op x.a).1, .int .i64 (ef m x.op x.a).2.1, .bool (ef m x.op x.a).2.2]) ∧ BW w' w'') := fun w' k => effect_any r m x.op x.a w' (h.bw k) (hv.bw k) hx.2
  have HF : Hid (∀ w', BW w w' → Calls Tryd.prog 14 #[r.v, .agg #[.int .u8 x.op, .int .i64 x.a]] w' fun e w'' => e = .returned (.tuple #[.int .i64 (ef m x.op x.a).1, .int .i64 (ef m x.op x.a).2.1, .bool (ef m x.op x.a).2.2]) ∧ BW w' w'') := fun w' k => refEffect_any r m x.op x.a w' (h.bw k) hx.2
  have HA : Hid (∀ w', BW w w' → Calls Tryd.prog 8 #[] w' fun e w'' => e = .returned (.bool true) ∧ BW w' w'') := fun w' k => awake_any w' (hv.bw k)
  have HN : Hid (∀ w', Calls Tryd.prog 15 #[.int .u8 x.op] w' fun e w'' => e = .returned (.bool (en x.op)) ∧ w'' = w') := fun w' => ends_any x.op w'
  have HM : Hid (∀ w', Calls Tryd.prog 16 #[.int .u8 x.op] w' fun e w'' => e = .returned (.bool (en x.op)) ∧ w'' = w') := fun w' => refEnds_any x.op w'
  clear h hv hx
  obtain ⟨op, a⟩ := x
  dsimp only at HE HF HN HM ⊢
  generalize ef m op a = q at *
  obtain ⟨a1, a2, a3⟩ := q
  dsimp only at HE HF
  generalize en op = a4 at *
  have q1 : (a1 == a1) = true := by simp
  have q2 : (a2 == a2) = true := by simp
  have q3 : (a3 == a3) = true := by simp
  have q4 : (a4 == a4) = true := by simp
  generalize gr m = b at *
  cases b with
  | true =>
    go_enter Tryd.func4, Tryd.ntmps4
    go_wp2_with (first
      | (go_at_call 7; refine (HG.out _ (by repeat (first | exact BW.refl _ | assumption | apply BW.alloc | apply BW.drewN | apply BW.drew | (refine BW.setCell ?_ (by first | omega | (simp; done) | (simp; omega)) _) | (refine BW.trans ?_ (by assumption))))).mono ?_; rintro e w1 ⟨rfl, b1⟩)
      | (go_at_call 8; refine (HA.out _ (by repeat (first | exact BW.refl _ | assumption | apply BW.alloc | apply BW.drewN | apply BW.drew | (refine BW.setCell ?_ (by first | omega | (simp; done) | (simp; omega)) _) | (refine BW.trans ?_ (by assumption))))).mono ?_; rintro e w2 ⟨rfl, b2⟩))
    go_ret
    exact ⟨rfl, (by repeat (first | exact BW.refl _ | assumption | apply BW.alloc | apply BW.drewN | apply BW.drew | (refine BW.setCell ?_ (by first | omega | (simp; done) | (simp; omega)) _) | (refine BW.trans ?_ (by assumption))))⟩
  | false =>
    go_enter Tryd.func4, Tryd.ntmps4
    go_wp2_with (first
      | (go_at_call 7; refine (HG.out _ (by repeat (first | exact BW.refl _ | assumption | apply BW.alloc | apply BW.drewN | apply BW.drew | (refine BW.setCell ?_ (by first | omega | (simp; done) | (simp; omega)) _) | (refine BW.trans ?_ (by assumption))))).mono ?_; rintro e w1 ⟨rfl, b1⟩; obtain ⟨⟨g0, g1, g2, g3⟩, ⟨g4, g5⟩, gz, gb⟩ := bxMI_at (r := r) (x := ⟨op, a⟩) b1; clear b1)
      | (go_at_call 13; refine (HE.out _ (by repeat (first | exact BW.refl _ | assumption | apply BW.alloc | apply BW.drewN | apply BW.drew | (refine BW.setCell ?_ (by first | omega | (simp; done) | (simp; omega)) _) | (refine BW.trans ?_ (by assumption))))).mono ?_; rintro e w2 ⟨rfl, b2⟩; have k0 := (b2.cells w.heap.size 0 (by omega)).trans g0; have k1 := (b2.cells w.heap.size 1 (by omega)).trans g1; have k2 := (b2.cells w.heap.size 2 (by omega)).trans g2; have k3 := (b2.cells w.heap.size 3 (by omega)).trans g3; have k4 := (b2.cells (w.heap.size + 1) 0 (by omega)).trans g4; have k5 := (b2.cells (w.heap.size + 1) 1 (by omega)).trans g5; have kb := gb.trans b2; have kz := b2.size; clear b2 g0 g1 g2 g3 g4 g5)
      | (go_at_call 14; refine (HF.out _ (by assumption)).mono ?_; rintro e w3 ⟨rfl, b3⟩; have j4 := (b3.cells (w.heap.size + 1) 0 (by omega)).trans k4; have jb := kb.trans b3; have jz := b3.size; clear b3))
    go_region_held3 (fun w' => BW w w' ∧ w'.cell? ⟨w.heap.size + 1, 0, none⟩ = some (.int .u8 op)) ((refine ⟨(by repeat (first | exact BW.refl _ | assumption | apply BW.alloc | apply BW.drewN | apply BW.drew | (refine BW.setCell ?_ (by first | omega | (simp; done) | (simp; omega)) _) | (refine BW.trans ?_ (by assumption)))), ?_⟩; go_keep)) (first
      | (go_at_call 15; refine (HN.out _).mono ?_; rintro e w4 ⟨rfl, rfl⟩)
      | (go_at_call 16; refine (HM.out _).mono ?_; rintro e w5 ⟨rfl, rfl⟩)
      | (go_at_call 8; refine (HA.out _ (by repeat (first | exact BW.refl _ | assumption | apply BW.alloc | apply BW.drewN | apply BW.drew | (refine BW.setCell ?_ (by first | omega | (simp; done) | (simp; omega)) _) | (refine BW.trans ?_ (by assumption))))).mono ?_; rintro e w6 ⟨rfl, b6⟩; have z1 := fun o => b6.cells (w.heap.size + 1) o (by simp; omega)))
    go_wp2_with (fail)
    go_ret
    exact ⟨rfl, (by repeat (first | exact BW.refl _ | assumption | apply BW.alloc | apply BW.drewN | apply BW.drew | (refine BW.setCell ?_ (by first | omega | (simp; done) | (simp; omega)) _) | (refine BW.trans ?_ (by assumption))))⟩

end Go.Proofs.YtogeoaanlkeciaaDoor
