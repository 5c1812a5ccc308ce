import Derived.Test.YtndhhmgbekcfoaaDoorM8
namespace Go.Proofs.YtndhhmgbekcfoaaDoor
open Go.RowKit
set_option linter.unusedVariables false
set_option linter.unusedSimpArgs false

/-- May a module be? -/
def mayB (m : Mdl) : Bool := fitB m && begB m && !(m.texts.any (fun s => decide (65536 < s.size))) && !(m.tabs.any (fun t => !tbB m t)) && !(m.pros.any (fun x => !prB m x))
set_option maxRecDepth 100000 in
set_option maxHeartbeats 4000000 in
theorem may_any (r : Mw) (m : Mdl) (w : World) (h : ModAt w r m) (hv : Vs w) : Calls Tryd.prog 16 #[r.v] w fun e w' => e = .returned (.bool (mayB m)) ∧ BW w w' := by
  obtain ⟨_, _, _, _, b1, b2, b3, b4⟩ := h.lens
  have HF : Hid (∀ w', BW w w' → Calls Tryd.prog 31 #[r.v] w' fun e w'' => e = .returned (.bool (fitB m)) ∧ BW w' w'') := fun w' k => fits_any r m w' (h.bw k)
  have HB : Hid (∀ w', BW w w' → Calls Tryd.prog 32 #[r.v] w' fun e w'' => e = .returned (.bool (begB m)) ∧ BW w' w'') := fun w' k => begins_any r m w' (h.bw k)
  have HS : Hid (∀ w', BW w w' → Calls Tryd.prog 38 #[.slice r.ta r.tl r.tc, .func (.func 33) #[] #[]] w' fun e w'' => e = .returned (.bool (m.texts.any (fun s => decide (65536 < s.size)))) ∧ BW w' w'') := fun w' k => conStr_any _ r.ta r.tl r.tc m.texts w' (h.texts.bw k) b2 (fun y w'' _ _ hy => bad21 y w'' hy)
  have HT : Hid (∀ w', BW (bxM w r) w' → Calls Tryd.prog 39 #[.slice r.ha r.hl r.hc, .func (.func 34) #[] #[.pointer (some ⟨w.heap.size, 0, none⟩)]] w' fun e w'' => e = .returned (.bool (m.tabs.any (fun t => !tbB m t))) ∧ BW w' w'') := fun w' k => by
    obtain ⟨k1, k2, k3⟩ := bxM_at k
    exact conTab_any _ _ r.ha r.hl r.hc m.tabs w' (h.tabs.bw k3) b4 (fun y oa ol oc w'' k4 _ hy => bad22 r m y oa ol oc _ w'' (h.bw (BW.trans k3 k4)) hy (k1.bw k4 k2) (by have := k4.size; omega))
  have HP : Hid (∀ w', BW (bxM w r) w' → Calls Tryd.prog 40 #[.slice r.pa r.pl r.pc, .func (.func 36) #[] #[.pointer (some ⟨w.heap.size, 0, none⟩)]] w' fun e w'' => e = .returned (.bool (m.pros.any (fun x => !prB m x))) ∧ BW w' w'') := fun w' k => by
    obtain ⟨k1, k2, k3⟩ := bxM_at k
    exact conPro_any _ _ r.pa r.pl r.pc m.pros w' (h.pros.bw k3) b3 (fun y ca cl cc w'' k4 _ hy => bad24 r m y ca cl cc _ w'' (h.bw (BW.trans k3 k4)) (hv.bw (BW.trans k3 k4)) hy (k1.bw k4 k2) (by have := k4.size; omega))
  unfold mayB
  clear h hv b1 b2 b3 b4
  generalize fitB m = q1 at *
  generalize begB m = q2 at *
  generalize m.texts.any (fun s => decide (65536 < s.size)) = q3 at *
  generalize m.tabs.any (fun t => !tbB m t) = q4 at *
  generalize m.pros.any (fun x => !prB m x) = q5 at *
  have AT : Hid (∀ w', BW (bxM w r) w' → MdK w' w.heap.size r ∧ w.heap.size < w'.heap.size ∧ BW w w') := fun w' k => bxM_at k
  cases q1
  all_goals try cases q2
  all_goals try cases q3
  all_goals try cases q4
  all_goals (
    go_enter Tryd.func16, Tryd.ntmps16
    go_wp2_with (first
      | (go_at_call 31; refine (HF.out _ (by repeat (first | exact BW.refl _ | assumption | apply BW.alloc | apply BW.drewN | apply BW.drew | (refine BW.setCell ?_ (by first | omega | (simp; done) | (simp; omega)) _) | (refine BW.trans ?_ (by assumption))))).mono ?_; rintro e w1 ⟨rfl, c1⟩; obtain ⟨⟨g0, g1, g2, g3⟩, gz, gb⟩ := AT.out _ c1)
      | (go_at_call 32; refine (HB.out _ (by repeat (first | exact BW.refl _ | assumption | apply BW.alloc | apply BW.drewN | apply BW.drew | (refine BW.setCell ?_ (by first | omega | (simp; done) | (simp; omega)) _) | (refine BW.trans ?_ (by assumption))))).mono ?_; rintro e w2 ⟨rfl, c2⟩; have k0 := (c2.cells w.heap.size 0 (by omega)).trans g0; have k1 := (c2.cells w.heap.size 1 (by omega)).trans g1; have k2 := (c2.cells w.heap.size 2 (by omega)).trans g2; have k3 := (c2.cells w.heap.size 3 (by omega)).trans g3; have kb := gb.trans c2; have kx := BW.trans c1 c2; have kz := c2.size; clear c2)
      | (go_at_call 38; refine (HS.out _ (by repeat (first | exact BW.refl _ | assumption | apply BW.alloc | apply BW.drewN | apply BW.drew | (refine BW.setCell ?_ (by first | omega | (simp; done) | (simp; omega)) _) | (refine BW.trans ?_ (by assumption))))).mono ?_; rintro e w3 ⟨rfl, c3⟩; have j2 := (c3.cells w.heap.size 2 (by omega)).trans k2; have j3 := (c3.cells w.heap.size 3 (by omega)).trans k3; have jb := kb.trans c3; have jx := BW.trans kx c3; have jz := c3.size; clear c3)
      | (go_at_call 39; refine (HT.out _ jx).mono ?_; rintro e w4 ⟨rfl, c4⟩; have i2 := (c4.cells w.heap.size 2 (by omega)).trans j2; have ib := jb.trans c4; have ix := BW.trans jx c4; clear c4)
      | (go_at_call 40; refine (HP.out _ ix).mono ?_; rintro e w5 ⟨rfl, c5⟩))
    go_ret
    exact ⟨by simp, (by repeat (first | exact BW.refl _ | assumption | apply BW.alloc | apply BW.drewN | apply BW.drew | (refine BW.setCell ?_ (by first | omega | (simp; done) | (simp; omega)) _) | (refine BW.trans ?_ (by assumption))))⟩)

end Go.Proofs.YtndhhmgbekcfoaaDoor
