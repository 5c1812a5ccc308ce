import Derived.Test.YtogeoaanlkeciaaDoorS4
import Derived.Test.YtogeoaanlkeciaaDoorE1
namespace Go.Proofs.YtogeoaanlkeciaaDoor
open Go.RowKit
set_option linter.unusedVariables false
set_option linter.unusedSimpArgs false

/-- The same modules. -/
def smM (a b : Mdl) : Bool := eqL eqI a.ints b.ints && eqL eqS a.texts b.texts && eqL smP a.pros b.pros && eqL smT a.tabs b.tabs
theorem smM_refl (a : Mdl) : smM a a = true := by simp [smM, eqL_refl eqI eqI_refl, eqL_refl eqS eqS_refl, eqL_refl smP smP_refl, eqL_refl smT smT_refl]
set_option maxRecDepth 100000 in
set_option maxHeartbeats 4000000 in
theorem same_any (r s : Mw) (a b : Mdl) (w : World) (h1 : ModAt w r a) (h2 : ModAt w s b) : Calls Tryd.prog 11 #[r.v, s.v] w fun e w' => e = .returned (.bool (smM a b)) ∧ BW w w' := by
  obtain ⟨_, _, _, _, l1, l2, l3, l4⟩ := h1.lens
  obtain ⟨_, _, _, _, m1, m2, m3, m4⟩ := h2.lens
  have HI : Hid (∀ w', BW w w' → Calls Tryd.prog 31 #[.slice r.ia r.il r.ic, .slice s.ia s.il s.ic] w' fun e w'' => e = .returned (.bool (eqL eqI a.ints b.ints)) ∧ BW w' w'') := fun w' k => eqInts_any _ _ _ _ _ _ _ _ w' (h1.ints.bw k) (h2.ints.bw k) l1 m1
  have HS : Hid (∀ w', BW w w' → Calls Tryd.prog 32 #[.slice r.ta r.tl r.tc, .slice s.ta s.tl s.tc] w' fun e w'' => e = .returned (.bool (eqL eqS a.texts b.texts)) ∧ BW w' w'') := fun w' k => eqStrs_any _ _ _ _ _ _ _ _ w' (h1.texts.bw k) (h2.texts.bw k) l2 m2
  have HP : Hid (∀ w', BW w w' → Calls Tryd.prog 33 #[.slice r.pa r.pl r.pc, .slice s.pa s.pl s.pc, .func (.func 34) #[] #[]] w' fun e w'' => e = .returned (.bool (eqL smP a.pros b.pros)) ∧ BW w' w'') := fun w' k => eqPros_any _ _ _ _ _ _ _ _ w' (h1.pros.bw k) (h2.pros.bw k) l3 m3
  have HT : Hid (∀ w', BW w w' → Calls Tryd.prog 35 #[.slice r.ha r.hl r.hc, .slice s.ha s.hl s.hc, .func (.func 36) #[] #[]] w' fun e w'' => e = .returned (.bool (eqL smT a.tabs b.tabs)) ∧ BW w' w'') := fun w' k => eqTabs_any _ _ _ _ _ _ _ _ w' (h1.tabs.bw k) (h2.tabs.bw k) l4 m4
  unfold smM
  clear h1 h2 l1 l2 l3 l4 m1 m2 m3 m4
  generalize eqL eqI a.ints b.ints = q1 at *
  generalize eqL eqS a.texts b.texts = q2 at *
  generalize eqL smP a.pros b.pros = q3 at *
  generalize eqL smT a.tabs b.tabs = q4 at *
  have AT : Hid (∀ w', BW (bxM (bxM w r) s) w' → MdK w' w.heap.size r ∧ MdK w' (w.heap.size + 1) s ∧ BW w w' ∧ w.heap.size + 1 < w'.heap.size) := fun w' k => by
    obtain ⟨g1, g2, g3⟩ := bxM_at k
    obtain ⟨g4, g5, g6⟩ := bxM_at g3
    have e : (bxM w r).heap.size = w.heap.size + 1 := by simp
    rw [e] at g1 g2
    exact ⟨g4, g1, g6, g2⟩
  cases q1
  all_goals try cases q2
  all_goals try cases q3
  all_goals (
    go_enter Tryd.func11, Tryd.ntmps11
    go_wp2_with (first
      | (go_at_call 31; refine (HI.out _ (by repeat (first | exact BW.refl _ | assumption | apply BW.alloc | apply BW.drewN | apply BW.drew | (refine BW.setCell ?_ (by first | omega | (simp; done) | (simp; omega)) _) | (refine BW.trans ?_ (by assumption))))).mono ?_; rintro e w1 ⟨rfl, b1⟩; obtain ⟨⟨g0, g1, g2, g3⟩, ⟨f0, f1, f2, f3⟩, gb, gz⟩ := AT.out _ b1; clear b1)
      | (go_at_call 32; refine (HS.out _ (by repeat (first | exact BW.refl _ | assumption | apply BW.alloc | apply BW.drewN | apply BW.drew | (refine BW.setCell ?_ (by first | omega | (simp; done) | (simp; omega)) _) | (refine BW.trans ?_ (by assumption))))).mono ?_; rintro e w2 ⟨rfl, b2⟩; have k2 := (b2.cells w.heap.size 2 (by omega)).trans g2; have k3 := (b2.cells w.heap.size 3 (by omega)).trans g3; have j2 := (b2.cells (w.heap.size + 1) 2 (by omega)).trans f2; have j3 := (b2.cells (w.heap.size + 1) 3 (by omega)).trans f3; have kb := gb.trans b2; have kz := b2.size; clear b2)
      | (go_at_call 33; refine (HP.out _ (by repeat (first | exact BW.refl _ | assumption | apply BW.alloc | apply BW.drewN | apply BW.drew | (refine BW.setCell ?_ (by first | omega | (simp; done) | (simp; omega)) _) | (refine BW.trans ?_ (by assumption))))).mono ?_; rintro e w3 ⟨rfl, b3⟩; have i3 := (b3.cells w.heap.size 3 (by omega)).trans k3; have h3 := (b3.cells (w.heap.size + 1) 3 (by omega)).trans j3; have ib := kb.trans b3; clear b3)
      | (go_at_call 35; refine (HT.out _ (by repeat (first | exact BW.refl _ | assumption | apply BW.alloc | apply BW.drewN | apply BW.drew | (refine BW.setCell ?_ (by first | omega | (simp; done) | (simp; omega)) _) | (refine BW.trans ?_ (by assumption))))).mono ?_; rintro e w4 ⟨rfl, b4⟩))
    go_ret
    exact ⟨by simp, (by repeat (first | exact BW.refl _ | assumption | apply BW.alloc | apply BW.drewN | apply BW.drew | (refine BW.setCell ?_ (by first | omega | (simp; done) | (simp; omega)) _) | (refine BW.trans ?_ (by assumption))))⟩)

end Go.Proofs.YtogeoaanlkeciaaDoor
