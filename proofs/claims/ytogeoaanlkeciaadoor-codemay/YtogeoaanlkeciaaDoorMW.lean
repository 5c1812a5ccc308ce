import Derived.Test.YtogeoaanlkeciaaDoorM10
import Derived.Test.YtogeoaanlkeciaaDoorS9
import Derived.Test.YtogeoaanlkeciaaDoorG2
namespace Go.Proofs.YtogeoaanlkeciaaDoor
open Go.RowKit
set_option linter.unusedVariables false
set_option linter.unusedSimpArgs false

set_option maxRecDepth 100000 in
set_option maxHeartbeats 4000000 in
theorem codeMay_any (r s : Mw) (m o : Mdl) (w : World) (h1 : ModAt w r m) (h2 : ModAt w s o) (hv : Vs w) : Calls Tryd.prog 3 #[r.v, s.v] w fun e w' => e = .returned (.bool true) ∧ BW w w' := by
  have HG : Hid (∀ w', BW w w' → Calls Tryd.prog 7 #[r.v] w' fun e w'' => e = .returned (.bool (gr m)) ∧ BW w' w'') := fun w' k => great_any r m w' (h1.bw k)
  have HG2 : Hid (∀ w', BW w w' → Calls Tryd.prog 7 #[s.v] w' fun e w'' => e = .returned (.bool (gr o)) ∧ BW w' w'') := fun w' k => great_any s o w' (h2.bw k)
  have HM : Hid (∀ w', BW w w' → Calls Tryd.prog 9 #[r.v] w' fun e w'' => e = .returned (.bool (mayB m)) ∧ BW w' w'') := fun w' k => may_any r m w' (h1.bw k) (hv.bw k)
  have HN : Hid (∀ w', BW w w' → Calls Tryd.prog 10 #[r.v] w' fun e w'' => e = .returned (.bool (mayB m)) ∧ BW w' w'') := fun w' k => refMay_any r m w' (h1.bw k) (hv.bw k)
  have HS : Hid (∀ w', BW w w' → Calls Tryd.prog 11 #[r.v, s.v] w' fun e w'' => e = .returned (.bool (smM m o)) ∧ BW w' w'') := fun w' k => same_any r s m o w' (h1.bw k) (h2.bw k)
  have HT : Hid (∀ w', BW w w' → Calls Tryd.prog 12 #[r.v, s.v] w' fun e w'' => e = .returned (.bool (smM m o)) ∧ BW w' w'') := fun w' k => refSame_any r s m o w' (h1.bw k) (h2.bw k)
  have HU : Hid (∀ w', BW w w' → Calls Tryd.prog 11 #[r.v, r.v] w' fun e w'' => e = .returned (.bool true) ∧ BW w' w'') := fun w' k => by have := same_any r r m m w' (h1.bw k) (h1.bw k); rw [smM_refl] at this; exact this
  have HA : Hid (∀ w', BW w w' → Calls Tryd.prog 8 #[] w' fun e w'' => e = .returned (.bool true) ∧ BW w' w'') := fun w' k => awake_any w' (hv.bw k)
  clear h1 h2 hv
  generalize gr m = q1 at *
  generalize gr o = q2 at *
  generalize mayB m = q3 at *
  generalize smM m o = q4 at *
  have z3 : (q3 == q3) = true := by simp
  have z4 : (q4 == q4) = true := by simp
  obtain ⟨ia, il, ic, ta, tl, tc, pa, pl, pc, ha, hl, hc⟩ := r
  obtain ⟨ia', il', ic', ta', tl', tc', pa', pl', pc', ha', hl', hc'⟩ := s
  have AT : Hid (∀ w', BW (bxM (bxM w ⟨ia, il, ic, ta, tl, tc, pa, pl, pc, ha, hl, hc⟩) ⟨ia', il', ic', ta', tl', tc', pa', pl', pc', ha', hl', hc'⟩) w' → MdK w' w.heap.size ⟨ia, il, ic, ta, tl, tc, pa, pl, pc, ha, hl, hc⟩ ∧ MdK w' (w.heap.size + 1) ⟨ia', il', ic', ta', tl', tc', pa', pl', pc', ha', hl', hc'⟩ ∧ w.heap.size + 1 < w'.heap.size ∧ BW w w') := fun w' k => bxMM_at k
  cases q1 with
  | true =>
    go_enter Tryd.func3, Tryd.ntmps3
    go_wp2_with (first
      | (go_at_call 7; refine (HG.out _ (by repeat (first | exact BW.refl _ | assumption | apply BW.alloc | apply BW.drewN | apply BW.drew | (refine BW.setCell ?_ (by first | omega | (simp; done) | (simp; omega)) _) | (refine BW.trans ?_ (by assumption))))).mono ?_; rintro e w1 ⟨rfl, b1⟩)
      | (go_at_call 8; refine (HA.out _ (by repeat (first | exact BW.refl _ | assumption | apply BW.alloc | apply BW.drewN | apply BW.drew | (refine BW.setCell ?_ (by first | omega | (simp; done) | (simp; omega)) _) | (refine BW.trans ?_ (by assumption))))).mono ?_; rintro e w2 ⟨rfl, b2⟩))
    go_ret
    exact ⟨rfl, (by repeat (first | exact BW.refl _ | assumption | apply BW.alloc | apply BW.drewN | apply BW.drew | (refine BW.setCell ?_ (by first | omega | (simp; done) | (simp; omega)) _) | (refine BW.trans ?_ (by assumption))))⟩
  | false =>
    cases q2 with
    | true =>
      go_enter Tryd.func3, Tryd.ntmps3
      go_wp2_with (first
        | (go_at_call_of 7 (Value.agg #[Value.slice ia' il' ic', Value.slice ta' tl' tc', Value.slice pa' pl' pc', Value.slice ha' hl' hc']); refine (HG2.out _ (by repeat (first | exact BW.refl _ | assumption | apply BW.alloc | apply BW.drewN | apply BW.drew | (refine BW.setCell ?_ (by first | omega | (simp; done) | (simp; omega)) _) | (refine BW.trans ?_ (by assumption))))).mono ?_; rintro e w2 ⟨rfl, b2⟩)
        | (go_at_call 7; refine (HG.out _ (by repeat (first | exact BW.refl _ | assumption | apply BW.alloc | apply BW.drewN | apply BW.drew | (refine BW.setCell ?_ (by first | omega | (simp; done) | (simp; omega)) _) | (refine BW.trans ?_ (by assumption))))).mono ?_; rintro e w1 ⟨rfl, b1⟩; obtain ⟨⟨g0, g1, g2, g3⟩, ⟨f0, f1, f2, f3⟩, gz, gb⟩ := AT.out _ b1; dsimp only at g0 g1 g2 g3 f0 f1 f2 f3; clear b1)
        | (go_at_call 8; refine (HA.out _ (by repeat (first | exact BW.refl _ | assumption | apply BW.alloc | apply BW.drewN | apply BW.drew | (refine BW.setCell ?_ (by first | omega | (simp; done) | (simp; omega)) _) | (refine BW.trans ?_ (by assumption))))).mono ?_; rintro e w3 ⟨rfl, b3⟩))
      go_ret
      exact ⟨rfl, (by repeat (first | exact BW.refl _ | assumption | apply BW.alloc | apply BW.drewN | apply BW.drew | (refine BW.setCell ?_ (by first | omega | (simp; done) | (simp; omega)) _) | (refine BW.trans ?_ (by assumption))))⟩
    | false =>
      go_enter Tryd.func3, Tryd.ntmps3
      go_wp2_with (first
        | (go_at_call_of 7 (Value.agg #[Value.slice ia' il' ic', Value.slice ta' tl' tc', Value.slice pa' pl' pc', Value.slice ha' hl' hc']); refine (HG2.out _ (by assumption)).mono ?_; rintro e w2 ⟨rfl, b2⟩; have k0 := (b2.cells w.heap.size 0 (by omega)).trans g0; have k1 := (b2.cells w.heap.size 1 (by omega)).trans g1; have k2 := (b2.cells w.heap.size 2 (by omega)).trans g2; have k3 := (b2.cells w.heap.size 3 (by omega)).trans g3; have j0 := (b2.cells (w.heap.size + 1) 0 (by omega)).trans f0; have j1 := (b2.cells (w.heap.size + 1) 1 (by omega)).trans f1; have j2 := (b2.cells (w.heap.size + 1) 2 (by omega)).trans f2; have j3 := (b2.cells (w.heap.size + 1) 3 (by omega)).trans f3; have kb := gb.trans b2; have kz : w.heap.size + 1 < w2.heap.size := by have := b2.size; omega
           have kz2 : w.heap.size < w2.heap.size := by omega
           clear b2 g0 g1 g2 g3 f0 f1 f2 f3)
        | (go_at_call 7; refine (HG.out _ (by repeat (first | exact BW.refl _ | assumption | apply BW.alloc | apply BW.drewN | apply BW.drew | (refine BW.setCell ?_ (by first | omega | (simp; done) | (simp; omega)) _) | (refine BW.trans ?_ (by assumption))))).mono ?_; rintro e w1 ⟨rfl, b1⟩; obtain ⟨⟨g0, g1, g2, g3⟩, ⟨f0, f1, f2, f3⟩, gz, gb⟩ := AT.out _ b1; dsimp only at g0 g1 g2 g3 f0 f1 f2 f3; clear b1))
      go_region_held3 (fun w' => BW w2 w' ∧ w'.cell? ⟨w.heap.size, 0, none⟩ = some (.slice ia il ic) ∧ w'.cell? ⟨w.heap.size, 1, none⟩ = some (.slice ta tl tc) ∧ w'.cell? ⟨w.heap.size, 2, none⟩ = some (.slice pa pl pc) ∧ w'.cell? ⟨w.heap.size, 3, none⟩ = some (.slice ha hl hc) ∧ w'.cell? ⟨w.heap.size + 1, 0, none⟩ = some (.slice ia' il' ic') ∧ w'.cell? ⟨w.heap.size + 1, 1, none⟩ = some (.slice ta' tl' tc') ∧ w'.cell? ⟨w.heap.size + 1, 2, none⟩ = some (.slice pa' pl' pc') ∧ w'.cell? ⟨w.heap.size + 1, 3, none⟩ = some (.slice ha' hl' hc')) ((refine ⟨(by repeat (first | exact BW.refl _ | assumption | apply BW.alloc | apply BW.drewN | apply BW.drew | (refine BW.setCell ?_ (by first | omega | (simp; done) | (simp; omega)) _) | (refine BW.trans ?_ (by assumption)))), ?_⟩; go_keep)) (first
        | (go_at_call 9; refine (HM.out _ (BW.trans kb (by repeat (first | exact BW.refl _ | assumption | apply BW.alloc | apply BW.drewN | apply BW.drew | (refine BW.setCell ?_ (by first | omega | (simp; done) | (simp; omega)) _) | (refine BW.trans ?_ (by assumption)))))).mono ?_; rintro e w3 ⟨rfl, b3⟩; have yy3 := b3.size; (try simp at yy3); have t1 := fun o => b3.cells w.heap.size o (by first | omega | (simp; omega)); have t2 := fun o => b3.cells (w.heap.size + 1) o (by first | omega | (simp; omega)))
        | (go_at_call 10; refine (HN.out _ (BW.trans kb (by repeat (first | exact BW.refl _ | assumption | apply BW.alloc | apply BW.drewN | apply BW.drew | (refine BW.setCell ?_ (by first | omega | (simp; done) | (simp; omega)) _) | (refine BW.trans ?_ (by assumption)))))).mono ?_; rintro e w4 ⟨rfl, b4⟩; have yy4 := b4.size; (try simp at yy4); have t3 := fun o => b4.cells w.heap.size o (by first | omega | (simp; omega)); have t4 := fun o => b4.cells (w.heap.size + 1) o (by first | omega | (simp; omega)))
        | (go_at_call_of 11 (Value.agg #[Value.slice ia' il' ic', Value.slice ta' tl' tc', Value.slice pa' pl' pc', Value.slice ha' hl' hc']); refine (HS.out _ (BW.trans kb (by repeat (first | exact BW.refl _ | assumption | apply BW.alloc | apply BW.drewN | apply BW.drew | (refine BW.setCell ?_ (by first | omega | (simp; done) | (simp; omega)) _) | (refine BW.trans ?_ (by assumption)))))).mono ?_; rintro e w6 ⟨rfl, b6⟩; have yy6 := b6.size; (try simp at yy6); have t7 := fun o => b6.cells w.heap.size o (by first | omega | (simp; omega)); have t8 := fun o => b6.cells (w.heap.size + 1) o (by first | omega | (simp; omega)))
        | (go_at_call 11; refine (HU.out _ (BW.trans kb (by repeat (first | exact BW.refl _ | assumption | apply BW.alloc | apply BW.drewN | apply BW.drew | (refine BW.setCell ?_ (by first | omega | (simp; done) | (simp; omega)) _) | (refine BW.trans ?_ (by assumption)))))).mono ?_; rintro e w5 ⟨rfl, b5⟩; have yy5 := b5.size; (try simp at yy5); have t5 := fun o => b5.cells w.heap.size o (by first | omega | (simp; omega)); have t6 := fun o => b5.cells (w.heap.size + 1) o (by first | omega | (simp; omega)))
        | (go_at_call 12; refine (HT.out _ (BW.trans kb (by repeat (first | exact BW.refl _ | assumption | apply BW.alloc | apply BW.drewN | apply BW.drew | (refine BW.setCell ?_ (by first | omega | (simp; done) | (simp; omega)) _) | (refine BW.trans ?_ (by assumption)))))).mono ?_; rintro e w7 ⟨rfl, b7⟩; have yy7 := b7.size; (try simp at yy7); have t9 := fun o => b7.cells w.heap.size o (by first | omega | (simp; omega)); have t10 := fun o => b7.cells (w.heap.size + 1) o (by first | omega | (simp; omega)))
        | (go_at_call 8; refine (HA.out _ (BW.trans kb (by repeat (first | exact BW.refl _ | assumption | apply BW.alloc | apply BW.drewN | apply BW.drew | (refine BW.setCell ?_ (by first | omega | (simp; done) | (simp; omega)) _) | (refine BW.trans ?_ (by assumption)))))).mono ?_; rintro e w8 ⟨rfl, b8⟩; have yy8 := b8.size; (try simp at yy8); have t11 := fun o => b8.cells w.heap.size o (by first | omega | (simp; omega)); have t12 := fun o => b8.cells (w.heap.size + 1) o (by first | omega | (simp; omega))))
      go_wp2_with (fail)
      go_ret
      exact ⟨rfl, BW.trans kb (by repeat (first | exact BW.refl _ | assumption | apply BW.alloc | apply BW.drewN | apply BW.drew | (refine BW.setCell ?_ (by first | omega | (simp; done) | (simp; omega)) _) | (refine BW.trans ?_ (by assumption))))⟩

end Go.Proofs.YtogeoaanlkeciaaDoor
