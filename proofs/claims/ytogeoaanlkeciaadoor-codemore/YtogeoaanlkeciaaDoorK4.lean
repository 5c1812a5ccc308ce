import Derived.Test.YtogeoaanlkeciaaDoorK3
import Derived.Test.YtogeoaanlkeciaaDoorM10
import Derived.Test.YtogeoaanlkeciaaDoorG2
namespace Go.Proofs.YtogeoaanlkeciaaDoor
open Go.RowKit
set_option linter.unusedVariables false
set_option linter.unusedSimpArgs false

theorem lit_kept {x W : World} {cs cs2 : Array Value} {t t2 : TypeId} {row : Option Nat} (g : ((x.alloc (.cells cs t)).alloc (.cells cs2 t2)).grownBy W row) (hr : ∀ k, row = some k → k < x.heap.size) : x.heap.size < W.heap.size ∧ ∀ j, W.cell? ⟨x.heap.size, j, none⟩ = cs[j]? := by
  have hz := g.size
  simp at hz
  refine ⟨by omega, fun j => ?_⟩
  have hb := g.block x.heap.size (by simp; omega) (fun e => by have := hr _ e.symm; omega)
  rw [World.cell?_of_block (w := (x.alloc (.cells cs t)).alloc (.cells cs2 t2)) (a := ⟨x.heap.size, j, none⟩) hb, World.cell?_alloc_lt _ _ _ (by simp), cell_new]
set_option maxRecDepth 100000 in
set_option maxHeartbeats 4000000 in
theorem codeMore_early (r : Mw) (m : Mdl) (n : Int) (s : ByteArray) (w : World) (h : ModAt w r m) (hv : Vs w) (hs : s.size ≤ 9223372036854775807) (hbad : gr m = true ∨ mayB m = false ∨ 1000 < s.size) : Calls Tryd.prog 6 #[r.v, .int .i64 n, .string s] w fun e w' => e = .returned (.bool true) ∧ BW w w' := by
  have HG : Hid (∀ w', BW w w' → Calls Tryd.prog 7 #[r.v] w' fun e w'' => e = .returned (.bool (gr m)) ∧ BW w' w'') := fun w' k => great_any r m w' (h.bw k)
  have HN : Hid (∀ w', BW w w' → Calls Tryd.prog 10 #[r.v] w' fun e w'' => e = .returned (.bool (mayB m)) ∧ BW w' w'') := fun w' k => refMay_any r m w' (h.bw k) (hv.bw k)
  have HA : Hid (∀ w', BW w w' → Calls Tryd.prog 8 #[] w' fun e w'' => e = .returned (.bool true) ∧ BW w' w'') := fun w' k => awake_any w' (hv.bw k)
  obtain ⟨ia, il, ic, ta, tl, tc, pa, pl, pc, ha, hl, hc⟩ := r
  clear h hv
  generalize gr m = q1 at *
  generalize mayB m = q2 at *
  cases q1 with
  | true =>
    clear hbad
    go_enter Tryd.func6, Tryd.ntmps6
    go_wp2_with (first
      | (go_at_call 7; refine (HG.out _ (by repeat (first | exact BW.refl _ | assumption | apply BW.alloc | apply BW.drewN | apply BW.drew | (refine BW.setCell ?_ (by first | omega | (simp; done) | (simp; omega)) _) | (refine BW.trans ?_ (by assumption))))).mono ?_; rintro e w1 ⟨rfl, b1⟩; obtain ⟨⟨g0, g1, g2, g3⟩, gz, gb⟩ := bxM_at (r := ⟨ia, il, ic, ta, tl, tc, pa, pl, pc, ha, hl, hc⟩) b1; dsimp only at g0 g1 g2 g3)
      | (go_at_call 8; refine (HA.out _ (by repeat (first | exact BW.refl _ | assumption | apply BW.alloc | apply BW.drewN | apply BW.drew | (refine BW.setCell ?_ (by first | omega | (simp; done) | (simp; omega)) _) | (refine BW.trans ?_ (by assumption))))).mono ?_; rintro e w3 ⟨rfl, b3⟩))
    go_ret
    exact ⟨rfl, (by repeat (first | exact BW.refl _ | assumption | apply BW.alloc | apply BW.drewN | apply BW.drew | (refine BW.setCell ?_ (by first | omega | (simp; done) | (simp; omega)) _) | (refine BW.trans ?_ (by assumption))))⟩
  | false =>
    cases q2 with
    | false =>
      clear hbad
      go_enter Tryd.func6, Tryd.ntmps6
      go_wp2_with (first
        | (go_at_call 7; refine (HG.out _ (by repeat (first | exact BW.refl _ | assumption | apply BW.alloc | apply BW.drewN | apply BW.drew | (refine BW.setCell ?_ (by first | omega | (simp; done) | (simp; omega)) _) | (refine BW.trans ?_ (by assumption))))).mono ?_; rintro e w1 ⟨rfl, b1⟩; obtain ⟨⟨g0, g1, g2, g3⟩, gz, gb⟩ := bxM_at (r := ⟨ia, il, ic, ta, tl, tc, pa, pl, pc, ha, hl, hc⟩) b1; dsimp only at g0 g1 g2 g3)
        | (go_at_call 10; refine (HN.out _ (by assumption)).mono ?_; rintro e w2 ⟨rfl, b2⟩; have gb2 := gb.trans b2)
        | (go_at_call 8; refine (HA.out _ (by repeat (first | exact BW.refl _ | assumption | apply BW.alloc | apply BW.drewN | apply BW.drew | (refine BW.setCell ?_ (by first | omega | (simp; done) | (simp; omega)) _) | (refine BW.trans ?_ (by assumption))))).mono ?_; rintro e w3 ⟨rfl, b3⟩))
      go_ret
      exact ⟨rfl, (by repeat (first | exact BW.refl _ | assumption | apply BW.alloc | apply BW.drewN | apply BW.drew | (refine BW.setCell ?_ (by first | omega | (simp; done) | (simp; omega)) _) | (refine BW.trans ?_ (by assumption))))⟩
    | true =>
      have e1 : decide ((1000 : Int) < (s.size : Int)) = true := by simp at hbad ⊢; omega
      clear hbad
      go_enter Tryd.func6, Tryd.ntmps6
      go_wp2_with (first
        | (go_at_call 7; refine (HG.out _ (by repeat (first | exact BW.refl _ | assumption | apply BW.alloc | apply BW.drewN | apply BW.drew | (refine BW.setCell ?_ (by first | omega | (simp; done) | (simp; omega)) _) | (refine BW.trans ?_ (by assumption))))).mono ?_; rintro e w1 ⟨rfl, b1⟩; obtain ⟨⟨g0, g1, g2, g3⟩, gz, gb⟩ := bxM_at (r := ⟨ia, il, ic, ta, tl, tc, pa, pl, pc, ha, hl, hc⟩) b1; dsimp only at g0 g1 g2 g3)
        | (go_at_call 10; refine (HN.out _ (by assumption)).mono ?_; rintro e w2 ⟨rfl, b2⟩; have gb2 := gb.trans b2)
        | (go_at_call 8; refine (HA.out _ (by repeat (first | exact BW.refl _ | assumption | apply BW.alloc | apply BW.drewN | apply BW.drew | (refine BW.setCell ?_ (by first | omega | (simp; done) | (simp; omega)) _) | (refine BW.trans ?_ (by assumption))))).mono ?_; rintro e w3 ⟨rfl, b3⟩))
      go_ret
      exact ⟨rfl, (by repeat (first | exact BW.refl _ | assumption | apply BW.alloc | apply BW.drewN | apply BW.drew | (refine BW.setCell ?_ (by first | omega | (simp; done) | (simp; omega)) _) | (refine BW.trans ?_ (by assumption))))⟩

end Go.Proofs.YtogeoaanlkeciaaDoor
