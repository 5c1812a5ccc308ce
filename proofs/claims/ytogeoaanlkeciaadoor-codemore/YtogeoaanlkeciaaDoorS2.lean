import Derived.Test.YtogeoaanlkeciaaDoorS1
namespace Go.Proofs.YtogeoaanlkeciaaDoor
open Go.RowKit
set_option linter.unusedVariables false
set_option linter.unusedSimpArgs false

set_option maxRecDepth 100000 in
set_option maxHeartbeats 4000000 in
theorem eqCode_any (ao bo : Option Addr) (ln lc mn mc : Nat) (l m : List Ins) (w : World) (h1 : CodeAt w ao ln l) (h2 : CodeAt w bo mn m) (hc : ln ≤ 9223372036854775807) (hd : mn ≤ 9223372036854775807) : Calls Tryd.prog 53 #[.slice ao ln lc, .slice bo mn mc] w fun e w' => e = .returned (.bool (eqL eqN l m)) ∧ BW w w' := by
  have H1 : Hid (CodeAt w ao ln l) := h1
  have H2 : Hid (CodeAt w bo mn m) := h2
  have hl : Hid (l.length = ln) := h1.1
  have hm : Hid (m.length = mn) := h2.1
  clear h1 h2
  by_cases hne : ln = mn
  · subst hne
    go_enter Tryd.func53, Tryd.ntmps53
    go_wp2_with (fail)
    go_loopw [13] (fun i w' => ∃ k : Nat, k ≤ ln ∧ Hid (((l.zip m).take k).all (fun p => eqN p.1 p.2) = true) ∧ i = .int .i64 k ∧ BW w w') (fun i _ => ln - (intOf i).toNat)
    case atStart => exact ⟨0, Nat.zero_le _, by simp [Hid], rfl, (by repeat (first | exact BW.refl _ | apply BW.alloc | apply BW.drewN | apply BW.drew))⟩
    case round =>
      obtain ⟨k, hk, HA, rfl, hb⟩ := hrel
      by_cases hlt : k < ln
      · obtain ⟨b, off, x, rfl, hbl, hx, hc1⟩ := RowAt.get H1.out hlt
        obtain ⟨b', off', y, rfl, hbl', hy, hc2⟩ := RowAt.get H2.out hlt
        obtain ⟨d1, d2, _⟩ := hc1.bw hb _ _ _ hbl
        obtain ⟨d3, d4, _⟩ := hc2.bw hb _ _ _ hbl'
        have hz := hb.size
        by_cases he : eqN x y = true
        · have HS : Hid (((l.zip m).take (k + 1)).all (fun p => eqN p.1 p.2) = true) := by
            show _ = _
            rw [all_snoc _ (zip_get hx hy), HA.out]
            simpa using he
          have e0 : x = y := by obtain ⟨x1, x2⟩ := x; obtain ⟨y1, y2⟩ := y; simpa [eqN] using he
          subst e0
          have q1 : (x.op == x.op) = true := by simp
          have q2 : (x.a == x.a) = true := by simp
          clear hx hy he HA
          go_wp2_with (fail)
          go_quiet (fail)
          go_wp2_with (fail)
          go_roundw
          case rel => exact ⟨k + 1, by omega, HS, by go_num, (by repeat (first | exact BW.refl _ | assumption | apply BW.alloc | apply BW.drewN | apply BW.drew | (refine BW.setCell ?_ (by first | omega | (simp; done) | (simp; omega)) _) | (refine BW.trans ?_ (by assumption))))⟩
          case measure => simp [intOf]; omega
        · have HS : Hid (eqL eqN l m = false) := eqL_miss eqN hx hy (by simpa using he)
          have e0 : (x.op == y.op) = false ∨ ((x.op == y.op) = true ∧ (x.a == y.a) = false) := by
            cases h1 : (x.op == y.op) <;> cases h2 : (x.a == y.a) <;> simp_all [eqN]
          clear hx hy he HA
          rcases e0 with e1 | ⟨e1, e2⟩
          · go_wp2_with (fail)
            go_quiet (fail)
            go_wp2_with (fail)
            go_ret
            exact ⟨by rw [HS.out]; rfl, (by repeat (first | exact BW.refl _ | assumption | apply BW.alloc | apply BW.drewN | apply BW.drew | (refine BW.setCell ?_ (by first | omega | (simp; done) | (simp; omega)) _) | (refine BW.trans ?_ (by assumption))))⟩
          · go_wp2_with (fail)
            go_quiet (fail)
            go_wp2_with (fail)
            go_ret
            exact ⟨by rw [HS.out]; rfl, (by repeat (first | exact BW.refl _ | assumption | apply BW.alloc | apply BW.drewN | apply BW.drew | (refine BW.setCell ?_ (by first | omega | (simp; done) | (simp; omega)) _) | (refine BW.trans ?_ (by assumption))))⟩
      · have HS : Hid (eqL eqN l m = true) := eqL_all eqN (hl.out.trans hm.out.symm) (by have := hl.out; omega) HA.out
        obtain rfl : ln = k := by omega
        go_wp2_with (fail)
        go_ret
        exact ⟨by rw [HS.out]; rfl, (by repeat (first | exact BW.refl _ | assumption | apply BW.alloc | apply BW.drewN | apply BW.drew | (refine BW.setCell ?_ (by first | omega | (simp; done) | (simp; omega)) _) | (refine BW.trans ?_ (by assumption))))⟩
  · have HS : Hid (eqL eqN l m = false) := eqL_len eqN (by have := hl.out; have := hm.out; omega)
    have q1 : ((ln : Int) != (mn : Int)) = true := by simp; omega
    have q2 : ¬ (ln : Int) = (mn : Int) := by omega
    clear hl hm
    go_enter Tryd.func53, Tryd.ntmps53
    go_wp2_with (fail)
    go_ret
    exact ⟨by rw [HS.out]; rfl, (by repeat (first | exact BW.refl _ | assumption | apply BW.alloc | apply BW.drewN | apply BW.drew | (refine BW.setCell ?_ (by first | omega | (simp; done) | (simp; omega)) _) | (refine BW.trans ?_ (by assumption))))⟩

end Go.Proofs.YtogeoaanlkeciaaDoor
