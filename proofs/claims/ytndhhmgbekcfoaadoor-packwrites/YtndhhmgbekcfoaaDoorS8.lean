import Derived.Test.YtndhhmgbekcfoaaDoorS7
namespace Go.Proofs.YtndhhmgbekcfoaaDoor
open Go.RowKit
set_option linter.unusedVariables false
set_option linter.unusedSimpArgs false

set_option maxRecDepth 100000 in
set_option maxHeartbeats 4000000 in
theorem refSame_eq (ia ia' ta ta' pa pa' ha ha' : Option Addr) (il ic ic' tl tc tc' pl pc pc' hl hc hc' : Nat) (a b : Mdl) (w : World) (h1 : ModAt w ⟨ia, il, ic, ta, tl, tc, pa, pl, pc, ha, hl, hc⟩ a) (h2 : ModAt w ⟨ia', il, ic', ta', tl, tc', pa', pl, pc', ha', hl, hc'⟩ b) : Calls Tryd.prog 14 #[Mw.v ⟨ia, il, ic, ta, tl, tc, pa, pl, pc, ha, hl, hc⟩, Mw.v ⟨ia', il, ic', ta', tl, tc', pa', pl, pc', ha', hl, hc'⟩] w fun e w' => e = .returned (.bool (smM a b)) ∧ BW w w' := by
  obtain ⟨l1, l2, l3, l4, b1, b2, b3, b4⟩ := h1.lens
  obtain ⟨m1, m2, m3, m4, _⟩ := h2.lens
  dsimp only at l1 l2 l3 l4 b1 b2 b3 b4 m1 m2 m3 m4
  have L : Hid ((a.ints.length = il ∧ a.texts.length = tl ∧ a.pros.length = pl ∧ a.tabs.length = hl) ∧ b.ints.length = il ∧ b.texts.length = tl ∧ b.pros.length = pl ∧ b.tabs.length = hl) := ⟨⟨l1, l2, l3, l4⟩, m1, m2, m3, m4⟩
  have H1 : Hid (ModAt w ⟨ia, il, ic, ta, tl, tc, pa, pl, pc, ha, hl, hc⟩ a) := h1
  have H2 : Hid (ModAt w ⟨ia', il, ic', ta', tl, tc', pa', pl, pc', ha', hl, hc'⟩ b) := h2
  have p0 : ((il : Int) == (il : Int)) = true := by simp
  have p1 : ((tl : Int) == (tl : Int)) = true := by simp
  have p2 : ((pl : Int) == (pl : Int)) = true := by simp
  have p3 : ((hl : Int) == (hl : Int)) = true := by simp
  clear h1 h2 l1 l2 l3 l4 m1 m2 m3 m4
  go_enter Tryd.func14, Tryd.ntmps14
  go_wp2_with (fail)
  go_loopw [49] (fun i w' => ∃ k : Nat, k ≤ il ∧ Hid (((a.ints.zip b.ints).take k).all (fun p => eqI p.1 p.2) = true) ∧ i = .int .i64 k ∧ BW (bxM (bxM w ⟨ia, il, ic, ta, tl, tc, pa, pl, pc, ha, hl, hc⟩) ⟨ia', il, ic', ta', tl, tc', pa', pl, pc', ha', hl, hc'⟩) w') (fun i _ => il - (intOf i).toNat)
  case atStart => exact ⟨0, Nat.zero_le _, by simp [Hid], rfl, by first | assumption | exact (by repeat (first | exact BW.refl _ | apply BW.alloc | apply BW.drewN | apply BW.drew))⟩
  case round =>
    obtain ⟨k, hk, HA, rfl, hb1⟩ := hrel
    obtain ⟨⟨g0, g1, g2, g3⟩, ⟨f0, f1, f2, f3⟩, gz, hb⟩ := bxMM_at hb1
    dsimp only at g0 g1 g2 g3 f0 f1 f2 f3
    by_cases hlt : k < il
    · obtain ⟨b1, off, x, rfl, hbl, hx, _, hc1⟩ := IntsAt.get H1.out.ints hlt
      obtain ⟨b2, off', y, rfl, hbl', hy, _, hc2⟩ := IntsAt.get H2.out.ints hlt
      have d1 := (hb.cells b1 _ hbl).trans hc1
      have d2 := (hb.cells b2 _ hbl').trans hc2
      by_cases he : eqI x y = true
      · have HS : Hid (((a.ints.zip b.ints).take (k + 1)).all (fun p => eqI p.1 p.2) = true) := by
          show _ = _
          rw [all_snoc _ (zip_get hx hy), HA.out]
          simpa using he
        have e0 : x = y := by simpa [eqI] using he
        subst e0
        have e1 : (x != x) = false := by simp
        clear hx hy he HA
        go_wp2_with (fail)
        go_quiet (fail)
        go_wp2_with (fail)
        all_goals (go_roundw; (case rel => exact ⟨k + 1, by omega, HS, by go_num, (by repeat (first | exact BW.refl _ | assumption | apply BW.alloc | apply BW.drewN | apply BW.drew | (refine BW.setCell ?_ (by first | omega | (simp; done) | (simp; omega)) _) | (refine BW.trans ?_ (by assumption))))⟩); (case measure => simp [intOf]; omega))
      · have HS : Hid (eqL eqI a.ints b.ints = false) := eqL_miss eqI hx hy (by simpa using he)
        have e0 : ¬ x = y := by simpa [eqI] using he
        have e1 : (x != y) = true := by simpa using e0
        clear hx hy he HA
        go_wp2_with (fail)
        go_quiet (fail)
        go_wp2_with (fail)
        all_goals (go_ret; exact ⟨by unfold smM; rw [HS.out]; simp, BW.trans hb (by repeat (first | exact BW.refl _ | assumption | apply BW.alloc | apply BW.drewN | apply BW.drew | (refine BW.setCell ?_ (by first | omega | (simp; done) | (simp; omega)) _) | (refine BW.trans ?_ (by assumption))))⟩)
    · have HS49 : Hid (eqL eqI a.ints b.ints = true) := eqL_all eqI (by have := L.out; omega) (by have := L.out; omega) HA.out
      obtain rfl : il = k := by omega
      clear HA
      go_wp2_with (fail)
      go_loopw [67] (fun i w' => ∃ k : Nat, k ≤ tl ∧ Hid (((a.texts.zip b.texts).take k).all (fun p => eqS p.1 p.2) = true) ∧ i = .int .i64 k ∧ BW (bxM (bxM w ⟨ia, il, ic, ta, tl, tc, pa, pl, pc, ha, hl, hc⟩) ⟨ia', il, ic', ta', tl, tc', pa', pl, pc', ha', hl, hc'⟩) w') (fun i _ => tl - (intOf i).toNat)
      case atStart => exact ⟨0, Nat.zero_le _, by simp [Hid], rfl, by first | assumption | exact (by repeat (first | exact BW.refl _ | apply BW.alloc | apply BW.drewN | apply BW.drew))⟩
      case round =>
        obtain ⟨k, hk, HA, rfl, hb1⟩ := hrel
        obtain ⟨⟨g0, g1, g2, g3⟩, ⟨f0, f1, f2, f3⟩, gz, hb⟩ := bxMM_at hb1
        dsimp only at g0 g1 g2 g3 f0 f1 f2 f3
        by_cases hlt : k < tl
        · obtain ⟨b1, off, x, rfl, hbl, hx, _, hc1⟩ := StrsAt.get H1.out.texts hlt
          obtain ⟨b2, off', y, rfl, hbl', hy, _, hc2⟩ := StrsAt.get H2.out.texts hlt
          have d1 := (hb.cells b1 _ hbl).trans hc1
          have d2 := (hb.cells b2 _ hbl').trans hc2
          by_cases he : eqS x y = true
          · have HS : Hid (((a.texts.zip b.texts).take (k + 1)).all (fun p => eqS p.1 p.2) = true) := by
              show _ = _
              rw [all_snoc _ (zip_get hx hy), HA.out]
              simpa using he
            have e0 : x = y := by simpa [eqS] using he
            subst e0
            have e1 : (x.toList != x.toList) = false := by simp
            clear hx hy he HA
            go_wp2_with (fail)
            go_quiet (fail)
            go_wp2_with (fail)
            all_goals (go_roundw; (case rel => exact ⟨k + 1, by omega, HS, by go_num, (by repeat (first | exact BW.refl _ | assumption | apply BW.alloc | apply BW.drewN | apply BW.drew | (refine BW.setCell ?_ (by first | omega | (simp; done) | (simp; omega)) _) | (refine BW.trans ?_ (by assumption))))⟩); (case measure => simp [intOf]; omega))
          · have HS : Hid (eqL eqS a.texts b.texts = false) := eqL_miss eqS hx hy (by simpa using he)
            have e0 : ¬ x = y := by simpa [eqS] using he
            have e2 : ¬ x.toList = y.toList := fun e => e0 ((bytes_eq' x y).1 e)
            have e3 : (x.toList == y.toList) = false := by simpa using e2
            have e1 : (x.toList != y.toList) = true := by simpa using e2
            clear hx hy he HA
            go_wp2_with (fail)
            go_quiet (fail)
            go_wp2_with (fail)
            all_goals (go_ret; exact ⟨by unfold smM; rw [HS.out]; simp, BW.trans hb (by repeat (first | exact BW.refl _ | assumption | apply BW.alloc | apply BW.drewN | apply BW.drew | (refine BW.setCell ?_ (by first | omega | (simp; done) | (simp; omega)) _) | (refine BW.trans ?_ (by assumption))))⟩)
        · have HS67 : Hid (eqL eqS a.texts b.texts = true) := eqL_all eqS (by have := L.out; omega) (by have := L.out; omega) HA.out
          obtain rfl : tl = k := by omega
          clear HA
          go_wp2_with (fail)
          go_loopw [85] (fun i w' => ∃ k : Nat, k ≤ pl ∧ Hid (((a.pros.zip b.pros).take k).all (fun p => smP p.1 p.2) = true) ∧ i = .int .i64 k ∧ BW (bxM (bxM w ⟨ia, il, ic, ta, tl, tc, pa, pl, pc, ha, hl, hc⟩) ⟨ia', il, ic', ta', tl, tc', pa', pl, pc', ha', hl, hc'⟩) w') (fun i _ => pl - (intOf i).toNat)
          case atStart => exact ⟨0, Nat.zero_le _, by simp [Hid], rfl, by first | assumption | exact (by repeat (first | exact BW.refl _ | apply BW.alloc | apply BW.drewN | apply BW.drew))⟩
          case round =>
            obtain ⟨k, hk, HA, rfl, hb1⟩ := hrel
            obtain ⟨⟨g0, g1, g2, g3⟩, ⟨f0, f1, f2, f3⟩, gz, hb⟩ := bxMM_at hb1
            dsimp only at g0 g1 g2 g3 f0 f1 f2 f3
            by_cases hlt : k < pl
            · obtain ⟨b1, off, x, rfl, hbl, hx, ca, cl, cc, hc1, hv1⟩ := RowAt.get H1.out.pros hlt
              obtain ⟨b2, off', y, rfl, hbl', hy, cb, dl, dc, hc2, hv2⟩ := RowAt.get H2.out.pros hlt
              obtain ⟨d0, d1, d2, d3⟩ := hc1.bw hb hbl
              obtain ⟨j0, j1, j2, j3⟩ := hc2.bw hb hbl'
              have HC : Hid (∀ w', BW wr w' → Calls Tryd.prog 24 #[prv x.p x.s x.u ca cl cc, prv y.p y.s y.u cb dl dc] w' fun e w'' => e = .returned (.bool (smP x y)) ∧ BW w' w'') := fun w' k => refSameP_any x y ca cb cl cc dl dc w' (hv1.bw (BW.trans hb k)) (hv2.bw (BW.trans hb k))
              by_cases he : smP x y = true
              · have HS : Hid (((a.pros.zip b.pros).take (k + 1)).all (fun p => smP p.1 p.2) = true) := by
                  show _ = _
                  rw [all_snoc _ (zip_get hx hy), HA.out]
                  simpa using he
                rw [he] at HC
                clear hx hy he HA hv1 hv2 hc1 hc2
                go_wp2_with (fail)
                go_region_with (first | (go_at_call 24; refine (HC.out _ (by repeat (first | exact BW.refl _ | assumption | apply BW.alloc | apply BW.drewN | apply BW.drew | (refine BW.setCell ?_ (by first | omega | (simp; done) | (simp; omega)) _) | (refine BW.trans ?_ (by assumption))))).mono ?_; rintro e w1 ⟨rfl, b1⟩))
                all_goals (go_wp2_with (fail))
                all_goals (go_roundw; (case rel => exact ⟨k + 1, by omega, HS, by go_num, (by repeat (first | exact BW.refl _ | assumption | apply BW.alloc | apply BW.drewN | apply BW.drew | (refine BW.setCell ?_ (by first | omega | (simp; done) | (simp; omega)) _) | (refine BW.trans ?_ (by assumption))))⟩); (case measure => simp [intOf]; omega))
              · have HS : Hid (eqL smP a.pros b.pros = false) := eqL_miss smP hx hy (by simpa using he)
                have he2 : smP x y = false := by simpa using he
                rw [he2] at HC
                clear hx hy he he2 HA hv1 hv2 hc1 hc2
                go_wp2_with (fail)
                go_region_with (first | (go_at_call 24; refine (HC.out _ (by repeat (first | exact BW.refl _ | assumption | apply BW.alloc | apply BW.drewN | apply BW.drew | (refine BW.setCell ?_ (by first | omega | (simp; done) | (simp; omega)) _) | (refine BW.trans ?_ (by assumption))))).mono ?_; rintro e w1 ⟨rfl, b1⟩))
                all_goals (go_wp2_with (fail))
                all_goals (go_ret; exact ⟨by unfold smM; rw [HS.out]; simp, BW.trans hb (by repeat (first | exact BW.refl _ | assumption | apply BW.alloc | apply BW.drewN | apply BW.drew | (refine BW.setCell ?_ (by first | omega | (simp; done) | (simp; omega)) _) | (refine BW.trans ?_ (by assumption))))⟩)
            · have HS85 : Hid (eqL smP a.pros b.pros = true) := eqL_all smP (by have := L.out; omega) (by have := L.out; omega) HA.out
              obtain rfl : pl = k := by omega
              clear HA
              go_wp2_with (fail)
              go_loopw [104] (fun i w' => ∃ k : Nat, k ≤ hl ∧ Hid (((a.tabs.zip b.tabs).take k).all (fun p => smT p.1 p.2) = true) ∧ i = .int .i64 k ∧ BW (bxM (bxM w ⟨ia, il, ic, ta, tl, tc, pa, pl, pc, ha, hl, hc⟩) ⟨ia', il, ic', ta', tl, tc', pa', pl, pc', ha', hl, hc'⟩) w') (fun i _ => hl - (intOf i).toNat)
              case atStart => exact ⟨0, Nat.zero_le _, by simp [Hid], rfl, by first | assumption | exact (by repeat (first | exact BW.refl _ | apply BW.alloc | apply BW.drewN | apply BW.drew))⟩
              case round =>
                obtain ⟨k, hk, HA, rfl, hb1⟩ := hrel
                obtain ⟨⟨g0, g1, g2, g3⟩, ⟨f0, f1, f2, f3⟩, gz, hb⟩ := bxMM_at hb1
                dsimp only at g0 g1 g2 g3 f0 f1 f2 f3
                by_cases hlt : k < hl
                · obtain ⟨b1, off, x, rfl, hbl, hx, ca, cl, cc, hc1, hv1⟩ := RowAt.get H1.out.tabs hlt
                  obtain ⟨b2, off', y, rfl, hbl', hy, cb, dl, dc, hc2, hv2⟩ := RowAt.get H2.out.tabs hlt
                  obtain ⟨d0, d1, d2⟩ := hc1.bw hb hbl
                  obtain ⟨j0, j1, j2⟩ := hc2.bw hb hbl'
                  have hbw : b1 < wr.heap.size := by have := hb.size; omega
                  have hbw' : b2 < wr.heap.size := by have := hb.size; omega
                  have hgw : w.heap.size < wr.heap.size := by omega
                  have V1 : Hid (IntsAt w ca cl x.ops) := hv1.2.2.2
                  have V2 : Hid (IntsAt w cb dl y.ops) := hv2.2.2.2
                  have hvl : x.ops.length = cl := hv1.2.2.2.1
                  have hvm : y.ops.length = dl := hv2.2.2.2.1
                  have hcl := hv1.2.2.1
                  have hcd := hv2.2.2.1
                  have HX : Hid (∀ q, smT x y = q → q = false → eqL smT a.tabs b.tabs = false) := fun q e1 e2 => eqL_miss smT hx hy (by rw [e1, e2])
                  have HY : Hid (smT x y = true → ((a.tabs.zip b.tabs).take (k + 1)).all (fun p => smT p.1 p.2) = true) := fun he => by rw [all_snoc _ (zip_get hx hy), HA.out]; simpa using he
                  clear hc1 hc2 hv1 hv2 hx hy HA
                  by_cases h1 : cl = dl
                  · subst h1
                    have z1 : ((cl : Int) == (cl : Int)) = true := by simp
                    by_cases h2 : x.ret = y.ret
                    · have z2 : (x.ret == y.ret) = true := by simpa using h2
                      by_cases h3 : x.fin = y.fin
                      · have z3 : (x.fin == y.fin) = true := by simpa using h3
                        have HZ : Hid (smT x y = eqL eqI x.ops y.ops) := by show _ = _; simp [smT, h2, h3]
                        have VL : Hid (x.ops.length = cl ∧ y.ops.length = cl) := ⟨hvl, hvm⟩
                        clear h2 h3 hvl hvm
                        go_wp2_with (fail)
                        go_loopw [141] (fun i w' => ∃ j : Nat, j ≤ cl ∧ Hid (((x.ops.zip y.ops).take j).all (fun p => eqI p.1 p.2) = true) ∧ i = .int .i64 j ∧ BW (bxT (bxT wr x ca cl cc) y cb cl dc) w') (fun i _ => cl - (intOf i).toNat)
                        case atStart => exact ⟨0, Nat.zero_le _, by simp [Hid], rfl, (by repeat (first | exact BW.refl _ | apply BW.alloc | apply BW.drewN | apply BW.drew))⟩
                        case round =>
                          rename_i wq _
                          obtain ⟨j, hj, HB, rfl, hb2⟩ := hrel
                          obtain ⟨⟨t0, t1, t2⟩, ⟨s0, s1, s2⟩, tz, tb⟩ := bxTT_at hb2
                          by_cases hlt2 : j < cl
                          · obtain ⟨b5, of5, u, rfl, hbl5, hu, _, hc5⟩ := IntsAt.get V1.out hlt2
                            obtain ⟨b6, of6, v, rfl, hbl6, hv, _, hc6⟩ := IntsAt.get V2.out hlt2
                            have c5 := ((BW.trans hb tb).cells b5 (of5 + j) hbl5).trans hc5
                            have c6 := ((BW.trans hb tb).cells b6 (of6 + j) hbl6).trans hc6
                            by_cases he : eqI u v = true
                            · have HS : Hid (((x.ops.zip y.ops).take (j + 1)).all (fun p => eqI p.1 p.2) = true) := by
                                show _ = _
                                rw [all_snoc _ (zip_get hu hv), HB.out]
                                simpa using he
                              have e0 : u = v := by simpa [eqI] using he
                              subst e0
                              have e1 : (u != u) = false := by simp
                              clear hu hv he HB
                              go_wp2_with (fail)
                              go_quiet (fail)
                              go_wp2_with (fail)
                              go_roundw
                              case rel => exact ⟨j + 1, by omega, HS, by go_num, (by repeat (first | exact BW.refl _ | assumption | apply BW.alloc | apply BW.drewN | apply BW.drew | (refine BW.setCell ?_ (by first | omega | (simp; done) | (simp; omega)) _) | (refine BW.trans ?_ (by assumption))))⟩
                              case measure => simp [intOf]; omega
                            · have HS : Hid (eqL eqI x.ops y.ops = false) := eqL_miss eqI hu hv (by simpa using he)
                              have e0 : ¬ u = v := by simpa [eqI] using he
                              have e1 : (u != v) = true := by simpa using e0
                              clear hu hv he HB
                              go_wp2_with (fail)
                              go_quiet (fail)
                              go_wp2_with (fail)
                              go_ret
                              exact ⟨by unfold smM; rw [HX.out _ rfl (HZ.out.trans HS.out)]; simp, BW.trans hb (BW.trans tb (by repeat (first | exact BW.refl _ | assumption | apply BW.alloc | apply BW.drewN | apply BW.drew | (refine BW.setCell ?_ (by first | omega | (simp; done) | (simp; omega)) _) | (refine BW.trans ?_ (by assumption)))))⟩
                          · have HS : Hid (((a.tabs.zip b.tabs).take (k + 1)).all (fun p => smT p.1 p.2) = true) := HY.out (HZ.out.trans (eqL_all eqI (VL.out.1.trans VL.out.2.symm) (by have := VL.out; omega) HB.out))
                            have e0 : cl = j := by omega
                            subst e0
                            clear HB HX HY
                            go_wp2_with (fail)
                            go_roundw
                            case rel => exact ⟨k + 1, by omega, HS, by go_num, BW.trans hb1 tb⟩
                            case measure => simp [intOf]; omega
                      · have z3 : (x.fin == y.fin) = false := by simpa using h3
                        have HS : Hid (eqL smT a.tabs b.tabs = false) := HX.out _ rfl (by simp [smT, h3])
                        clear h2 h3 hvl hvm HX HY
                        go_wp2_with (fail)
                        go_ret
                        exact ⟨by unfold smM; rw [HS.out]; simp, BW.trans hb (by repeat (first | exact BW.refl _ | assumption | apply BW.alloc | apply BW.drewN | apply BW.drew | (refine BW.setCell ?_ (by first | omega | (simp; done) | (simp; omega)) _) | (refine BW.trans ?_ (by assumption))))⟩
                    · have z2 : (x.ret == y.ret) = false := by simpa using h2
                      have HS : Hid (eqL smT a.tabs b.tabs = false) := HX.out _ rfl (by simp [smT, h2])
                      clear h2 hvl hvm HX HY
                      go_wp2_with (fail)
                      go_ret
                      exact ⟨by unfold smM; rw [HS.out]; simp, BW.trans hb (by repeat (first | exact BW.refl _ | assumption | apply BW.alloc | apply BW.drewN | apply BW.drew | (refine BW.setCell ?_ (by first | omega | (simp; done) | (simp; omega)) _) | (refine BW.trans ?_ (by assumption))))⟩
                  · have z1 : ((cl : Int) == (dl : Int)) = false := by simp; omega
                    have z2 : ¬ (cl : Int) = (dl : Int) := by omega
                    have HS : Hid (eqL smT a.tabs b.tabs = false) := HX.out _ rfl (by unfold smT; rw [eqL_len eqI (by omega)]; simp)
                    clear h1 hvl hvm HX HY
                    go_wp2_with (fail)
                    go_ret
                    exact ⟨by unfold smM; rw [HS.out]; simp, BW.trans hb (by repeat (first | exact BW.refl _ | assumption | apply BW.alloc | apply BW.drewN | apply BW.drew | (refine BW.setCell ?_ (by first | omega | (simp; done) | (simp; omega)) _) | (refine BW.trans ?_ (by assumption))))⟩
                · have HS104 : Hid (eqL smT a.tabs b.tabs = true) := eqL_all smT (by have := L.out; omega) (by have := L.out; omega) HA.out
                  obtain rfl : hl = k := by omega
                  clear HA
                  go_wp2_with (fail)
                  go_ret
                  exact ⟨by unfold smM; rw [HS49.out, HS67.out, HS85.out, HS104.out]; rfl, BW.trans hb (by repeat (first | exact BW.refl _ | assumption | apply BW.alloc | apply BW.drewN | apply BW.drew | (refine BW.setCell ?_ (by first | omega | (simp; done) | (simp; omega)) _) | (refine BW.trans ?_ (by assumption))))⟩

end Go.Proofs.YtndhhmgbekcfoaaDoor
