import Derived.Test.YtndhhmgbekcfoaaDoorM9
namespace Go.Proofs.YtndhhmgbekcfoaaDoor
open Go.RowKit
set_option linter.unusedVariables false
set_option linter.unusedSimpArgs false

theorem mayB_fit {m : Mdl} (h : fitB m = false) : mayB m = false := by simp [mayB, h]
theorem mayB_beg {m : Mdl} (h : begB m = false) : mayB m = false := by simp [mayB, h]
theorem mayB_txt {m : Mdl} (h : m.texts.any (fun s => decide (65536 < s.size)) = true) : mayB m = false := by unfold mayB; rw [h]; simp
theorem mayB_tab {m : Mdl} (h : m.tabs.any (fun t => !tbB m t) = true) : mayB m = false := by unfold mayB; rw [h]; simp
theorem prB_bad {m : Mdl} {x : Pro} (h : x.p < 0 ∨ 200 < x.p ∨ x.u < 0 ∨ 200 < x.u ∨ x.s < x.p + 1 ∨ 256 < x.s) : prB m x = false := by
  cases hh : prB m x with
  | false => rfl
  | true =>
    unfold prB inR at hh
    simp only [Bool.and_eq_true, Bool.not_eq_true', decide_eq_true_eq, decide_eq_false_iff_not] at hh
    omega
theorem mayB_pro {m : Mdl} (h : m.pros.any (fun x => !prB m x) = true) : mayB m = false := by unfold mayB; rw [h]; simp
set_option maxRecDepth 100000 in
set_option maxHeartbeats 4000000 in
theorem refMay_any (r : Mw) (m : Mdl) (w : World) (h : ModAt w r m) (hv : Vs w) : Calls Tryd.prog 11 #[r.v] w fun e w' => e = .returned (.bool (mayB m)) ∧ BW w w' := by
  obtain ⟨l1, l2, l3, l4, b1, b2, b3, b4⟩ := h.lens
  have H : Hid (ModAt w r m) := h
  obtain ⟨ia, il, ic, ta, tl, tc, pa, pl, pc, ha, hl, hc⟩ := r
  dsimp only at l1 l2 l3 l4 b1 b2 b3 b4
  have L : Hid (m.ints.length = il ∧ m.texts.length = tl ∧ m.pros.length = pl ∧ m.tabs.length = hl) := ⟨l1, l2, l3, l4⟩
  by_cases cil : 4096 < il
  · have eil : decide ((4096 : Int) < (il : Int)) = true := by simp; omega
    have HR : Hid (mayB m = false) := mayB_fit (by have : ¬ il ≤ 4096 := by omega
                                                   simp [fitB, l1, l2, l3, l4, this])
    clear h hv l1 l2 l3 l4 cil
    go_enter Tryd.func11, Tryd.ntmps11
    go_wp2_with (fail)
    go_ret
    exact ⟨by rw [HR.out]; rfl, (by repeat (first | exact BW.refl _ | assumption | apply BW.alloc | apply BW.drewN | apply BW.drew | (refine BW.setCell ?_ (by first | omega | (simp; done) | (simp; omega)) _) | (refine BW.trans ?_ (by assumption))))⟩
  have eil : decide ((4096 : Int) < (il : Int)) = false := by simp; omega
  by_cases ctl : 4096 < tl
  · have etl : decide ((4096 : Int) < (tl : Int)) = true := by simp; omega
    have HR : Hid (mayB m = false) := mayB_fit (by have : ¬ tl ≤ 4096 := by omega
                                                   simp [fitB, l1, l2, l3, l4, this])
    clear h hv l1 l2 l3 l4 ctl
    go_enter Tryd.func11, Tryd.ntmps11
    go_wp2_with (fail)
    go_ret
    exact ⟨by rw [HR.out]; rfl, (by repeat (first | exact BW.refl _ | assumption | apply BW.alloc | apply BW.drewN | apply BW.drew | (refine BW.setCell ?_ (by first | omega | (simp; done) | (simp; omega)) _) | (refine BW.trans ?_ (by assumption))))⟩
  have etl : decide ((4096 : Int) < (tl : Int)) = false := by simp; omega
  by_cases cpl : 4096 < pl
  · have epl : decide ((4096 : Int) < (pl : Int)) = true := by simp; omega
    have HR : Hid (mayB m = false) := mayB_fit (by have : ¬ pl ≤ 4096 := by omega
                                                   simp [fitB, l1, l2, l3, l4, this])
    clear h hv l1 l2 l3 l4 cpl
    go_enter Tryd.func11, Tryd.ntmps11
    go_wp2_with (fail)
    go_ret
    exact ⟨by rw [HR.out]; rfl, (by repeat (first | exact BW.refl _ | assumption | apply BW.alloc | apply BW.drewN | apply BW.drew | (refine BW.setCell ?_ (by first | omega | (simp; done) | (simp; omega)) _) | (refine BW.trans ?_ (by assumption))))⟩
  have epl : decide ((4096 : Int) < (pl : Int)) = false := by simp; omega
  by_cases chl : 4096 < hl
  · have ehl : decide ((4096 : Int) < (hl : Int)) = true := by simp; omega
    have HR : Hid (mayB m = false) := mayB_fit (by have : ¬ hl ≤ 4096 := by omega
                                                   simp [fitB, l1, l2, l3, l4, this])
    clear h hv l1 l2 l3 l4 chl
    go_enter Tryd.func11, Tryd.ntmps11
    go_wp2_with (fail)
    go_ret
    exact ⟨by rw [HR.out]; rfl, (by repeat (first | exact BW.refl _ | assumption | apply BW.alloc | apply BW.drewN | apply BW.drew | (refine BW.setCell ?_ (by first | omega | (simp; done) | (simp; omega)) _) | (refine BW.trans ?_ (by assumption))))⟩
  have ehl : decide ((4096 : Int) < (hl : Int)) = false := by simp; omega
  by_cases c0 : pl = 0
  · subst c0
    have HR : Hid (mayB m = false) := mayB_beg (by have : m.pros = [] := List.length_eq_zero_iff.1 l3
                                                   simp [begB, this])
    clear h hv l1 l2 l3 l4 cil ctl cpl chl
    go_enter Tryd.func11, Tryd.ntmps11
    go_wp2_with (fail)
    go_ret
    exact ⟨by rw [HR.out]; rfl, (by repeat (first | exact BW.refl _ | assumption | apply BW.alloc | apply BW.drewN | apply BW.drew | (refine BW.setCell ?_ (by first | omega | (simp; done) | (simp; omega)) _) | (refine BW.trans ?_ (by assumption))))⟩
  obtain ⟨bp, op, x0, rfl, hbp, hx0, ca0, cl0, cc0, hK0, _⟩ := RowAt.get h.pros (show 0 < pl by omega)
  obtain ⟨d0, d1, d2, d3⟩ := hK0
  simp only [Nat.zero_mul, Nat.add_zero] at d0 d1 d2 d3
  have e0 : ((pl : Int) == 0) = false := by simp; omega
  have hp0 : 0 < pl := by omega
  have hbeg : begB m = (decide (x0.p = 0) && decide (x0.u = 0)) := by
    cases hm : m.pros with
    | nil => rw [hm] at hx0; simp at hx0
    | cons y q => rw [hm] at hx0; simp at hx0; subst hx0; simp [begB, hm]
  by_cases cp : x0.p = 0
  case neg =>
    have q1 : (x0.p == 0) = false := by simpa using cp
    have q2 : (x0.p != 0) = true := by simpa using cp
    have HR : Hid (mayB m = false) := mayB_beg (by rw [hbeg]; simp [cp])
    clear h hv l1 l2 l3 l4 cil ctl cpl chl c0 hx0 hbeg cp
    go_enter Tryd.func11, Tryd.ntmps11
    go_wp2_with (fail)
    go_ret
    exact ⟨by rw [HR.out]; rfl, (by repeat (first | exact BW.refl _ | assumption | apply BW.alloc | apply BW.drewN | apply BW.drew | (refine BW.setCell ?_ (by first | omega | (simp; done) | (simp; omega)) _) | (refine BW.trans ?_ (by assumption))))⟩
  have q1 : (x0.p == 0) = true := by simpa using cp
  have q2 : (x0.p != 0) = false := by simpa using cp
  by_cases cu : x0.u = 0
  case neg =>
    have q3 : (x0.u == 0) = false := by simpa using cu
    have q4 : (x0.u != 0) = true := by simpa using cu
    have HR : Hid (mayB m = false) := mayB_beg (by rw [hbeg]; simp [cu])
    clear h hv l1 l2 l3 l4 cil ctl cpl chl c0 hx0 hbeg cp cu
    go_enter Tryd.func11, Tryd.ntmps11
    go_wp2_with (fail)
    go_ret
    exact ⟨by rw [HR.out]; rfl, (by repeat (first | exact BW.refl _ | assumption | apply BW.alloc | apply BW.drewN | apply BW.drew | (refine BW.setCell ?_ (by first | omega | (simp; done) | (simp; omega)) _) | (refine BW.trans ?_ (by assumption))))⟩
  have q3 : (x0.u == 0) = true := by simpa using cu
  have q4 : (x0.u != 0) = false := by simpa using cu
  have HB : Hid (fitB m = true ∧ begB m = true) := ⟨by simp [fitB, l1, l2, l3, l4]; omega, by rw [hbeg, cp, cu]; rfl⟩
  have HV : Hid (Vs w) := hv
  clear h hv l1 l2 l3 l4 cil ctl cpl chl c0 hx0 hbeg cp cu
  go_enter Tryd.func11, Tryd.ntmps11
  go_wp2_with (fail)
  go_loopw [55] (fun i w' => ∃ k : Nat, k ≤ tl ∧ i = .int .i64 k ∧ Hid ((m.texts.take k).any (fun s => decide (65536 < s.size)) = false) ∧ BW (bxM w ⟨ia, il, ic, ta, tl, tc, some ⟨bp, op, none⟩, pl, pc, ha, hl, hc⟩) w') (fun i _ => tl - (intOf i).toNat)
  case atStart => exact ⟨0, Nat.zero_le _, rfl, by simp [Hid], by first | assumption | exact (by repeat (first | exact BW.refl _ | apply BW.alloc | apply BW.drewN | apply BW.drew))⟩
  case round =>
    obtain ⟨k, hk, rfl, HA, hb1⟩ := hrel
    obtain ⟨⟨g0, g1, g2, g3⟩, gz, hb⟩ := bxM_at hb1
    dsimp only at g0 g1 g2 g3
    by_cases hlt : k < tl
    · obtain ⟨b, off, y, rfl, hbl, hx, hsz, hc0⟩ := StrsAt.get H.out.texts hlt
      have d5 := (hb.cells b (off + k) hbl).trans hc0
      have hsz2 : y.size ≤ 9223372036854775807 := by unfold maxLen at hsz; omega
      cases hy : (fun s => decide (65536 < s.size)) y with
      | true =>
        have HS : Hid (m.texts.any (fun s => decide (65536 < s.size)) = true) := any_hit _ hx hy
        have e5 : decide ((65536 : Int) < (y.size : Int)) = true := by simp at hy ⊢; omega
        clear hx hy HA hsz
        go_wp2_with (fail)
        go_ret
        exact ⟨by rw [mayB_txt HS.out]; rfl, BW.trans hb (by repeat (first | exact BW.refl _ | assumption | apply BW.alloc | apply BW.drewN | apply BW.drew | (refine BW.setCell ?_ (by first | omega | (simp; done) | (simp; omega)) _) | (refine BW.trans ?_ (by assumption))))⟩
      | false =>
        have HN : Hid ((m.texts.take (k + 1)).any (fun s => decide (65536 < s.size)) = false) := by show _ = _; rw [any_snoc _ hx, HA.out]; exact hy
        have e5 : decide ((65536 : Int) < (y.size : Int)) = false := by simp at hy ⊢; omega
        clear hx hy HA hsz
        go_wp2_with (fail)
        all_goals (go_roundw; (case rel => exact ⟨k + 1, by omega, by go_num, HN, (by repeat (first | exact BW.refl _ | assumption | apply BW.alloc | apply BW.drewN | apply BW.drew | (refine BW.setCell ?_ (by first | omega | (simp; done) | (simp; omega)) _) | (refine BW.trans ?_ (by assumption))))⟩); (case measure => simp [intOf]; omega))
    · have HE55 : Hid (m.texts.any (fun s => decide (65536 < s.size)) = false) := by
        have := HA.out
        rw [List.take_of_length_le (by have := L.out; omega)] at this
        exact this
      have e9 : tl = k := by omega
      subst e9
      clear HA
      go_wp2_with (fail)
      go_loopw [69] (fun i w' => ∃ k : Nat, k ≤ hl ∧ i = .int .i64 k ∧ Hid ((m.tabs.take k).any (fun t => !tbB m t) = false) ∧ BW (bxM w ⟨ia, il, ic, ta, tl, tc, some ⟨bp, op, none⟩, pl, pc, ha, hl, hc⟩) w') (fun i _ => hl - (intOf i).toNat)
      case atStart => exact ⟨0, Nat.zero_le _, rfl, by simp [Hid], by first | assumption | exact (by repeat (first | exact BW.refl _ | apply BW.alloc | apply BW.drewN | apply BW.drew))⟩
      case round =>
        obtain ⟨k, hk, rfl, HA, hb1⟩ := hrel
        obtain ⟨⟨g0, g1, g2, g3⟩, gz, hb⟩ := bxM_at hb1
        dsimp only at g0 g1 g2 g3
        by_cases hlt : k < hl
        · obtain ⟨b, off, y, rfl, hbl, hx, oa, ol, oc, hK, hT⟩ := RowAt.get H.out.tabs hlt
          obtain ⟨d5, d6, d7⟩ := hK.bw hb hbl
          have HC : Hid (∀ w', BW wr w' → Calls Tryd.prog 18 #[Mw.v ⟨ia, il, ic, ta, tl, tc, some ⟨bp, op, none⟩, pl, pc, some ⟨b, off, none⟩, hl, hc⟩, tbv oa ol oc y.ret y.fin] w' fun e w'' => e = .returned (.bool (tbB m y)) ∧ BW w' w'') := fun w' k => refTable_any _ m y oa ol oc w' (H.out.bw (BW.trans hb k)) (hT.bw (BW.trans hb k))
          cases hy : (fun t => !tbB m t) y with
          | true =>
            have HS : Hid (m.tabs.any (fun t => !tbB m t) = true) := any_hit _ hx hy
            have hy2 : tbB m y = false := by simpa using hy
            clear hx hy HA hK hT
            go_wp2_with (fail)
            go_region_with (first | (go_at_call 18; refine (HC.out _ (by repeat (first | exact BW.refl _ | assumption | apply BW.alloc | apply BW.drewN | apply BW.drew | (refine BW.setCell ?_ (by first | omega | (simp; done) | (simp; omega)) _) | (refine BW.trans ?_ (by assumption))))).mono ?_; rw [hy2]; rintro e w1 ⟨rfl, c1⟩))
            all_goals (go_wp2_with (fail))
            all_goals (go_ret; exact ⟨by rw [mayB_tab HS.out]; rfl, BW.trans hb (by repeat (first | exact BW.refl _ | assumption | apply BW.alloc | apply BW.drewN | apply BW.drew | (refine BW.setCell ?_ (by first | omega | (simp; done) | (simp; omega)) _) | (refine BW.trans ?_ (by assumption))))⟩)
          | false =>
            have HN : Hid ((m.tabs.take (k + 1)).any (fun t => !tbB m t) = false) := by show _ = _; rw [any_snoc _ hx, HA.out]; exact hy
            have hy2 : tbB m y = true := by simpa using hy
            clear hx hy HA hK hT
            go_wp2_with (fail)
            go_region_with (first | (go_at_call 18; refine (HC.out _ (by repeat (first | exact BW.refl _ | assumption | apply BW.alloc | apply BW.drewN | apply BW.drew | (refine BW.setCell ?_ (by first | omega | (simp; done) | (simp; omega)) _) | (refine BW.trans ?_ (by assumption))))).mono ?_; rw [hy2]; rintro e w1 ⟨rfl, c1⟩))
            all_goals (go_wp2_with (fail))
            all_goals (go_roundw; (case rel => exact ⟨k + 1, by omega, by go_num, HN, (by repeat (first | exact BW.refl _ | assumption | apply BW.alloc | apply BW.drewN | apply BW.drew | (refine BW.setCell ?_ (by first | omega | (simp; done) | (simp; omega)) _) | (refine BW.trans ?_ (by assumption))))⟩); (case measure => simp [intOf]; omega))
        · have HE69 : Hid (m.tabs.any (fun t => !tbB m t) = false) := by
            have := HA.out
            rw [List.take_of_length_le (by have := L.out; omega)] at this
            exact this
          have e9 : hl = k := by omega
          subst e9
          clear HA
          go_wp2_with (fail)
          go_loopw [84] (fun i w' => ∃ k : Nat, k ≤ pl ∧ i = .int .i64 k ∧ Hid ((m.pros.take k).any (fun x => !prB m x) = false) ∧ BW (bxM w ⟨ia, il, ic, ta, tl, tc, some ⟨bp, op, none⟩, pl, pc, ha, hl, hc⟩) w') (fun i _ => pl - (intOf i).toNat)
          case atStart => exact ⟨0, Nat.zero_le _, rfl, by simp [Hid], by first | assumption | exact (by repeat (first | exact BW.refl _ | apply BW.alloc | apply BW.drewN | apply BW.drew))⟩
          case round =>
            obtain ⟨k, hk, rfl, HA, hb1⟩ := hrel
            obtain ⟨⟨g0, g1, g2, g3⟩, gz, hb⟩ := bxM_at hb1
            dsimp only at g0 g1 g2 g3
            by_cases hlt : k < pl
            · obtain ⟨b, off, x, eb, hbl, hx, ca, cl, cc, hK, hV⟩ := RowAt.get H.out.pros hlt
              simp only [Option.some.injEq, Addr.mk.injEq, and_true] at eb
              obtain ⟨rfl, rfl⟩ := eb
              obtain ⟨d5, d6, d7, d8⟩ := hK.bw hb hbl
              have hbw : bp < wr.heap.size := by have := hb.size; omega
              have hcl : x.code.length = cl := hV.2.2.2.2.2.1
              have hlen := hV.len
              have hgz : w.heap.size < wr.heap.size := gz
              have HBAD : Hid (prB m x = false → mayB m = false) := fun he => mayB_pro (any_hit _ hx (by rw [he]; rfl))
              have HN : Hid (prB m x = true → (m.pros.take (k + 1)).any (fun x => !prB m x) = false) := fun he => by rw [any_snoc _ hx, HA.out, he]; rfl
              have HPV : Hid (PrV w x ca cl cc) := hV
              clear hx HA hK
              by_cases x1 : x.p < 0
              · have zx1 : decide (x.p < 0) = true := by simpa using x1
                have HR : Hid (mayB m = false) := HBAD.out (prB_bad (by omega))
                clear x1 hcl HBAD HN hV
                go_wp2_with (fail)
                go_ret
                exact ⟨by rw [HR.out]; rfl, BW.trans hb (by repeat (first | exact BW.refl _ | assumption | apply BW.alloc | apply BW.drewN | apply BW.drew | (refine BW.setCell ?_ (by first | omega | (simp; done) | (simp; omega)) _) | (refine BW.trans ?_ (by assumption))))⟩
              have zx1 : decide (x.p < 0) = false := by simpa using x1
              by_cases x2 : 200 < x.p
              · have zx2 : decide (200 < x.p) = true := by simpa using x2
                have HR : Hid (mayB m = false) := HBAD.out (prB_bad (by omega))
                clear x1 x2 hcl HBAD HN hV
                go_wp2_with (fail)
                go_ret
                exact ⟨by rw [HR.out]; rfl, BW.trans hb (by repeat (first | exact BW.refl _ | assumption | apply BW.alloc | apply BW.drewN | apply BW.drew | (refine BW.setCell ?_ (by first | omega | (simp; done) | (simp; omega)) _) | (refine BW.trans ?_ (by assumption))))⟩
              have zx2 : decide (200 < x.p) = false := by simpa using x2
              by_cases x3 : x.u < 0
              · have zx3 : decide (x.u < 0) = true := by simpa using x3
                have HR : Hid (mayB m = false) := HBAD.out (prB_bad (by omega))
                clear x1 x2 x3 hcl HBAD HN hV
                go_wp2_with (fail)
                go_ret
                exact ⟨by rw [HR.out]; rfl, BW.trans hb (by repeat (first | exact BW.refl _ | assumption | apply BW.alloc | apply BW.drewN | apply BW.drew | (refine BW.setCell ?_ (by first | omega | (simp; done) | (simp; omega)) _) | (refine BW.trans ?_ (by assumption))))⟩
              have zx3 : decide (x.u < 0) = false := by simpa using x3
              by_cases x4 : 200 < x.u
              · have zx4 : decide (200 < x.u) = true := by simpa using x4
                have HR : Hid (mayB m = false) := HBAD.out (prB_bad (by omega))
                clear x1 x2 x3 x4 hcl HBAD HN hV
                go_wp2_with (fail)
                go_ret
                exact ⟨by rw [HR.out]; rfl, BW.trans hb (by repeat (first | exact BW.refl _ | assumption | apply BW.alloc | apply BW.drewN | apply BW.drew | (refine BW.setCell ?_ (by first | omega | (simp; done) | (simp; omega)) _) | (refine BW.trans ?_ (by assumption))))⟩
              have zx4 : decide (200 < x.u) = false := by simpa using x4
              have w1 := i64w (x.p + 1) (by omega) (by omega)
              by_cases x5 : x.s < x.p + 1
              · have zx5 : decide (x.s < x.p + 1) = true := by simpa using x5
                have HR : Hid (mayB m = false) := HBAD.out (prB_bad (by omega))
                clear x1 x2 x3 x4 x5 hcl HBAD HN hV
                go_wp2_with (fail)
                go_ret
                exact ⟨by rw [HR.out]; rfl, BW.trans hb (by repeat (first | exact BW.refl _ | assumption | apply BW.alloc | apply BW.drewN | apply BW.drew | (refine BW.setCell ?_ (by first | omega | (simp; done) | (simp; omega)) _) | (refine BW.trans ?_ (by assumption))))⟩
              have zx5 : decide (x.s < x.p + 1) = false := by simpa using x5
              by_cases x6 : 256 < x.s
              · have zx6 : decide (256 < x.s) = true := by simpa using x6
                have HR : Hid (mayB m = false) := HBAD.out (prB_bad (by omega))
                clear x1 x2 x3 x4 x5 x6 hcl HBAD HN hV
                go_wp2_with (fail)
                go_ret
                exact ⟨by rw [HR.out]; rfl, BW.trans hb (by repeat (first | exact BW.refl _ | assumption | apply BW.alloc | apply BW.drewN | apply BW.drew | (refine BW.setCell ?_ (by first | omega | (simp; done) | (simp; omega)) _) | (refine BW.trans ?_ (by assumption))))⟩
              have zx6 : decide (256 < x.s) = false := by simpa using x6
              by_cases x7 : cl = 0
              · have z7 : ((cl : Int) == 0) = true := by simp [x7]
                have HR : Hid (mayB m = false) := HBAD.out (by clear HBAD HN; unfold prB; rw [hcl, x7]; simp)
                clear x1 x2 x3 x4 x5 x6 x7 hcl HBAD HN hV
                go_wp2_with (fail)
                go_ret
                exact ⟨by rw [HR.out]; rfl, BW.trans hb (by repeat (first | exact BW.refl _ | assumption | apply BW.alloc | apply BW.drewN | apply BW.drew | (refine BW.setCell ?_ (by first | omega | (simp; done) | (simp; omega)) _) | (refine BW.trans ?_ (by assumption))))⟩
              have z7 : ((cl : Int) == 0) = false := by simp; omega
              by_cases x8 : 16384 < cl
              · have z8 : decide ((16384 : Int) < (cl : Int)) = true := by simp; omega
                have HR : Hid (mayB m = false) := HBAD.out (by clear HBAD HN; unfold prB; rw [hcl]; simp [x8])
                clear x1 x2 x3 x4 x5 x6 x7 x8 hcl HBAD HN hV
                go_wp2_with (fail)
                go_ret
                exact ⟨by rw [HR.out]; rfl, BW.trans hb (by repeat (first | exact BW.refl _ | assumption | apply BW.alloc | apply BW.drewN | apply BW.drew | (refine BW.setCell ?_ (by first | omega | (simp; done) | (simp; omega)) _) | (refine BW.trans ?_ (by assumption))))⟩
              have z8 : decide ((16384 : Int) < (cl : Int)) = false := by simp; omega
              have HQ : Hid (prB m x = x.code.all (insB m x)) := by
                show _ = _
                have i1 : inR x.p 201 = true := by simp [inR]; omega
                have i2 : inR x.u 201 = true := by simp [inR]; omega
                have i3 : ¬ x.s ≤ x.p := by omega
                have i4 : ¬ 256 < x.s := by omega
                have i5 : ¬ x.code.length = 0 := by omega
                have i6 : ¬ 16384 < x.code.length := by omega
                unfold prB
                rw [i1, i2]
                simp only [i3, i4, i5, i6, decide_false, Bool.not_false, Bool.and_self, Bool.true_and]
              have HCL : Hid (x.code.length = cl) := hcl
              clear x1 x2 x3 x4 x5 x6 x7 x8 hcl hV
              go_wp2_with (fail)
              obtain ⟨wo, rfl⟩ : ∃ wo, wo = wr := ⟨_, rfl⟩
              go_loopw [138] (fun i w' => ∃ j : Nat, j ≤ cl ∧ i = .int .i64 j ∧ Hid ((x.code.take j).all (insB m x) = true) ∧ BW (bxP wo x ca cl cc) w') (fun i _ => cl - (intOf i).toNat)
              case atStart => exact ⟨0, Nat.zero_le _, rfl, by simp [Hid], (by repeat (first | exact BW.refl _ | apply BW.alloc | apply BW.drewN | apply BW.drew))⟩
              case round =>
                obtain ⟨j, hj, rfl, HI, hb2⟩ := hrel
                obtain ⟨⟨f0, f1, f2, f3⟩, fz, hbq⟩ := bxP_at hb2
                have hbw2 := BW.trans hb hbq
                have g0' := (hbq.cells w.heap.size 0 gz).trans g0
                have g1' := (hbq.cells w.heap.size 1 gz).trans g1
                have g2' := (hbq.cells w.heap.size 2 gz).trans g2
                have g3' := (hbq.cells w.heap.size 3 gz).trans g3
                by_cases hlt2 : j < cl
                · obtain ⟨b6, of6, y, rfl, hbl6, hy, hc6⟩ := RowAt.get HPV.out.2.2.2.2.2 hlt2
                  obtain ⟨s0, s1, _, hi6⟩ := hc6.bw hbw2 _ _ _ hbl6
                  have y1 : w.heap.size < wr.heap.size := by have := hbq.size; omega
                  have y3 : b6 < wr.heap.size := by have := hbw2.size; omega
                  have HC : Hid (∀ w', BW wr w' → Calls Tryd.prog 19 #[Mw.v ⟨ia, il, ic, ta, tl, tc, some ⟨bp, op, none⟩, pl, pc, ha, hl, hc⟩, prv x.p x.s x.u (some ⟨b6, of6, none⟩) cl cc, .agg #[.int .u8 y.op, .int .i64 y.a]] w' fun e w'' => e = .returned (.bool (insB m x y)) ∧ BW w' w'') := fun w' k => instr_any _ m x _ cl cc y w' (H.out.bw (BW.trans hbw2 k)) (HPV.out.bw (BW.trans hbw2 k)) hi6
                  cases hin : insB m x y with
                  | false =>
                    have HR : Hid (mayB m = false) := HBAD.out (HQ.out.trans (all_miss _ hy hin))
                    rw [hin] at HC
                    clear hy HI hc6 HBAD HN
                    go_wp2_with (fail)
                    go_region_held3 (fun w' => BW wr w' ∧ w'.cell? ⟨w.heap.size, 0, none⟩ = some (.slice ia il ic) ∧ w'.cell? ⟨w.heap.size, 1, none⟩ = some (.slice ta tl tc) ∧ w'.cell? ⟨w.heap.size, 2, none⟩ = some (.slice (some ⟨bp, op, none⟩) pl pc) ∧ w'.cell? ⟨w.heap.size, 3, none⟩ = some (.slice ha hl hc) ∧ w'.cell? ⟨wo.heap.size, 0, none⟩ = some (.int .i64 x.p) ∧ w'.cell? ⟨wo.heap.size, 1, none⟩ = some (.int .i64 x.s) ∧ w'.cell? ⟨wo.heap.size, 2, none⟩ = some (.int .i64 x.u) ∧ w'.cell? ⟨wo.heap.size, 3, none⟩ = some (.slice (some ⟨b6, of6, none⟩) cl cc) ∧ w'.cell? ⟨b6, of6 + j * 2, none⟩ = some (.int .u8 y.op) ∧ w'.cell? ⟨b6, of6 + j * 2 + 1, none⟩ = some (.int .i64 y.a)) ((refine ⟨(by repeat (first | exact BW.refl _ | assumption | apply BW.alloc | apply BW.drewN | apply BW.drew | (refine BW.setCell ?_ (by first | omega | (simp; done) | (simp; omega)) _) | (refine BW.trans ?_ (by assumption)))), ?_⟩; go_keep)) (first | (go_at_call 19; refine (HC.out _ (by repeat (first | exact BW.refl _ | assumption | apply BW.alloc | apply BW.drewN | apply BW.drew | (refine BW.setCell ?_ (by first | omega | (simp; done) | (simp; omega)) _) | (refine BW.trans ?_ (by assumption))))).mono ?_; rintro e w1 ⟨rfl, c1⟩; have t1 := fun o => c1.cells w.heap.size o y1; have t2 := fun o => c1.cells wo.heap.size o fz; have t3 := fun o => c1.cells b6 o y3))
                    all_goals (go_wp2_with (fail))
                    all_goals (go_ret; exact ⟨by rw [HR.out]; rfl, BW.trans hbw2 (by repeat (first | exact BW.refl _ | assumption | apply BW.alloc | apply BW.drewN | apply BW.drew | (refine BW.setCell ?_ (by first | omega | (simp; done) | (simp; omega)) _) | (refine BW.trans ?_ (by assumption))))⟩)
                  | true =>
                    have HS : Hid ((x.code.take (j + 1)).all (insB m x) = true) := by show _ = _; rw [all_snoc _ hy, HI.out, hin]; rfl
                    rw [hin] at HC
                    clear hy HI hc6
                    go_wp2_with (fail)
                    go_region_held3 (fun w' => BW wr w' ∧ w'.cell? ⟨w.heap.size, 0, none⟩ = some (.slice ia il ic) ∧ w'.cell? ⟨w.heap.size, 1, none⟩ = some (.slice ta tl tc) ∧ w'.cell? ⟨w.heap.size, 2, none⟩ = some (.slice (some ⟨bp, op, none⟩) pl pc) ∧ w'.cell? ⟨w.heap.size, 3, none⟩ = some (.slice ha hl hc) ∧ w'.cell? ⟨wo.heap.size, 0, none⟩ = some (.int .i64 x.p) ∧ w'.cell? ⟨wo.heap.size, 1, none⟩ = some (.int .i64 x.s) ∧ w'.cell? ⟨wo.heap.size, 2, none⟩ = some (.int .i64 x.u) ∧ w'.cell? ⟨wo.heap.size, 3, none⟩ = some (.slice (some ⟨b6, of6, none⟩) cl cc) ∧ w'.cell? ⟨b6, of6 + j * 2, none⟩ = some (.int .u8 y.op) ∧ w'.cell? ⟨b6, of6 + j * 2 + 1, none⟩ = some (.int .i64 y.a)) ((refine ⟨(by repeat (first | exact BW.refl _ | assumption | apply BW.alloc | apply BW.drewN | apply BW.drew | (refine BW.setCell ?_ (by first | omega | (simp; done) | (simp; omega)) _) | (refine BW.trans ?_ (by assumption)))), ?_⟩; go_keep)) (first | (go_at_call 19; refine (HC.out _ (by repeat (first | exact BW.refl _ | assumption | apply BW.alloc | apply BW.drewN | apply BW.drew | (refine BW.setCell ?_ (by first | omega | (simp; done) | (simp; omega)) _) | (refine BW.trans ?_ (by assumption))))).mono ?_; rintro e w1 ⟨rfl, c1⟩; have t1 := fun o => c1.cells w.heap.size o y1; have t2 := fun o => c1.cells wo.heap.size o fz; have t3 := fun o => c1.cells b6 o y3))
                    all_goals (go_wp2_with (fail))
                    all_goals (go_roundw; (case rel => exact ⟨j + 1, by omega, by go_num, HS, (by repeat (first | exact BW.refl _ | assumption | apply BW.alloc | apply BW.drewN | apply BW.drew | (refine BW.setCell ?_ (by first | omega | (simp; done) | (simp; omega)) _) | (refine BW.trans ?_ (by assumption))))⟩); (case measure => simp [intOf]; omega))
                · have e9 : cl = j := by omega
                  subst e9
                  have HS : Hid ((m.pros.take (k + 1)).any (fun x => !prB m x) = false) := HN.out (HQ.out.trans (by have := HI.out; rw [List.take_of_length_le (by have := HCL.out; omega)] at this; exact this))
                  clear HI HN HBAD
                  go_wp2_with (fail)
                  go_roundw
                  case rel => exact ⟨k + 1, by omega, by go_num, HS, BW.trans hb1 hbq⟩
                  case measure => simp [intOf]; omega
            · have HE84 : Hid (m.pros.any (fun x => !prB m x) = false) := by
                have := HA.out
                rw [List.take_of_length_le (by have := L.out; omega)] at this
                exact this
              have e9 : pl = k := by omega
              subst e9
              clear HA
              go_wp2_with (fail)
              go_ret
              exact ⟨by unfold mayB; rw [HB.out.1, HB.out.2, HE55.out, HE69.out, HE84.out]; rfl, BW.trans hb (by repeat (first | exact BW.refl _ | assumption | apply BW.alloc | apply BW.drewN | apply BW.drew | (refine BW.setCell ?_ (by first | omega | (simp; done) | (simp; omega)) _) | (refine BW.trans ?_ (by assumption))))⟩

end Go.Proofs.YtndhhmgbekcfoaaDoor
