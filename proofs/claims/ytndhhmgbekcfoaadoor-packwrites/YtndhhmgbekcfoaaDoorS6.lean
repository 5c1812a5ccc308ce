import Derived.Test.YtndhhmgbekcfoaaDoorS5
namespace Go.Proofs.YtndhhmgbekcfoaaDoor
open Go.RowKit
set_option linter.unusedVariables false
set_option linter.unusedSimpArgs false

theorem bxPP_at {w w' : World} {x y : Pro} {ca cb : Option Addr} {cl cc dl dc : Nat} (h : BW (bxP (bxP w x ca cl cc) y cb dl dc) w') : PrK w' w.heap.size 0 x ca cl cc ∧ PrK w' (w.heap.size + 1) 0 y cb dl dc ∧ w.heap.size + 1 < w'.heap.size ∧ BW w w' := by
  obtain ⟨h1, h2, h3⟩ := bxP_at h
  obtain ⟨h4, h5, h6⟩ := bxP_at h3
  have e : (bxP w x ca cl cc).heap.size = w.heap.size + 1 := by simp
  rw [e] at h1 h2
  exact ⟨h4, h1, h2, h6⟩
set_option maxRecDepth 100000 in
set_option maxHeartbeats 4000000 in
theorem refSameP_any (x y : Pro) (ca cb : Option Addr) (cl cc dl dc : Nat) (w : World) (h1 : PrV w x ca cl cc) (h2 : PrV w y cb dl dc) : Calls Tryd.prog 24 #[prv x.p x.s x.u ca cl cc, prv y.p y.s y.u cb dl dc] w fun e w' => e = .returned (.bool (smP x y)) ∧ BW w w' := by
  have H1 : Hid (CodeAt w ca cl x.code) := h1.2.2.2.2.2
  have H2 : Hid (CodeAt w cb dl y.code) := h2.2.2.2.2.2
  have hl : Hid (x.code.length = cl) := h1.2.2.2.2.2.1
  have hm : Hid (y.code.length = dl) := h2.2.2.2.2.2.1
  have hc := h1.len
  have hd := h2.len
  clear h1 h2
  unfold smP
  have fin : ∀ (A B C D : Bool), A = false ∨ B = false ∨ C = false ∨ D = false → (A && B && C && D) = false := by decide
  by_cases hbad : x.p = y.p ∧ x.s = y.s ∧ x.u = y.u ∧ cl = dl
  · obtain ⟨hp, hs, hu, rfl⟩ := hbad
    have HR : Hid ((decide (x.p = y.p) && decide (x.s = y.s) && decide (x.u = y.u) && eqL eqN x.code y.code) = eqL eqN x.code y.code) := by show _ = _; simp [hp, hs, hu]
    have q1 : (x.p != y.p) = false := by simp [hp]
    have q2 : (x.s != y.s) = false := by simp [hs]
    have q3 : (x.u != y.u) = false := by simp [hu]
    have p1 : (x.p == y.p) = true := by simp [hp]
    have p2 : (x.s == y.s) = true := by simp [hs]
    have p3 : (x.u == y.u) = true := by simp [hu]
    rw [HR.out]
    clear hp hs hu HR
    go_enter Tryd.func24, Tryd.ntmps24
    go_wp2_with (fail)
    go_loopw [37] (fun i w' => ∃ k : Nat, k ≤ cl ∧ Hid (((x.code.zip y.code).take k).all (fun p => eqN p.1 p.2) = true) ∧ i = .int .i64 k ∧ BW (bxP (bxP w x ca cl cc) y cb cl dc) w') (fun i _ => cl - (intOf i).toNat)
    case atStart => exact ⟨0, Nat.zero_le _, by simp [Hid], rfl, (by repeat (first | exact BW.refl _ | apply BW.alloc | apply BW.drewN | apply BW.drew))⟩
    case round =>
      obtain ⟨k, hk, HA, rfl, hb1⟩ := hrel
      obtain ⟨⟨_, _, _, g3⟩, ⟨_, _, _, f3⟩, gz, hb⟩ := bxPP_at hb1
      by_cases hlt : k < cl
      · obtain ⟨b, off, x1, rfl, hbl, hx, hc1⟩ := RowAt.get H1.out hlt
        obtain ⟨b', off', y1, rfl, hbl', hy, hc2⟩ := RowAt.get H2.out hlt
        obtain ⟨d1, d2, _⟩ := hc1.bw hb _ _ _ hbl
        obtain ⟨d3, d4, _⟩ := hc2.bw hb _ _ _ hbl'
        by_cases he : eqN x1 y1 = true
        · have HS : Hid (((x.code.zip y.code).take (k + 1)).all (fun p => eqN p.1 p.2) = true) := by
            show _ = _
            rw [all_snoc _ (zip_get hx hy), HA.out]
            simpa using he
          have e0 : x1 = y1 := by obtain ⟨_, _⟩ := x1; obtain ⟨_, _⟩ := y1; simpa [eqN] using he
          subst e0
          have z1 : (x1.op == x1.op) = true := by simp
          have z2 : (x1.a == x1.a) = true := by simp
          clear hx hy he HA hc1 hc2
          go_wp2_with (fail)
          go_quiet (fail)
          go_wp2_with (fail)
          go_roundw
          case rel => exact ⟨k + 1, by omega, HS, by go_num, (by repeat (first | exact BW.refl _ | assumption | apply BW.alloc | apply BW.drewN | apply BW.drew | (refine BW.setCell ?_ (by first | omega | (simp; done) | (simp; omega)) _) | (refine BW.trans ?_ (by assumption))))⟩
          case measure => simp [intOf]; omega
        · have HS : Hid (eqL eqN x.code y.code = false) := eqL_miss eqN hx hy (by simpa using he)
          have e0 : (x1.op == y1.op) = false ∨ ((x1.op == y1.op) = true ∧ (x1.a == y1.a) = false) := by
            cases h1 : (x1.op == y1.op) <;> cases h2 : (x1.a == y1.a) <;> simp_all [eqN]
          clear hx hy he HA hc1 hc2
          rcases e0 with e1 | ⟨e1, e2⟩
          · go_wp2_with (fail)
            go_quiet (fail)
            go_wp2_with (fail)
            go_ret
            exact ⟨by rw [HS.out]; rfl, BW.trans hb (by repeat (first | exact BW.refl _ | assumption | apply BW.alloc | apply BW.drewN | apply BW.drew | (refine BW.setCell ?_ (by first | omega | (simp; done) | (simp; omega)) _) | (refine BW.trans ?_ (by assumption))))⟩
          · go_wp2_with (fail)
            go_quiet (fail)
            go_wp2_with (fail)
            go_ret
            exact ⟨by rw [HS.out]; rfl, BW.trans hb (by repeat (first | exact BW.refl _ | assumption | apply BW.alloc | apply BW.drewN | apply BW.drew | (refine BW.setCell ?_ (by first | omega | (simp; done) | (simp; omega)) _) | (refine BW.trans ?_ (by assumption))))⟩
      · have HS : Hid (eqL eqN x.code y.code = true) := eqL_all eqN (hl.out.trans hm.out.symm) (by have := hl.out; omega) HA.out
        obtain rfl : cl = k := by omega
        go_wp2_with (fail)
        go_ret
        exact ⟨by rw [HS.out]; rfl, BW.trans hb (by repeat (first | exact BW.refl _ | assumption | apply BW.alloc | apply BW.drewN | apply BW.drew | (refine BW.setCell ?_ (by first | omega | (simp; done) | (simp; omega)) _) | (refine BW.trans ?_ (by assumption))))⟩
  · have HR : Hid ((decide (x.p = y.p) && decide (x.s = y.s) && decide (x.u = y.u) && eqL eqN x.code y.code) = false) := by
      show _ = _
      by_cases hp : x.p = y.p
      · by_cases hs : x.s = y.s
        · by_cases hu : x.u = y.u
          · have : ¬ cl = dl := fun e => hbad ⟨hp, hs, hu, e⟩
            rw [eqL_len eqN (by have := hl.out; have := hm.out; omega)]; simp
          · simp [hu]
        · simp [hs]
      · simp [hp]
    rw [HR.out]
    clear HR
    by_cases hp : x.p = y.p
    · have q1 : (x.p != y.p) = false := by simp [hp]
      have p1 : (x.p == y.p) = true := by simp [hp]
      by_cases hs : x.s = y.s
      · have q2 : (x.s != y.s) = false := by simp [hs]
        have p2 : (x.s == y.s) = true := by simp [hs]
        by_cases hu : x.u = y.u
        · have q3 : (x.u != y.u) = false := by simp [hu]
          have p3 : (x.u == y.u) = true := by simp [hu]
          have hn : ¬ cl = dl := fun e => hbad ⟨hp, hs, hu, e⟩
          have q4 : ((cl : Int) != (dl : Int)) = true := by simp; omega
          have p4 : ((cl : Int) == (dl : Int)) = false := by simp; omega
          have p5 : ¬ (cl : Int) = (dl : Int) := by omega
          clear hbad hp hs hu hl hm fin
          go_enter Tryd.func24, Tryd.ntmps24
          go_wp2_with (fail)
          go_ret
          exact ⟨rfl, (by repeat (first | exact BW.refl _ | assumption | apply BW.alloc | apply BW.drewN | apply BW.drew | (refine BW.setCell ?_ (by first | omega | (simp; done) | (simp; omega)) _) | (refine BW.trans ?_ (by assumption))))⟩
        · have q3 : (x.u != y.u) = true := by simpa using hu
          have p3 : (x.u == y.u) = false := by simpa using hu
          clear hbad hp hs hl hm fin
          go_enter Tryd.func24, Tryd.ntmps24
          go_wp2_with (fail)
          go_ret
          exact ⟨rfl, (by repeat (first | exact BW.refl _ | assumption | apply BW.alloc | apply BW.drewN | apply BW.drew | (refine BW.setCell ?_ (by first | omega | (simp; done) | (simp; omega)) _) | (refine BW.trans ?_ (by assumption))))⟩
      · have q2 : (x.s != y.s) = true := by simpa using hs
        have p2 : (x.s == y.s) = false := by simpa using hs
        clear hbad hp hl hm fin
        go_enter Tryd.func24, Tryd.ntmps24
        go_wp2_with (fail)
        go_ret
        exact ⟨rfl, (by repeat (first | exact BW.refl _ | assumption | apply BW.alloc | apply BW.drewN | apply BW.drew | (refine BW.setCell ?_ (by first | omega | (simp; done) | (simp; omega)) _) | (refine BW.trans ?_ (by assumption))))⟩
    · have q1 : (x.p != y.p) = true := by simpa using hp
      have p1 : (x.p == y.p) = false := by simpa using hp
      clear hbad hl hm fin
      go_enter Tryd.func24, Tryd.ntmps24
      go_wp2_with (fail)
      go_ret
      exact ⟨rfl, (by repeat (first | exact BW.refl _ | assumption | apply BW.alloc | apply BW.drewN | apply BW.drew | (refine BW.setCell ?_ (by first | omega | (simp; done) | (simp; omega)) _) | (refine BW.trans ?_ (by assumption))))⟩

end Go.Proofs.YtndhhmgbekcfoaaDoor
