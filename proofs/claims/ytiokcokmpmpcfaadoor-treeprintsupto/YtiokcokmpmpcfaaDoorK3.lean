import Derived.Test.YtiokcokmpmpcfaaDoorK1
import Derived.Test.YtiokcokmpmpcfaaDoorP6
namespace Go.Proofs.YtiokcokmpmpcfaaDoor
open Go.RowKit
set_option linter.unusedVariables false
set_option linter.unusedSimpArgs false

set_option maxRecDepth 100000 in
set_option maxHeartbeats 2000000 in
theorem treePrints_any (n : Nat) (v : Value) (t : Tr n) (w : World) (hA : NodeAt w n v t) (hz : sz n t ≤ 1048576) (hv : Vs w) : Calls Tryd.prog 3 #[v] w fun e w' => e = .returned (.bool true) ∧ BW w w' := by
  have HV : Hid (Vs w) := hv
  have GA : Hid (∀ w', BW w w' → Calls Tryd.prog 8 #[v, .int .i64 0] w' fun e w'' => e = .returned (.bool (gr n t 0)) ∧ BW w' w'') := fun w' h => great_any n v t 0 w' (by omega) (hA.bw h)
  have PA : Hid (gr n t 0 = false → ∀ w', BW w w' → Calls Tryd.prog 10 #[v] w' fun e w'' => e = .returned (.tuple #[.string (ptx n t), .int .i64 (if mayB n t then 0 else 12)]) ∧ BW w' w'') := fun hg w' h =>
    print_any n v t w' (hA.bw h) (hv.bw h).1 (hv.bw h).2 (fun hm => by
      have h1 := small_of n v t 0 hA hg
      have h2 := (may_size hm).1
      exact ⟨h1.1, by have := h1.2; omega⟩)
  have RM : Hid (∀ w', BW w w' → Calls Tryd.prog 13 #[v] w' fun e w'' => e = .returned (.bool (mayB n t)) ∧ BW w' w'') := fun w' h => refMay_any n v t w' (hA.bw h) (by omega)
  have MY : Hid (∀ w', BW w w' → Calls Tryd.prog 14 #[v] w' fun e w'' => e = .returned (.bool (mayB n t)) ∧ BW w' w'') := fun w' h => may_any n v t w' (hA.bw h) (hv.bw h).1
  have SZ : Hid (∀ w', BW w w' → Calls Tryd.prog 11 #[v] w' fun e w'' => e = .returned (.int .i64 (sz n t)) ∧ BW w' w'') := fun w' hb => by
    have := size_any n v t w' (hA.bw hb)
    rw [show wrap64 (sz n t) = (sz n t : Int) by simp [wrap64]; omega] at this
    exact this
  have RZ : Hid (∀ w', BW w w' → Calls Tryd.prog 12 #[v] w' fun e w'' => e = .returned (.int .i64 (sz n t)) ∧ BW w' w'') := fun w' hb => by
    have := refSize_any n v t w' (hA.bw hb)
    rw [show wrap64 (sz n t) = (sz n t : Int) by simp [wrap64]; omega] at this
    exact this
  have RP : Hid (gr n t 0 = false → mayB n t = true → ∀ w', BW w w' → Calls Tryd.prog 15 #[v] w' fun e w'' => e = .returned (.string (ptx n t)) ∧ BW w' w'') := fun hg hm w' h => by
    have h1 := small_of n v t 0 hA hg
    have h2 := may_size hm
    have := refPrint_any n v t w' (hA.bw h) h2.2 h1.1 (by have := h1.2; omega) (by omega)
    have e : ptx n t = txB n t := by unfold ptx txB; rw [if_pos hm]
    rw [e]
    exact this
  have PN : Hid (mayB n t = false → ptx n t = ⟨#[]⟩) := fun hm => by unfold ptx; rw [hm]; rfl
  cases n with
  | zero => exact t.elim
  | succ n =>
    obtain ⟨na, nl, nc, ka, kl, kc, rfl, _⟩ := hA
    generalize ptx (n + 1) t = X at *
    generalize mayB (n + 1) t = m at *
    generalize gr (n + 1) t 0 = g at *
    generalize sz (n + 1) t = z at *
    generalize Nd.k (K := Tr n) t = tk at *
    generalize Nd.n (K := Tr n) t = tn at *
    generalize Nd.s (K := Tr n) t = ts at *
    clear hv
    cases g with
    | true =>
      go_enter Tryd.func3, Tryd.ntmps3
      go_wp2_with (first
        | (go_at_call 8; refine (GA.out _ (by repeat (first | exact BW.refl _ | assumption | apply BW.alloc | apply BW.drewN | apply BW.drew | (refine BW.setCell ?_ (by first | omega | (simp; done) | (simp; omega)) _) | (refine BW.trans ?_ (by assumption))))).mono ?_; rintro e w1 ⟨rfl, b1⟩)
        | (go_at_call 9; refine (awake_any _ (HV.out.bw (by repeat (first | exact BW.refl _ | assumption | apply BW.alloc | apply BW.drewN | apply BW.drew | (refine BW.setCell ?_ (by first | omega | (simp; done) | (simp; omega)) _) | (refine BW.trans ?_ (by assumption)))))).mono ?_; rintro e w2 ⟨rfl, b2⟩))
      go_ret
      exact ⟨rfl, (by repeat (first | exact BW.refl _ | assumption | apply BW.alloc | apply BW.drewN | apply BW.drew | (refine BW.setCell ?_ (by first | omega | (simp; done) | (simp; omega)) _) | (refine BW.trans ?_ (by assumption))))⟩
    | false =>
      have PA1 : Hid (∀ w', BW w w' → Calls Tryd.prog 10 #[ndv tk tn ts na nl nc ka kl kc] w' fun e w'' => e = .returned (.tuple #[.string X, .int .i64 (if m then 0 else 12)]) ∧ BW w' w'') := PA.out (by first | rfl | trivial)
      clear PA
      cases m with
      | false =>
        have hX : X = ⟨#[]⟩ := PN.out (by first | rfl | trivial)
        subst hX
        clear RP PN
        have PA2 : Hid (∀ w', BW w w' → Calls Tryd.prog 10 #[ndv tk tn ts na nl nc ka kl kc] w' fun e w'' => e = .returned (.tuple #[.string ⟨#[]⟩, .int .i64 12]) ∧ BW w' w'') := PA1.out
        clear PA1
        go_enter Tryd.func3, Tryd.ntmps3
        go_wp2_with (first
          | (go_at_call 8; refine (GA.out _ (by repeat (first | exact BW.refl _ | assumption | apply BW.alloc | apply BW.drewN | apply BW.drew | (refine BW.setCell ?_ (by first | omega | (simp; done) | (simp; omega)) _) | (refine BW.trans ?_ (by assumption))))).mono ?_; rintro e w1 ⟨rfl, b1⟩; obtain ⟨⟨f0, f1, f2, f3, f4⟩, hz1, hb1⟩ := bx_at b1)
          | (go_at_call 10; refine (PA2.out _ hb1).mono ?_; rintro e w2 ⟨rfl, b2⟩))
        have HB2 : Hid (BW (bx w tk tn ts na nl nc ka kl kc) w2) := BW.trans b1 b2
        clear f0 f1 f2 f3 f4 hz1 hb1 b1 b2
        obtain ⟨⟨f0, f1, f2, f3, f4⟩, hz2, hb2⟩ := bx_at HB2.out
        have hzz : ((z : Int) == (z : Int)) = true := by simp
        have hzn : ((z : Int) != (z : Int)) = false := by simp
        go_region_held3 (fun w' => BW w2 w' ∧ w'.cell? ⟨w.heap.size, 0, none⟩ = some (.int .u8 tk) ∧ w'.cell? ⟨w.heap.size, 1, none⟩ = some (.int .i64 tn) ∧ w'.cell? ⟨w.heap.size, 2, none⟩ = some (.string ts) ∧ w'.cell? ⟨w.heap.size, 3, none⟩ = some (.slice na nl nc) ∧ w'.cell? ⟨w.heap.size, 4, none⟩ = some (.slice ka kl kc)) ((refine ⟨(by repeat (first | exact BW.refl _ | assumption | apply BW.alloc | apply BW.drewN | apply BW.drew | (refine BW.setCell ?_ (by first | omega | (simp; done) | (simp; omega)) _) | (refine BW.trans ?_ (by assumption)))), ?_⟩; go_keep)) (first
          | (go_at_call 12; refine (RZ.out _ (BW.trans hb2 (BW.trans (BW.drew (BW.refl w2)) b3))).mono ?_; rintro e w4 ⟨rfl, b4⟩; have z2 := fun o => b4.cells w.heap.size o (by have := b3.size; simp at this; omega))
          | (go_at_call 11; refine (SZ.out _ (BW.trans hb2 (BW.drew (BW.refl w2)))).mono ?_; rintro e w3 ⟨rfl, b3⟩; have z1 := fun o => b3.cells w.heap.size o (by simp; omega)))
        have HBX : Hid (BW (bx w tk tn ts na nl nc ka kl kc) w4) := BW.trans HB2.out (BW.trans (BW.drew (BW.refl w2)) (BW.trans b3 b4))
        clear z1 z2 b3 b4 f0 f1 f2 f3 f4 hz2 hb2 HB2 GA PA2 SZ RZ
        obtain ⟨⟨g0, g1, g2, g3, g4⟩, hz4, hbx⟩ := bx_at HBX.out
        go_wp2_with (first
          | (go_at_call 13; refine (RM.out _ hbx).mono ?_; rintro e w5 ⟨rfl, b5⟩; obtain ⟨⟨g0, g1, g2, g3, g4⟩, hz5, hb5⟩ := bx_at (BW.trans HBX.out b5))
          | (go_at_call 14; refine (MY.out _ hb5).mono ?_; rintro e w6 ⟨rfl, b6⟩)
          | (go_at_call 9; refine (awake_any _ (HV.out.bw (BW.trans hb5 b6))).mono ?_; rintro e w7 ⟨rfl, b7⟩))
        go_ret
        exact ⟨rfl, BW.trans hb5 (BW.trans b6 b7)⟩
      | true =>
        have RP1 : Hid (∀ w', BW w w' → Calls Tryd.prog 15 #[ndv tk tn ts na nl nc ka kl kc] w' fun e w'' => e = .returned (.string X) ∧ BW w' w'') := RP.out (by first | rfl | trivial) (by first | rfl | trivial)
        have PA2 : Hid (∀ w', BW w w' → Calls Tryd.prog 10 #[ndv tk tn ts na nl nc ka kl kc] w' fun e w'' => e = .returned (.tuple #[.string X, .int .i64 0]) ∧ BW w' w'') := PA1.out
        clear PA1 RP PN
        go_enter Tryd.func3, Tryd.ntmps3
        go_wp2_with (first
          | (go_at_call 8; refine (GA.out _ (by repeat (first | exact BW.refl _ | assumption | apply BW.alloc | apply BW.drewN | apply BW.drew | (refine BW.setCell ?_ (by first | omega | (simp; done) | (simp; omega)) _) | (refine BW.trans ?_ (by assumption))))).mono ?_; rintro e w1 ⟨rfl, b1⟩; obtain ⟨⟨f0, f1, f2, f3, f4⟩, hz1, hb1⟩ := bx_at b1)
          | (go_at_call 10; refine (PA2.out _ hb1).mono ?_; rintro e w2 ⟨rfl, b2⟩))
        have HB2 : Hid (BW (bx w tk tn ts na nl nc ka kl kc) w2) := BW.trans b1 b2
        clear f0 f1 f2 f3 f4 hz1 hb1 b1 b2
        obtain ⟨⟨f0, f1, f2, f3, f4⟩, hz2, hb2⟩ := bx_at HB2.out
        have hzz : ((z : Int) == (z : Int)) = true := by simp
        have hzn : ((z : Int) != (z : Int)) = false := by simp
        go_region_held3 (fun w' => BW w2 w' ∧ w'.cell? ⟨w.heap.size, 0, none⟩ = some (.int .u8 tk) ∧ w'.cell? ⟨w.heap.size, 1, none⟩ = some (.int .i64 tn) ∧ w'.cell? ⟨w.heap.size, 2, none⟩ = some (.string ts) ∧ w'.cell? ⟨w.heap.size, 3, none⟩ = some (.slice na nl nc) ∧ w'.cell? ⟨w.heap.size, 4, none⟩ = some (.slice ka kl kc)) ((refine ⟨(by repeat (first | exact BW.refl _ | assumption | apply BW.alloc | apply BW.drewN | apply BW.drew | (refine BW.setCell ?_ (by first | omega | (simp; done) | (simp; omega)) _) | (refine BW.trans ?_ (by assumption)))), ?_⟩; go_keep)) (first
          | (go_at_call 12; refine (RZ.out _ (BW.trans hb2 (BW.trans (BW.drew (BW.refl w2)) b3))).mono ?_; rintro e w4 ⟨rfl, b4⟩; have z2 := fun o => b4.cells w.heap.size o (by have := b3.size; simp at this; omega))
          | (go_at_call 11; refine (SZ.out _ (BW.trans hb2 (BW.drew (BW.refl w2)))).mono ?_; rintro e w3 ⟨rfl, b3⟩; have z1 := fun o => b3.cells w.heap.size o (by simp; omega)))
        have HBX : Hid (BW (bx w tk tn ts na nl nc ka kl kc) w4) := BW.trans HB2.out (BW.trans (BW.drew (BW.refl w2)) (BW.trans b3 b4))
        clear z1 z2 b3 b4 f0 f1 f2 f3 f4 hz2 hb2 HB2 GA PA2 SZ RZ
        obtain ⟨⟨g0, g1, g2, g3, g4⟩, hz4, hbx⟩ := bx_at HBX.out
        go_wp2_with (first
          | (go_at_call 13; refine (RM.out _ hbx).mono ?_; rintro e w5 ⟨rfl, b5⟩; have c5 := BW.trans HBX.out b5; clear g0 g1 g2 g3 g4; obtain ⟨⟨g0, g1, g2, g3, g4⟩, hz5, hb5⟩ := bx_at c5)
          | (go_at_call 14; refine (MY.out _ hb5).mono ?_; rintro e w6 ⟨rfl, b6⟩; have c6 := BW.trans c5 b6; clear g0 g1 g2 g3 g4; obtain ⟨⟨g0, g1, g2, g3, g4⟩, hz6, hb6⟩ := bx_at c6)
          | (go_at_call 15; refine (RP1.out _ hb6).mono ?_; rintro e w7 ⟨rfl, b7⟩)
          | (go_at_call 9; refine (awake_any _ (HV.out.bw (BW.trans hb6 b7))).mono ?_; rintro e w8 ⟨rfl, b8⟩))
        go_ret
        exact ⟨rfl, BW.trans hb6 (BW.trans b7 b8)⟩

end Go.Proofs.YtiokcokmpmpcfaaDoor
