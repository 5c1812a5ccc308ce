import Derived.Test.YtiokcokmpmpcfaaDoorK1
namespace Go.Proofs.YtiokcokmpmpcfaaDoor
open Go.RowKit
set_option linter.unusedVariables false
set_option linter.unusedSimpArgs false

theorem do_at {n : Nat} {t : Tr (n + 1)} {W w' : World} {tk tn : Int} {ts : ByteArray} {na : Option Addr} {nl nc : Nat} {ka : Option Addr} {kl kc : Nat} (hN : NodeAt W (n + 1) (ndv tk tn ts na nl nc ka kl kc) t) (h : BW (bx (W.alloc (.cells #[.int .u8 tk, .int .i64 tn, .string ts, .slice na nl nc, .slice ka kl kc, .int .u8 4, .int .i64 0, .string ⟨#[]⟩, .slice none 0 0, .slice none 0 0] 25)) 10 0 ⟨#[]⟩ none 0 0 (some ⟨W.heap.size, 0, none⟩) 2 2) w') :
    NodeAt w' (n + 2) (ndv 10 0 ⟨#[]⟩ none 0 0 (some ⟨W.heap.size, 0, none⟩) 2 2) (doT n t) ∧ CellsAt w' (W.heap.size + 1) 0 ⟨10, 0, ⟨#[]⟩, none, 0, 0, some ⟨W.heap.size, 0, none⟩, 2, 2⟩ ∧ W.heap.size + 1 < w'.heap.size ∧ BW W w' := by
  obtain ⟨d1, d2, d3⟩ := bx_at h
  rw [show (W.alloc (.cells #[.int .u8 tk, .int .i64 tn, .string ts, .slice na nl nc, .slice ka kl kc, .int .u8 4, .int .i64 0, .string ⟨#[]⟩, .slice none 0 0, .slice none 0 0] 25)).heap.size = W.heap.size + 1 by simp] at d1 d2
  obtain ⟨c1, c2, c3⟩ := cells2 (w := W) (r1 := ⟨tk, tn, ts, na, nl, nc, ka, kl, kc⟩) (r2 := ⟨4, 0, ⟨#[]⟩, none, 0, 0, none, 0, 0⟩) d3
  have hb : BW W w' := BW.trans (BW.alloc (BW.refl _) _) d3
  exact ⟨⟨none, 0, 0, _, 2, 2, rfl, wf_small _ _ _ _ _ (by decide) (by decide) (by decide) (by decide) (by decide), Nat.le_refl _, Nat.zero_le _, Nat.le_refl _, by decide, StrsAt.nil,
      SeqAt.two c3 c1 c2 (hN.bw hb) (leaf_at _ _ _ _ _ (wf_small _ _ _ _ _ (by decide) (by decide) (by decide) (by decide) (by decide)))⟩, d1, d2, hb⟩
set_option maxRecDepth 100000 in
set_option maxHeartbeats 2000000 in
theorem treeKids_any (n : Nat) (v : Value) (t : Tr n) (w : World) (hA : NodeAt w n v t) (hz : sz n t ≤ 1048576) (hv : Vs w) : Calls Tryd.prog 6 #[v] w fun e w' => e = .returned (.bool true) ∧ BW w w' := by
  have HV : Hid (Vs w) := hv
  have GA : Hid (∀ w', BW w w' → Calls Tryd.prog 8 #[v, .int .i64 0] w' fun e w'' => e = .returned (.bool (gr n t 0)) ∧ BW w' w'') := fun w' h => great_any n v t 0 w' (by omega) (hA.bw h)
  have RM : Hid (∀ w', BW w w' → Calls Tryd.prog 13 #[v] w' fun e w'' => e = .returned (.bool (mayB n t)) ∧ BW w' w'') := fun w' h => refMay_any n v t w' (hA.bw h) (by omega)
  have SZ : Hid (∀ w', BW w w' → Calls Tryd.prog 11 #[v] w' fun e w'' => e = .returned (.int .i64 (sz n t)) ∧ BW w' w'') := fun w' hb => by
    have := size_any n v t w' (hA.bw hb)
    rw [show wrap64 (sz n t) = (sz n t : Int) by simp [wrap64]; omega] at this
    exact this
  cases n with
  | zero => exact t.elim
  | succ n =>
    have HN : Hid (NodeAt w (n + 1) v t) := hA
    obtain ⟨na, nl, nc, ka, kl, kc, rfl, wf, a1, a2, a3, a4, s1, s2⟩ := hA
    have S2 : Hid (SeqAt (NodeAt w n) w ka kl (Nd.ks (K := Tr n) t)) := s2
    have KM : Hid (mayB (n + 1) t = true → ∀ x ∈ Nd.ks (K := Tr n) t, mayB n x = decide (knd n x ≤ 16)) := fun h x hx => kid_may h hx
    have MK : Hid (∀ (r : Rw) (x : Tr n) w', NodeAt w n r.v x → BW w w' → Calls Tryd.prog 14 #[r.v] w' fun e w'' => e = .returned (.bool (mayB n x)) ∧ BW w' w'') := fun r x w' hx hb => may_any n r.v x w' (hx.bw hb) (hv.1.bw hb)
    have DO : Hid (∀ W w', BW w W → BW (bx (W.alloc (.cells #[.int .u8 (Nd.k (K := Tr n) t), .int .i64 (Nd.n (K := Tr n) t), .string (Nd.s (K := Tr n) t), .slice na nl nc, .slice ka kl kc, .int .u8 4, .int .i64 0, .string ⟨#[]⟩, .slice none 0 0, .slice none 0 0] 25)) 10 0 ⟨#[]⟩ none 0 0 (some ⟨W.heap.size, 0, none⟩) 2 2) w' →
        (Calls Tryd.prog 14 #[ndv 10 0 ⟨#[]⟩ none 0 0 (some ⟨W.heap.size, 0, none⟩) 2 2] w' fun e w'' => e = .returned (.bool (mayB (n + 2) (doT n t))) ∧ BW w' w'') ∧
        (Calls Tryd.prog 13 #[ndv 10 0 ⟨#[]⟩ none 0 0 (some ⟨W.heap.size, 0, none⟩) 2 2] w' fun e w'' => e = .returned (.bool (mayB (n + 2) (doT n t))) ∧ BW w' w'') ∧
        (Calls Tryd.prog 11 #[ndv 10 0 ⟨#[]⟩ none 0 0 (some ⟨W.heap.size, 0, none⟩) 2 2] w' fun e w'' => e = .returned (.int .i64 ((sz (n + 1) t : Int) + 2)) ∧ BW w' w'')) := fun W w' hW hb => by
      obtain ⟨d1, _, _, d4⟩ := do_at (HN.out.bw hW) hb
      refine ⟨may_any _ _ _ _ d1 (hv.1.bw (BW.trans hW d4)), refMay_any _ _ _ _ d1 (by rw [doT_sz]; omega), ?_⟩
      have := size_any _ _ _ w' d1
      rw [doT_sz, show wrap64 (((sz (n + 1) t + 2 : Nat)) : Int) = (sz (n + 1) t : Int) + 2 by simp [wrap64]; omega] at this
      exact this
    generalize mayB (n + 2) (doT n t) = md at *
    generalize gr (n + 1) t 0 = g at *
    generalize mayB (n + 1) t = m at *
    generalize hszz : sz (n + 1) t = z at *
    clear hszz HN s1 s2 hv wf
    generalize Nd.k (K := Tr n) t = tk at *
    generalize Nd.n (K := Tr n) t = tn at *
    generalize Nd.s (K := Tr n) t = ts at *
    have hml : kl ≤ 9223372036854775807 := by unfold maxLen at a4; omega
    clear a1 a2 a4
    cases g with
    | true =>
      go_enter Tryd.func6, Tryd.ntmps6
      go_wp2_with (first
        | (go_at_call 8; refine (GA.out _ (by repeat (first | exact BW.refl _ | assumption | apply BW.alloc | apply BW.drewN | apply BW.drew | (refine BW.setCell ?_ (by first | omega | (simp; done) | (simp; omega)) _) | (refine BW.trans ?_ (by assumption))))).mono ?_; rintro e w1 ⟨rfl, b1⟩)
        | (go_at_call 9; refine (awake_any _ (HV.out.bw (by repeat (first | exact BW.refl _ | assumption | apply BW.alloc | apply BW.drewN | apply BW.drew | (refine BW.setCell ?_ (by first | omega | (simp; done) | (simp; omega)) _) | (refine BW.trans ?_ (by assumption)))))).mono ?_; rintro e w2 ⟨rfl, b2⟩))
      go_ret
      exact ⟨rfl, (by repeat (first | exact BW.refl _ | assumption | apply BW.alloc | apply BW.drewN | apply BW.drew | (refine BW.setCell ?_ (by first | omega | (simp; done) | (simp; omega)) _) | (refine BW.trans ?_ (by assumption))))⟩
    | false =>
      cases m with
      | false =>
        go_enter Tryd.func6, Tryd.ntmps6
        go_wp2_with (first
          | (go_at_call 8; refine (GA.out _ (by repeat (first | exact BW.refl _ | assumption | apply BW.alloc | apply BW.drewN | apply BW.drew | (refine BW.setCell ?_ (by first | omega | (simp; done) | (simp; omega)) _) | (refine BW.trans ?_ (by assumption))))).mono ?_; rintro e w1 ⟨rfl, b1⟩; obtain ⟨⟨g0, g1, g2, g3, g4⟩, hz1, hb⟩ := bx_at b1)
          | (go_at_call 13; refine (RM.out _ hb).mono ?_; rintro e w2 ⟨rfl, b2⟩)
          | (go_at_call 9; refine (awake_any _ (HV.out.bw (BW.trans hb b2))).mono ?_; rintro e w3 ⟨rfl, b3⟩))
        go_ret
        exact ⟨rfl, BW.trans hb (BW.trans b2 b3)⟩
      | true =>
        have KT : Hid (∀ x ∈ Nd.ks (K := Tr n) t, mayB n x = decide (knd n x ≤ 16)) := KM.out (by first | rfl | trivial)
        clear KM
        go_enter Tryd.func6, Tryd.ntmps6
        go_wp2_with (first
          | (go_at_call 8; refine (GA.out _ (by repeat (first | exact BW.refl _ | assumption | apply BW.alloc | apply BW.drewN | apply BW.drew | (refine BW.setCell ?_ (by first | omega | (simp; done) | (simp; omega)) _) | (refine BW.trans ?_ (by assumption))))).mono ?_; rintro e w1 ⟨rfl, b1⟩; obtain ⟨⟨g0, g1, g2, g3, g4⟩, hz1, hb⟩ := bx_at b1)
          | (go_at_call 13; refine (RM.out _ hb).mono ?_; rintro e w2 ⟨rfl, b2⟩))
        have HB2 : Hid (BW (bx w tk tn ts na nl nc ka kl kc) w2) := BW.trans b1 b2
        clear b1 b2 g0 g1 g2 g3 g4 hz1 hb GA RM
        go_loopw [3] (fun i w' => ∃ j : Nat, j ≤ kl ∧ i = .int .i64 j ∧ BW (bx w tk tn ts na nl nc ka kl kc) w') (fun i _ => kl - (intOf i).toNat)
        case atStart => exact ⟨0, Nat.zero_le _, rfl, HB2.out⟩
        case round =>
          obtain ⟨j, hj, rfl, hb1⟩ := hrel
          obtain ⟨⟨g0, g1, g2, g3, g4⟩, hz1, hb⟩ := bx_at hb1
          by_cases hlt : j < kl
          · obtain ⟨bk, off, x, rfl, hbl, hx, r, hr, hax⟩ := SeqAt.get S2.out hlt
            obtain ⟨hk, hss, hk0, hk1, hsm⟩ := hax.parts
            have C14 : Hid (∀ w', BW wr w' → Calls Tryd.prog 14 #[r.v] w' fun e w'' => e = .returned (.bool (decide (r.k ≤ 16))) ∧ BW w' w'') := fun w' hb' => by
              have := MK.out r x w' hax (BW.trans hb hb')
              rw [KT.out x (List.mem_of_getElem? hx), ← hk] at this
              exact this
            obtain ⟨d0, d1, d2, d3, d4⟩ := hr.bw hb hbl
            have hz2 := hb.size
            have hnw : ¬ bk = wr.heap.size := by omega
            have hnw' : ¬ wr.heap.size = bk := by omega
            have hn0 : ¬ w.heap.size = wr.heap.size := by omega
            have hn0' : ¬ wr.heap.size = w.heap.size := by omega
            clear hax hx hr hk hss hsm KT MK DO SZ
            by_cases h16 : r.k ≤ 16
            · rw [decide_eq_true h16] at C14
              have e1 : decide ((16 : Int) < r.k) = false := decide_eq_false (by omega)
              have e2 : decide (r.k ≤ (16 : Int)) = true := decide_eq_true h16
              go_wp2_with (go_at_call 14; refine (C14.out _ (by repeat (first | exact BW.refl _ | assumption | apply BW.alloc | apply BW.drewN | apply BW.drew | (refine BW.setCell ?_ (by first | omega | (simp; done) | (simp; omega)) _) | (refine BW.trans ?_ (by assumption))))).mono ?_; rintro e w3 ⟨rfl, b3⟩)
              go_roundw
              case rel => exact ⟨j + 1, by omega, by go_num, BW.trans hb1 (BW.trans (BW.alloc (BW.refl _) _) b3)⟩
              case measure => simp [intOf]; omega
            · rw [decide_eq_false h16] at C14
              have e1 : decide ((16 : Int) < r.k) = true := decide_eq_true (by omega)
              have e2 : decide (r.k ≤ (16 : Int)) = false := decide_eq_false h16
              go_wp2_with (go_at_call 14; refine (C14.out _ (by repeat (first | exact BW.refl _ | assumption | apply BW.alloc | apply BW.drewN | apply BW.drew | (refine BW.setCell ?_ (by first | omega | (simp; done) | (simp; omega)) _) | (refine BW.trans ?_ (by assumption))))).mono ?_; rintro e w3 ⟨rfl, b3⟩; have qc := fun o => (b3.cells wr.heap.size o (by simp)).trans (cell_new wr _ _ o))
              go_roundw
              case rel => exact ⟨j + 1, by omega, by go_num, BW.trans hb1 (BW.trans (BW.alloc (BW.refl _) _) b3)⟩
              case measure => simp [intOf]; omega
          · have hjn : kl = j := by omega
            subst hjn
            clear KT MK hlt S2
            go_wp2_with (fail)
            obtain ⟨W2, hW2⟩ : ∃ W2, W2 = (wr.alloc (.cells #[.int .u8 tk, .int .i64 tn, .string ts, .slice na nl nc, .slice ka kl kc, .int .u8 4, .int .i64 0, .string ⟨#[]⟩, .slice none 0 0, .slice none 0 0] 25)).alloc (.cells #[.int .u8 10, .int .i64 0, .string ⟨#[]⟩, .slice none 0 0, .slice (some ⟨wr.heap.size, 0, none⟩) 2 2] 25) := ⟨_, rfl⟩
            have HD : Hid (∀ w', BW W2 w' → _) := fun w' h => DO.out wr w' hb (by rw [hW2] at h; exact h)
            have hbW : BW w W2 := by rw [hW2]; exact BW.alloc (BW.alloc hb _) _
            have HVW : Hid (Vs W2) := HV.out.bw hbW
            obtain ⟨⟨f0, f1, f2, f3, f4⟩, hgz, hgb⟩ := bx_at (w' := W2) (by rw [hW2]; exact BW.refl _)
            obtain ⟨⟨q0, q1, q2, q3, q4⟩, hgw, _⟩ := bx_at (w' := W2) (BW.trans hb1 (by rw [hW2]; exact BW.alloc (BW.alloc (BW.refl _) _) _))
            rw [show (wr.alloc (.cells #[.int .u8 tk, .int .i64 tn, .string ts, .slice na nl nc, .slice ka kl kc, .int .u8 4, .int .i64 0, .string ⟨#[]⟩, .slice none 0 0, .slice none 0 0] 25)).heap.size = wr.heap.size + 1 by simp] at f0 f1 f2 f3 f4 hgz
            rw [← hW2]
            have hgw' : w.heap.size < W2.heap.size := hgw
            have hwz : IntKind.i64.wrap ((z : Int) + 2) = (z : Int) + 2 := i64w _ (by omega) (by omega)
            clear hW2 g0 g1 g2 g3 g4 hgb hgw
            generalize hB : wr.heap.size = B at *
            clear hB hb1 hb HV DO
            cases md with
            | false =>
              go_region_held3 (fun w' => BW W2 w' ∧ w'.cell? ⟨B + 1, 0, none⟩ = some (.int .u8 10) ∧ w'.cell? ⟨B + 1, 1, none⟩ = some (.int .i64 0) ∧ w'.cell? ⟨B + 1, 2, none⟩ = some (.string ⟨#[]⟩) ∧ w'.cell? ⟨B + 1, 3, none⟩ = some (.slice none 0 0) ∧ w'.cell? ⟨B + 1, 4, none⟩ = some (.slice (some ⟨B, 0, none⟩) 2 2) ∧ w'.cell? ⟨w.heap.size, 0, none⟩ = some (.int .u8 tk) ∧ w'.cell? ⟨w.heap.size, 1, none⟩ = some (.int .i64 tn) ∧ w'.cell? ⟨w.heap.size, 2, none⟩ = some (.string ts) ∧ w'.cell? ⟨w.heap.size, 3, none⟩ = some (.slice na nl nc) ∧ w'.cell? ⟨w.heap.size, 4, none⟩ = some (.slice ka kl kc)) ((refine ⟨(by repeat (first | exact BW.refl _ | assumption | apply BW.alloc | apply BW.drewN | apply BW.drew | (refine BW.setCell ?_ (by first | omega | (simp; done) | (simp; omega)) _) | (refine BW.trans ?_ (by assumption)))), ?_⟩; go_keep)) (first
                | (go_at_call 9; refine (awake_any _ (HVW.out.bw (BW.trans (BW.trans (BW.trans (BW.trans (BW.drew (BW.refl W2)) b3) b4) b5) b6))).mono ?_; rintro e w8 ⟨rfl, b8⟩; have zb8 := fun o => b8.cells (B + 1) o (by have q0 := b3.size; have q1 := b4.size; have q2 := b5.size; have q3 := b6.size; simp at *; omega); have yb8 := fun o => b8.cells w.heap.size o (by have q0 := b3.size; have q1 := b4.size; have q2 := b5.size; have q3 := b6.size; simp at *; omega))
                | (go_at_call 11; refine (SZ.out _ (BW.trans hbW (BW.trans (BW.trans (BW.trans (BW.drew (BW.refl W2)) b3) b4) b5))).mono ?_; rintro e w6 ⟨rfl, b6⟩; have zb6 := fun o => b6.cells (B + 1) o (by have q0 := b3.size; have q1 := b4.size; have q2 := b5.size; simp at *; omega); have yb6 := fun o => b6.cells w.heap.size o (by have q0 := b3.size; have q1 := b4.size; have q2 := b5.size; simp at *; omega))
                | (go_at_call 11; refine ((HD.out _ (BW.trans (BW.trans (BW.drew (BW.refl W2)) b3) b4)).2.2).mono ?_; rintro e w5 ⟨rfl, b5⟩; have zb5 := fun o => b5.cells (B + 1) o (by have q0 := b3.size; have q1 := b4.size; simp at *; omega); have yb5 := fun o => b5.cells w.heap.size o (by have q0 := b3.size; have q1 := b4.size; simp at *; omega))
                | (go_at_call 13; refine ((HD.out _ (BW.trans (BW.drew (BW.refl W2)) b3)).2.1).mono ?_; rintro e w4 ⟨rfl, b4⟩; have zb4 := fun o => b4.cells (B + 1) o (by have q0 := b3.size; simp at *; omega); have yb4 := fun o => b4.cells w.heap.size o (by have q0 := b3.size; simp at *; omega))
                | (go_at_call 14; refine ((HD.out _ (BW.drew (BW.refl W2))).1).mono ?_; rintro e w3 ⟨rfl, b3⟩; have zb3 := fun o => b3.cells (B + 1) o (by simp; omega); have yb3 := fun o => b3.cells w.heap.size o (by simp; omega)))
              have HBF : Hid (BW w w8) := BW.trans hbW (BW.trans (BW.trans (BW.trans (BW.trans (BW.trans (BW.drew (BW.refl W2)) b3) b4) b5) b6) b8)
              clear zb3 zb4 zb5 zb6 zb8 yb3 yb4 yb5 yb6 yb8 b3 b4 b5 b6 b8
              go_wp2_with (fail)
              go_ret
              exact ⟨rfl, HBF.out⟩
            | true =>
              go_region_held3 (fun w' => BW W2 w' ∧ w'.cell? ⟨B + 1, 0, none⟩ = some (.int .u8 10) ∧ w'.cell? ⟨B + 1, 1, none⟩ = some (.int .i64 0) ∧ w'.cell? ⟨B + 1, 2, none⟩ = some (.string ⟨#[]⟩) ∧ w'.cell? ⟨B + 1, 3, none⟩ = some (.slice none 0 0) ∧ w'.cell? ⟨B + 1, 4, none⟩ = some (.slice (some ⟨B, 0, none⟩) 2 2) ∧ w'.cell? ⟨w.heap.size, 0, none⟩ = some (.int .u8 tk) ∧ w'.cell? ⟨w.heap.size, 1, none⟩ = some (.int .i64 tn) ∧ w'.cell? ⟨w.heap.size, 2, none⟩ = some (.string ts) ∧ w'.cell? ⟨w.heap.size, 3, none⟩ = some (.slice na nl nc) ∧ w'.cell? ⟨w.heap.size, 4, none⟩ = some (.slice ka kl kc)) ((refine ⟨(by repeat (first | exact BW.refl _ | assumption | apply BW.alloc | apply BW.drewN | apply BW.drew | (refine BW.setCell ?_ (by first | omega | (simp; done) | (simp; omega)) _) | (refine BW.trans ?_ (by assumption)))), ?_⟩; go_keep)) (first
                | (go_at_call 9; refine (awake_any _ (HVW.out.bw (BW.trans (BW.trans (BW.trans (BW.trans (BW.drew (BW.refl W2)) b3) b4) b5) b6))).mono ?_; rintro e w8 ⟨rfl, b8⟩; have zb8 := fun o => b8.cells (B + 1) o (by have q0 := b3.size; have q1 := b4.size; have q2 := b5.size; have q3 := b6.size; simp at *; omega); have yb8 := fun o => b8.cells w.heap.size o (by have q0 := b3.size; have q1 := b4.size; have q2 := b5.size; have q3 := b6.size; simp at *; omega))
                | (go_at_call 11; refine (SZ.out _ (BW.trans hbW (BW.trans (BW.trans (BW.trans (BW.drew (BW.refl W2)) b3) b4) b5))).mono ?_; rintro e w6 ⟨rfl, b6⟩; have zb6 := fun o => b6.cells (B + 1) o (by have q0 := b3.size; have q1 := b4.size; have q2 := b5.size; simp at *; omega); have yb6 := fun o => b6.cells w.heap.size o (by have q0 := b3.size; have q1 := b4.size; have q2 := b5.size; simp at *; omega))
                | (go_at_call 11; refine ((HD.out _ (BW.trans (BW.trans (BW.drew (BW.refl W2)) b3) b4)).2.2).mono ?_; rintro e w5 ⟨rfl, b5⟩; have zb5 := fun o => b5.cells (B + 1) o (by have q0 := b3.size; have q1 := b4.size; simp at *; omega); have yb5 := fun o => b5.cells w.heap.size o (by have q0 := b3.size; have q1 := b4.size; simp at *; omega))
                | (go_at_call 13; refine ((HD.out _ (BW.trans (BW.drew (BW.refl W2)) b3)).2.1).mono ?_; rintro e w4 ⟨rfl, b4⟩; have zb4 := fun o => b4.cells (B + 1) o (by have q0 := b3.size; simp at *; omega); have yb4 := fun o => b4.cells w.heap.size o (by have q0 := b3.size; simp at *; omega))
                | (go_at_call 14; refine ((HD.out _ (BW.drew (BW.refl W2))).1).mono ?_; rintro e w3 ⟨rfl, b3⟩; have zb3 := fun o => b3.cells (B + 1) o (by simp; omega); have yb3 := fun o => b3.cells w.heap.size o (by simp; omega)))
              have HBF : Hid (BW w w8) := BW.trans hbW (BW.trans (BW.trans (BW.trans (BW.trans (BW.trans (BW.drew (BW.refl W2)) b3) b4) b5) b6) b8)
              clear zb3 zb4 zb5 zb6 zb8 yb3 yb4 yb5 yb6 yb8 b3 b4 b5 b6 b8
              go_wp2_with (fail)
              go_ret
              exact ⟨rfl, HBF.out⟩

end Go.Proofs.YtiokcokmpmpcfaaDoor
