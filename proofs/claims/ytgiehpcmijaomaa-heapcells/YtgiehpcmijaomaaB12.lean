import Derived.Test.YtgiehpcmijaomaaB11
import Derived.OwnWalk
namespace Go.Proofs.Ytgiehpcmijaomaa
open Go.RowKit
set_option linter.unusedVariables false
set_option linter.unusedSimpArgs false
set_option maxRecDepth 100000 in
set_option maxHeartbeats 8000000 in
theorem cells_walk (n k : Int) (n0 : 0 ≤ n) (n1 : n ≤ 255) (k0 : 0 ≤ k) (k1 : k ≤ 255) (tv nv : Int) (sv : ByteArray) (tw nw : Int) (sw : ByteArray) (M A : Nat) (hM : (M : Int) = n % 100 + 1) (hM1 : 0 < M) (hM2 : M ≤ 100) (hA : (A : Int) = k % M) (hAM : A < M) (w : World) :
    Calls Try.prog 5 #[.int .u8 n, .int .u8 k, V tv nv sv, V tw nw sw] w fun e w' => e = .returned (.bool true) ∧ BW w w' := by
  have HM : Hid ((M : Int) = n % 100 + 1) := hM
  have HA : Hid ((A : Int) = k % M) := hA
  clear hM hA
  obtain ⟨i0, hi, hz0, hz1, hz2⟩ := info_parts Try.info26
  go_enter Try.func5, Try.ntmps5
  go_upto_region 1 with fail
  go_cut [9] (fun p wx => p = .int .i64 M ∧ Box wx w.heap.size tv nv sv ∧ Box wx (w.heap.size + 1) tw nw sw ∧ Hid (wx.heap.size = w.heap.size + 1 + 1) ∧ BW w wx)
  case first =>
    go_wp2_with fail
    all_goals (go_meet; case rel => exact ⟨by have := HM.out; first | go_num | (congr 1; omega), new_a0 _ _ _, new_b0 _ _ _, (by simp : _ = _), (by repeat (first | exact BW.refl _ | assumption | apply BW.alloc | apply BW.drewN | apply BW.drew | (refine BW.setCell ?_ (by first | omega | (simp; done) | (simp; omega)) _) | (refine BW.trans ?_ (by assumption))))⟩)
  case rest =>
  obtain ⟨rfl, X6, X7, hS, hB0⟩ := hcut
  clear HM
  go_upto_region 2 with fail
  go_cut [10] (fun p wx => ∃ b, p = .pointer (some ⟨b, 0, none⟩) ∧ w.heap.size + 1 < b ∧ HeapIs wx w.heap.size b 1000 0 [] ∧ Box wx w.heap.size tv nv sv ∧ Box wx (w.heap.size + 1) tw nw sw ∧ BW w wx)
  case first =>
    go_wp2_with (go_at_call 8; refine (new_any 1000 1000 (by decide) _).mono ?_; rintro e w1 ⟨rfl, rfl⟩)
    all_goals (go_meet; case rel => exact ⟨_, rfl, by have := hS.out; omega, heap_new _ _ (by have := hS.out; omega) _, X6.bw (by repeat (first | exact BW.refl _ | assumption | apply BW.alloc | apply BW.drewN | apply BW.drew | (refine BW.setCell ?_ (by first | omega | (simp; done) | (simp; omega)) _) | (refine BW.trans ?_ (by assumption)))), X7.bw (by repeat (first | exact BW.refl _ | assumption | apply BW.alloc | apply BW.drewN | apply BW.drew | (refine BW.setCell ?_ (by first | omega | (simp; done) | (simp; omega)) _) | (refine BW.trans ?_ (by assumption)))), (by repeat (first | exact BW.refl _ | assumption | apply BW.alloc | apply BW.drewN | apply BW.drew | (refine BW.setCell ?_ (by first | omega | (simp; done) | (simp; omega)) _) | (refine BW.trans ?_ (by assumption))))⟩)
  case rest =>
  clear X6 X7 hS hB0
  obtain ⟨b, rfl, hb1, H0, X6, X7, hB0⟩ := hcut
  have hbl := H0.lt
  go_upto_region 3 with fail
  go_cut [11] (fun p wx => HeapIs wx w.heap.size b 1000 0 [] ∧ Box wx w.heap.size tv nv sv ∧ Box wx (w.heap.size + 1) tw nw sw ∧ wx.ownsRow (b + 1) 26 3 p 0 [] ∧ BW w wx)
  case first =>
    go_wp2_with fail
    all_goals (go_meet; case rel => exact ⟨H0.bw (by repeat (first | exact BW.refl _ | assumption | apply BW.alloc | apply BW.drewN | apply BW.drew | (refine BW.setCell ?_ (by first | omega | (simp; done) | (simp; omega)) _) | (refine BW.trans ?_ (by assumption)))), X6.bw (by repeat (first | exact BW.refl _ | assumption | apply BW.alloc | apply BW.drewN | apply BW.drew | (refine BW.setCell ?_ (by first | omega | (simp; done) | (simp; omega)) _) | (refine BW.trans ?_ (by assumption)))), X7.bw (by repeat (first | exact BW.refl _ | assumption | apply BW.alloc | apply BW.drewN | apply BW.drew | (refine BW.setCell ?_ (by first | omega | (simp; done) | (simp; omega)) _) | (refine BW.trans ?_ (by assumption)))), empty_own _ _ (by omega), (by repeat (first | exact BW.refl _ | assumption | apply BW.alloc | apply BW.drewN | apply BW.drew | (refine BW.setCell ?_ (by first | omega | (simp; done) | (simp; omega)) _) | (refine BW.trans ?_ (by assumption))))⟩)
  case rest =>
  clear X6 X7 H0 hB0
  obtain ⟨H0, X6, X7, O0, hB0⟩ := hcut
  go_wp2_with fail
  go_loopw [11, 12] (fun v i wr => ∃ j : Nat, ∃ xs ys, j ≤ M ∧ i = .int .i64 j ∧ HeapIs wr w.heap.size b 1000 j xs ∧ COf xs j tv nv sv ∧ wr.ownsRow (b + 1) 26 3 v j ys ∧ ROf ys j ∧ Box wr w.heap.size tv nv sv ∧ Box wr (w.heap.size + 1) tw nw sw ∧ BW w wr) (fun _ i _ => M - (intOf i).toNat)
  case atStart => exact ⟨0, [], [], by omega, rfl, H0, ⟨rfl, fun j hj => by omega⟩, O0, ⟨rfl, fun j hj => by omega⟩, X6, X7, hB0⟩
  case round =>
    clear H0 X6 X7 O0 hB0
    obtain ⟨j, xs, ys, hj, rfl, HR, CO, OR, RO, X6, X7, hbw⟩ := hrel
    have hbl2 := HR.lt
    by_cases hlt : j < M
    · have y0 := X6.c0
      have y1 := X6.c1
      have y2 := X6.c2
      have l6 := X6.lt
      have X6' : Hid _ := X6
      have X7' : Hid _ := X7
      have CO' : Hid _ := CO
      have RO' : Hid _ := RO
      have HR' : Hid _ := HR
      have OR' : Hid _ := OR
      have hbw' : Hid _ := hbw
      clear X6 X7 CO RO HR OR hbw
      go_wp2_with fail
      refine (cell_room w.heap.size b 1000 j xs (by omega) (by omega) _ _ _ _ HR'.out).mono ?_
      rintro e w1 ⟨rfl, H1, F1⟩
      have Z6 := Box.fr X6'.out F1 (by omega)
      have Z7 := Box.fr X7'.out F1 (by omega)
      have ZO := own26_fr OR'.out F1 (by omega)
      have ZB : BW w w1 := Below.trans hbw'.out F1.bel
      have hbl3 := H1.lt
      clear F1 y0 y1 y2
      have H1' : Hid _ := H1
      have Z6' : Hid _ := Z6
      have Z7' : Hid _ := Z7
      have ZB' : Hid _ := ZB
      clear H1 Z6 Z7 ZB
      go_wp2_with (at_builtin; refine wpList_append_own _ rfl _ _ 38 rfl (b + 1) 26 i0 _ 3 32 Try.underlying38 hi hz0 hz1 hz2 rfl (by decide) _ _ _ rfl (own_bw ZO (by repeat (first | exact BW.refl _ | apply BW.alloc | apply BW.drewN | apply BW.drew))) ⟨_, 0, none⟩ 1 1 [.int .u8 5, .int .i64 j, .string ⟨#[]⟩] (by simp [Act.eval]; rfl) rfl (fun q u hq => cell_at_new _ (by simp) q u hq) (by intro u hu; simp at hu; rcases hu with rfl | rfl | rfl <;> rfl) (by unfold maxLen; omega) (by omega) (by first | (simp; done) | (simp; omega)) ?_; intro v' w2 O2 G2 _)
      obtain ⟨E1, E2, E3, E4⟩ := rows_end ZO (by repeat (first | exact BW.refl _ | apply BW.alloc | apply BW.drewN | apply BW.drew)) G2 H1'.out Z6'.out Z7'.out ZB'.out (by omega) (by omega) (by omega)
      go_roundw
      case rel => exact ⟨j + 1, _, _, by omega, by go_num, E1, COf.snoc CO'.out, O2, ROf.snoc RO'.out, E2, E3, E4⟩
      case measure => simp [intOf]; omega
    · obtain rfl : j = M := by omega
      obtain ⟨g, cap, rfl⟩ := Go.Joins.ownsRow_form OR (by omega)
      have r0 := RO.2 0 (by omega)
      have g0 := own26_cell OR r0.1
      have g1 := own26_cell OR r0.2.1
      have g2 := own26_cell OR r0.2.2
      simp at g0 g1 g2
      have y0 := X6.c0
      have y1 := X6.c1
      have y2 := X6.c2
      have l6 := X6.lt
      have lg : g < wr.heap.size := World.block_lt_of_cell? wr _ g0
      clear r0
      go_upto_region 9 with fail
      go_cut [15, 16] (fun p q wx => ∃ b15, p = .pointer (some ⟨b15, 0, none⟩) ∧ q = .int .i64 0 ∧ HeapIs wx w.heap.size b 1000 (j + 1) (xs ++ thing 4 5 0 ⟨#[]⟩ tv nv sv 0) ∧ wx.ownsRow (b + 1) 26 3 (.slice (some ⟨g, 0, none⟩) j cap) j ys ∧ Box wx w.heap.size tv nv sv ∧ Box wx (w.heap.size + 1) tw nw sw ∧ Box wx b15 4 j ⟨#[]⟩ ∧ b < b15 ∧ BW w wx)
      case first =>
        have HR' : Hid _ := HR
        have OR' : Hid _ := OR
        have X6' : Hid _ := X6
        have X7' : Hid _ := X7
        have CO' : Hid _ := CO
        have RO' : Hid _ := RO
        have hbw' : Hid _ := hbw
        have zw := hbw.size
        clear HR OR X6 X7 CO RO hbw
        go_region_with (go_at_call 12; refine (pair_room w.heap.size b 1000 j xs (by omega) (by omega) _ _ _ _ _ _ _ (HeapIs.bw HR'.out (by repeat (first | exact BW.refl _ | apply BW.alloc | apply BW.drewN | apply BW.drew)))).mono ?_; rintro e w1 ⟨rfl, H1, F1⟩; have hz := F1.size; (try simp at hz); (try (have q := Fr.at26 (k := wr.heap.size) F1 (new_at _ _ _ (by simp)) (by omega); have k0 : w1.cell? ⟨wr.heap.size, 0, none⟩ = some _ := (by simp only [World.cell?, q]; rfl); have k1 : w1.cell? ⟨wr.heap.size, 1, none⟩ = some _ := (by simp only [World.cell?, q]; rfl); have k2 : w1.cell? ⟨wr.heap.size, 2, none⟩ = some _ := (by simp only [World.cell?, q]; rfl); have f0 : w1.frozen? ⟨wr.heap.size, 0, none⟩ = false := (by simp [World.frozen?, q]); have f1 : w1.frozen? ⟨wr.heap.size, 1, none⟩ = false := (by simp [World.frozen?, q]); have f2 : w1.frozen? ⟨wr.heap.size, 2, none⟩ = false := (by simp [World.frozen?, q]))))
        all_goals go_wp2_with fail
        all_goals
          have FF : Fr w.heap.size b wr w1 := (BW.fr (by repeat (first | exact BW.refl _ | apply BW.alloc | apply BW.drewN | apply BW.drew)) (by omega)).trans F1
          go_meet
          case rel => first
            | (have FF2 := FF.trans (BW.fr ((BW.refl w1).alloc (.cells #[.int .u8 4, .int .i64 j, .string ⟨#[]⟩] 26)) (by omega)); obtain ⟨E1, E2, E3, E4⟩ := pair_end FF2 OR'.out X6'.out X7'.out hbw'.out (by omega) (by omega); exact ⟨_, rfl, rfl, H1.bw ((BW.refl w1).alloc _), E1, E2, E3, new_at _ _ _ rfl, by omega, E4⟩)
            | (obtain ⟨E1, E2, E3, E4⟩ := pair_end (FF.put3 (k := wr.heap.size) (by omega) (Nat.le_refl _) (.int .u8 4) (.int .i64 j) (.string ⟨#[]⟩)) OR'.out X6'.out X7'.out hbw'.out (by omega) (by omega); exact ⟨_, rfl, rfl, H1.put3 q _ _ _, E1, E2, E3, box_put q _ _ _, by omega, E4⟩)
      case rest =>
      have HA2 : Hid ((A : Int) = k % (j : Int)) := HA
      clear g0 g1 g2 y0 y1 y2 l6 lg HR OR X6 X7 hbw HA
      obtain ⟨b15, rfl, rfl, HR, OR, X6, X7, X15, hb15, hbw⟩ := hcut
      go_upto_region 10 with fail
      go_cut [17] (fun p wx => p = .int .i64 A ∧ wx = wc)
      case first =>
        go_wp2_with fail
        all_goals (go_meet; case rel => exact ⟨by have := HA2.out; first | go_num | (congr 1; omega), rfl⟩)
      case rest =>
      obtain ⟨rfl, rfl⟩ := hcut
      clear HA2
      have rA := RO.2 A hAM
      have g0 := own26_cell OR rA.1
      have g1 := own26_cell OR rA.2.1
      have g2 := own26_cell OR rA.2.2
      have y0 := X7.c0
      have y1 := X7.c1
      have y2 := X7.c2
      have l7 := X7.lt
      have lg : g < wc.heap.size := World.block_lt_of_cell? wc _ g0
      have hdA : decide ((A : Int) < (j : Int)) = true := by simpa using hAM
      clear rA
      go_upto_region 11 with fail
      go_cut [70] (fun p wx => p = .bool false ∧ (∃ xs2, HeapIs wx w.heap.size b 1000 (j + 1) xs2 ∧ FOf xs2 j A tv nv sv tw nw sw) ∧ wx.ownsRow (b + 1) 26 3 (.slice (some ⟨g, 0, none⟩) j cap) j ys ∧ Box wx w.heap.size tv nv sv ∧ Box wx (w.heap.size + 1) tw nw sw ∧ Box wx b15 4 j ⟨#[]⟩ ∧ BW w wx)
      case first =>
        have P := CO.pair (thing 4 5 0 ⟨#[]⟩ tv nv sv 0) A hAM
        have FO := FOf.mk' CO hAM tw nw sw
        have P' : Hid _ := P
        have FO' : Hid _ := FO
        have HR' : Hid _ := HR
        have OR' : Hid _ := OR
        have X6' : Hid _ := X6
        have X7' : Hid _ := X7
        have X15' : Hid _ := X15
        have hbw' : Hid _ := hbw
        have zw := hbw.size
        clear HR OR X6 X7 X15 CO RO hbw P FO
        go_region_with (go_at_call 14; refine (set_ok w.heap.size b 1000 (j + 1) _ A (by omega) (by omega) P'.out.1 _ _ _ P'.out.2.1 P'.out.2.2.1 P'.out.2.2.2 _ _ _ _ (HeapIs.bw HR'.out (by repeat (first | exact BW.refl _ | apply BW.alloc | apply BW.drewN | apply BW.drew)))).mono ?_; rintro e w1 ⟨rfl, H1, F1⟩)
        all_goals go_wp2_with fail
        all_goals
          have FF : Fr w.heap.size b wc w1 := (BW.fr (by repeat (first | exact BW.refl _ | apply BW.alloc | apply BW.drewN | apply BW.drew)) (by omega)).trans F1
          obtain ⟨E1, E2, E3, E4⟩ := pair_end FF OR'.out X6'.out X7'.out hbw'.out (by omega) (by omega)
          go_meet
          case rel => exact ⟨rfl, ⟨_, H1, FO'.out⟩, E1, E2, E3, Box.fr X15'.out FF (by omega), E4⟩
      case rest =>
      clear g0 g1 g2 y0 y1 y2 l7 lg HR OR X6 X7 X15 hbw CO
      obtain ⟨rfl, ⟨xs2, HR, FO⟩, OR, X6, X7, X15, hbw⟩ := hcut
      go_wp2_with fail
      go_loopw [18] (fun s wr => ∃ i : Nat, i ≤ j ∧ s = .int .i64 i ∧ HeapIs wr w.heap.size b 1000 (j + 1) xs2 ∧ wr.ownsRow (b + 1) 26 3 (.slice (some ⟨g, 0, none⟩) j cap) j ys ∧ Box wr w.heap.size tv nv sv ∧ Box wr (w.heap.size + 1) tw nw sw ∧ Box wr b15 4 j ⟨#[]⟩ ∧ BW w wr) (fun s _ => j - (intOf s).toNat)
      case atStart => exact ⟨0, by omega, rfl, HR, OR, X6, X7, X15, hbw⟩
      case round =>
        clear HR OR X6 X7 X15 hbw
        obtain ⟨i, hij, rfl, HR, OR, X6, X7, X15, hbw⟩ := hrel
        have zw := hbw.size
        have hHl := HR.lt
        by_cases hlt : i < j
        · have rA := RO.2 i hlt
          have g0 := own26_cell OR rA.1
          have g1 := own26_cell OR rA.2.1
          have g2 := own26_cell OR rA.2.2
          have c0 := X6.c0
          have c1 := X6.c1
          have c2 := X6.c2
          have d0 := X7.c0
          have d1 := X7.c1
          have d2 := X7.c2
          have l6 := X6.lt
          have l7 := X7.lt
          have lg : g < wr.heap.size := World.block_lt_of_cell? wr _ g0
          have FO' : Hid _ := FO
          have HR' : Hid _ := HR
          have OR' : Hid _ := OR
          have X6' : Hid _ := X6
          have X7' : Hid _ := X7
          have X15' : Hid _ := X15
          have hbw' : Hid _ := hbw
          have RO' : Hid _ := RO
          clear rA FO HR OR X6 X7 X15 hbw RO
          by_cases hiA : i = A
          · subst hiA
            go_wp2_with fail
            refine (get_ok w.heap.size b 1000 (j + 1) xs2 i (by omega) (by omega) (FO'.out.tag i hlt) _ _ _ FO'.out.own.1 FO'.out.own.2.1 FO'.out.own.2.2 _ HR'.out).mono ?_
            rintro e w1 ⟨rfl, hb1⟩
            have z1 := hb1.size
            have m0 := fun o => hb1.cells w.heap.size o (by first | omega | (simp; done) | (simp; omega))
            have m1 := fun o => hb1.cells (w.heap.size + 1) o (by first | omega | (simp; done) | (simp; omega))
            have n6 : w.heap.size < w1.heap.size := by omega
            have n7 : w.heap.size + 1 < w1.heap.size := by omega
            go_wp2_with fail
            go_roundw
            case rel => exact ⟨i + 1, by omega, by go_num, HeapIs.bw HR'.out (by repeat (first | exact BW.refl _ | assumption | apply BW.alloc | apply BW.drewN | apply BW.drew | (refine BW.setCell ?_ (by first | omega | (simp; done) | (simp; omega)) _) | (refine BW.trans ?_ (by assumption)))), own_bw OR'.out (by repeat (first | exact BW.refl _ | assumption | apply BW.alloc | apply BW.drewN | apply BW.drew | (refine BW.setCell ?_ (by first | omega | (simp; done) | (simp; omega)) _) | (refine BW.trans ?_ (by assumption)))), Box.bw X6'.out (by repeat (first | exact BW.refl _ | assumption | apply BW.alloc | apply BW.drewN | apply BW.drew | (refine BW.setCell ?_ (by first | omega | (simp; done) | (simp; omega)) _) | (refine BW.trans ?_ (by assumption)))), Box.bw X7'.out (by repeat (first | exact BW.refl _ | assumption | apply BW.alloc | apply BW.drewN | apply BW.drew | (refine BW.setCell ?_ (by first | omega | (simp; done) | (simp; omega)) _) | (refine BW.trans ?_ (by assumption)))), Box.bw X15'.out (by repeat (first | exact BW.refl _ | assumption | apply BW.alloc | apply BW.drewN | apply BW.drew | (refine BW.setCell ?_ (by first | omega | (simp; done) | (simp; omega)) _) | (refine BW.trans ?_ (by assumption)))), BW.trans hbw'.out (by repeat (first | exact BW.refl _ | assumption | apply BW.alloc | apply BW.drewN | apply BW.drew | (refine BW.setCell ?_ (by first | omega | (simp; done) | (simp; omega)) _) | (refine BW.trans ?_ (by assumption))))⟩
            case measure => simp [intOf]; omega
          · have q1 := FO'.out.oth i hlt hiA
            have q1' : Hid _ := q1
            clear q1
            have t1 : ((i : Int) == (A : Int)) = false := by simp; omega
            have t2 : ((i : Int) != (A : Int)) = true := by simp; omega
            have t3 : ¬ (i : Int) = (A : Int) := by omega
            go_wp2_with fail
            refine (get_ok w.heap.size b 1000 (j + 1) xs2 i (by omega) (by omega) (FO'.out.tag i hlt) _ _ _ q1'.out.1 q1'.out.2.1 q1'.out.2.2 _ HR'.out).mono ?_
            rintro e w1 ⟨rfl, hb1⟩
            have z1 := hb1.size
            have m0 := fun o => hb1.cells w.heap.size o (by first | omega | (simp; done) | (simp; omega))
            have m1 := fun o => hb1.cells (w.heap.size + 1) o (by first | omega | (simp; done) | (simp; omega))
            have n6 : w.heap.size < w1.heap.size := by omega
            have n7 : w.heap.size + 1 < w1.heap.size := by omega
            go_wp2_with fail
            go_roundw
            case rel => exact ⟨i + 1, by omega, by go_num, HeapIs.bw HR'.out (by repeat (first | exact BW.refl _ | assumption | apply BW.alloc | apply BW.drewN | apply BW.drew | (refine BW.setCell ?_ (by first | omega | (simp; done) | (simp; omega)) _) | (refine BW.trans ?_ (by assumption)))), own_bw OR'.out (by repeat (first | exact BW.refl _ | assumption | apply BW.alloc | apply BW.drewN | apply BW.drew | (refine BW.setCell ?_ (by first | omega | (simp; done) | (simp; omega)) _) | (refine BW.trans ?_ (by assumption)))), Box.bw X6'.out (by repeat (first | exact BW.refl _ | assumption | apply BW.alloc | apply BW.drewN | apply BW.drew | (refine BW.setCell ?_ (by first | omega | (simp; done) | (simp; omega)) _) | (refine BW.trans ?_ (by assumption)))), Box.bw X7'.out (by repeat (first | exact BW.refl _ | assumption | apply BW.alloc | apply BW.drewN | apply BW.drew | (refine BW.setCell ?_ (by first | omega | (simp; done) | (simp; omega)) _) | (refine BW.trans ?_ (by assumption)))), Box.bw X15'.out (by repeat (first | exact BW.refl _ | assumption | apply BW.alloc | apply BW.drewN | apply BW.drew | (refine BW.setCell ?_ (by first | omega | (simp; done) | (simp; omega)) _) | (refine BW.trans ?_ (by assumption)))), BW.trans hbw'.out (by repeat (first | exact BW.refl _ | assumption | apply BW.alloc | apply BW.drewN | apply BW.drew | (refine BW.setCell ?_ (by first | omega | (simp; done) | (simp; omega)) _) | (refine BW.trans ?_ (by assumption))))⟩
            case measure => simp [intOf]; omega
        · have rA := RO.2 0 (by omega)
          have g0 := own26_cell OR rA.1
          have g1 := own26_cell OR rA.2.1
          have g2 := own26_cell OR rA.2.2
          simp at g0 g1 g2
          have c0 := X6.c0
          have c1 := X6.c1
          have c2 := X6.c2
          have d0 := X15.c0
          have d1 := X15.c1
          have d2 := X15.c2
          have l6 := X6.lt
          have l15 := X15.lt
          have lg : g < wr.heap.size := World.block_lt_of_cell? wr _ g0
          have FO' : Hid _ := FO
          have HR' : Hid _ := HR
          have hbw' : Hid _ := hbw
          clear rA FO HR OR X6 X7 X15 hbw RO
          go_wp2_with fail
          refine (fst_ok w.heap.size b 1000 (j + 1) xs2 j (by omega) (by omega) FO'.out.ptag _ _ _ FO'.out.fst.1 FO'.out.fst.2.1 FO'.out.fst.2.2 _ HR'.out).mono ?_
          rintro e w1 ⟨rfl, hb1⟩
          have z1 := hb1.size
          have m0 := fun o => hb1.cells w.heap.size o (by first | omega | (simp; done) | (simp; omega))
          have m1 := fun o => hb1.cells b15 o (by first | omega | (simp; done) | (simp; omega))
          have m2 := fun o => hb1.cells g o (by first | omega | (simp; done) | (simp; omega))
          have n6 : w.heap.size < w1.heap.size := by omega
          have n15 : b15 < w1.heap.size := by omega
          have ng : g < w1.heap.size := by omega
          go_wp2_with fail
          refine (snd_ok w.heap.size b 1000 (j + 1) xs2 j (by omega) (by omega) FO'.out.ptag _ _ _ FO'.out.snd.1 FO'.out.snd.2.1 FO'.out.snd.2.2 _ (HeapIs.bw HR'.out (by repeat (first | exact BW.refl _ | assumption | apply BW.alloc | apply BW.drewN | apply BW.drew | (refine BW.setCell ?_ (by first | omega | (simp; done) | (simp; omega)) _) | (refine BW.trans ?_ (by assumption)))))).mono ?_
          rintro e w2 ⟨rfl, hb2⟩
          have z2 := hb2.size
          simp at z2
          have p0 := fun o => hb2.cells w.heap.size o (by first | omega | (simp; done) | (simp; omega))
          have p2 := fun o => hb2.cells g o (by first | omega | (simp; done) | (simp; omega))
          have p3 := fun o => hb2.cells w1.heap.size o (by first | omega | (simp; done) | (simp; omega))
          have o6 : w.heap.size < w2.heap.size := by omega
          have og : g < w2.heap.size := by omega
          have o1 : w1.heap.size < w2.heap.size := by omega
          have hB2 : BW w w2 := BW.trans hbw'.out (by repeat (first | exact BW.refl _ | assumption | apply BW.alloc | apply BW.drewN | apply BW.drew | (refine BW.setCell ?_ (by first | omega | (simp; done) | (simp; omega)) _) | (refine BW.trans ?_ (by assumption))))
          go_wp2_with fail
          go_region_with (go_at_call 7; refine (awake_any _).mono ?_; rintro e w3 ⟨rfl, hb3⟩)
          all_goals go_wp2_with fail
          all_goals go_ret
          all_goals exact ⟨rfl, (by repeat (first | exact BW.refl _ | assumption | apply BW.alloc | apply BW.drewN | apply BW.drew | (refine BW.setCell ?_ (by first | omega | (simp; done) | (simp; omega)) _) | (refine BW.trans ?_ (by assumption))))⟩
end Go.Proofs.Ytgiehpcmijaomaa
