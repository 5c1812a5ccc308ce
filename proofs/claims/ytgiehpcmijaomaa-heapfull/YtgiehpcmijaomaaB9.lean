import Derived.Test.YtgiehpcmijaomaaB8
import Derived.LoopTactic
namespace Go.Proofs.Ytgiehpcmijaomaa
open Go.RowKit
set_option linter.unusedVariables false
set_option linter.unusedSimpArgs false
set_option maxRecDepth 100000 in
set_option maxHeartbeats 1000000 in
theorem full_far (limit tag : Int) (h : 300 < limit) (w : World) :
    Calls Try.prog 3 #[.int .i64 limit, .int .u8 tag] w fun e w' => e = .returned (.bool true) ∧ BW w w' := by
  go_enter Try.func3, Try.ntmps3
  go_wp2_with (go_at_call 7; refine (awake_any _).mono ?_; rintro e v1 ⟨rfl, hb1⟩)
  go_ret
  exact ⟨rfl, (by repeat (first | exact BW.refl _ | assumption | apply BW.alloc | apply BW.drewN | apply BW.drew | (refine BW.setCell ?_ (by first | omega | (simp; done) | (simp; omega)) _) | (refine BW.trans ?_ (by assumption))))⟩
set_option maxRecDepth 100000 in
set_option maxHeartbeats 8000000 in
theorem full_in (limit tag : Int) (N : Nat) (hN : N ≤ 300) (hl : limit ≤ 300) (hm : (N : Int) = max limit 0) (w : World) :
    Calls Try.prog 3 #[.int .i64 limit, .int .u8 tag] w fun e w' => e = .returned (.bool true) ∧ BW w w' := by
  have HM : Hid ((N : Int) = max limit 0) := hm
  clear hm
  go_enter Try.func3, Try.ntmps3
  go_upto_region 3 with fail
  go_cut [5] (fun p wx => p = .pointer (some ⟨w.heap.size, 0, none⟩) ∧ HeapIs wx w.heap.size w.heap.size N 0 [] ∧ BW w wx)
  case first =>
    go_wp2_with (go_at_call 8; refine (new_any limit N (by have := HM.out; omega) _).mono ?_; rintro e w1 ⟨rfl, rfl⟩)
    all_goals (go_meet; case rel => exact ⟨rfl, heap_new w _ (Nat.le_refl _) _, (by repeat (first | exact BW.refl _ | assumption | apply BW.alloc | apply BW.drewN | apply BW.drew | (refine BW.setCell ?_ (by first | omega | (simp; done) | (simp; omega)) _) | (refine BW.trans ?_ (by assumption))))⟩)
  case rest =>
  obtain ⟨rfl, H0, hB0⟩ := hcut
  go_upto_region 4 with fail
  go_cut [6] (fun p wx => p = .int .i64 N ∧ HeapIs wx w.heap.size w.heap.size N 0 [] ∧ BW w wx)
  case first =>
    go_wp2_with fail
    all_goals (go_meet; case rel => exact ⟨by have := HM.out; first | go_num | (congr 1; omega), H0, hB0⟩)
  case rest =>
  clear H0 hB0
  obtain ⟨rfl, H0, hB0⟩ := hcut
  clear HM
  go_wp2_with fail
  go_loopw [7] (fun i wr => ∃ k : Nat, k ≤ N + 3 ∧ i = .int .i64 k ∧ (∃ xs, HeapIs wr w.heap.size w.heap.size N (min k N) xs) ∧ BW w wr) (fun i _ => N + 3 - (intOf i).toNat)
  case atStart => exact ⟨0, by omega, rfl, ⟨[], by simpa using H0⟩, hB0⟩
  case round =>
    clear H0 hB0
    obtain ⟨k, hk, rfl, ⟨xs, HR⟩, hbw⟩ := hrel
    by_cases hlt : k < N + 3
    · by_cases hr : k < N
      · rw [Nat.min_eq_left (by omega)] at HR
        go_wp2_with (go_at_call 9; refine (cell_room w.heap.size w.heap.size N k xs (by omega) (by omega) _ _ _ _ HR).mono ?_; rintro e w1 ⟨rfl, H1, F1⟩; have B1 : BW w w1 := Below.trans hbw F1.bel; have z1 := F1.size)
        go_roundw
        case rel => exact ⟨k + 1, by omega, by go_num, ⟨_, by rw [Nat.min_eq_left (by omega)]; exact H1.bw (by repeat (first | exact BW.refl _ | assumption | apply BW.alloc | apply BW.drewN | apply BW.drew | (refine BW.setCell ?_ (by first | omega | (simp; done) | (simp; omega)) _) | (refine BW.trans ?_ (by assumption))))⟩, (by repeat (first | exact BW.refl _ | assumption | apply BW.alloc | apply BW.drewN | apply BW.drew | (refine BW.setCell ?_ (by first | omega | (simp; done) | (simp; omega)) _) | (refine BW.trans ?_ (by assumption))))⟩
        case measure => simp [intOf]; omega
      · rw [Nat.min_eq_right (by omega)] at HR
        go_wp2_with (go_at_call 9; refine (cell_full w.heap.size w.heap.size N N xs (by omega) _ _ _ _ HR).mono ?_; rintro e w1 ⟨rfl, hb1⟩; have B1 : BW w w1 := hbw.trans hb1; have z1 := hb1.size; have H1 := HR.bw hb1)
        go_roundw
        case rel => exact ⟨k + 1, by omega, by go_num, ⟨_, by rw [Nat.min_eq_right (by omega)]; exact H1.bw (by repeat (first | exact BW.refl _ | assumption | apply BW.alloc | apply BW.drewN | apply BW.drew | (refine BW.setCell ?_ (by first | omega | (simp; done) | (simp; omega)) _) | (refine BW.trans ?_ (by assumption))))⟩, (by repeat (first | exact BW.refl _ | assumption | apply BW.alloc | apply BW.drewN | apply BW.drew | (refine BW.setCell ?_ (by first | omega | (simp; done) | (simp; omega)) _) | (refine BW.trans ?_ (by assumption))))⟩
        case measure => simp [intOf]; omega
    · rw [Nat.min_eq_right (by omega)] at HR
      obtain rfl | rfl | ⟨t6, t7⟩ : tag = 6 ∨ tag = 7 ∨ ((tag == 6) = false ∧ (tag == 7) = false) := by simp; omega
      · go_wp2_with (first | (go_at_call 10; refine (make_full w.heap.size w.heap.size N N xs (by omega) _ _ (by decide) _ HR).mono ?_; rintro e w1 ⟨rfl, hb1⟩; have B1 : BW w w1 := hbw.trans hb1; have z1 := hb1.size; have H1 := HR.bw hb1) | (go_at_call 11; refine (len_any w.heap.size w.heap.size N N _ _ (H1.bw (by repeat (first | exact BW.refl _ | assumption | apply BW.alloc | apply BW.drewN | apply BW.drew | (refine BW.setCell ?_ (by first | omega | (simp; done) | (simp; omega)) _) | (refine BW.trans ?_ (by assumption)))))).mono ?_; rintro e w2 ⟨rfl, rfl⟩) | (go_at_call 7; refine (awake_any _).mono ?_; rintro e w3 ⟨rfl, hb3⟩))
        go_ret
        exact ⟨rfl, (by repeat (first | exact BW.refl _ | assumption | apply BW.alloc | apply BW.drewN | apply BW.drew | (refine BW.setCell ?_ (by first | omega | (simp; done) | (simp; omega)) _) | (refine BW.trans ?_ (by assumption))))⟩
      · go_wp2_with (first | (go_at_call 10; refine (make_full w.heap.size w.heap.size N N xs (by omega) _ _ (by decide) _ HR).mono ?_; rintro e w1 ⟨rfl, hb1⟩; have B1 : BW w w1 := hbw.trans hb1; have z1 := hb1.size; have H1 := HR.bw hb1) | (go_at_call 11; refine (len_any w.heap.size w.heap.size N N _ _ (H1.bw (by repeat (first | exact BW.refl _ | assumption | apply BW.alloc | apply BW.drewN | apply BW.drew | (refine BW.setCell ?_ (by first | omega | (simp; done) | (simp; omega)) _) | (refine BW.trans ?_ (by assumption)))))).mono ?_; rintro e w2 ⟨rfl, rfl⟩) | (go_at_call 7; refine (awake_any _).mono ?_; rintro e w3 ⟨rfl, hb3⟩))
        go_ret
        exact ⟨rfl, (by repeat (first | exact BW.refl _ | assumption | apply BW.alloc | apply BW.drewN | apply BW.drew | (refine BW.setCell ?_ (by first | omega | (simp; done) | (simp; omega)) _) | (refine BW.trans ?_ (by assumption))))⟩
      · have n6 : ¬ tag = 6 := by simpa using t6
        have n7 : ¬ tag = 7 := by simpa using t7
        have m6 : (tag != 6) = true := by simpa using t6
        have m7 : (tag != 7) = true := by simpa using t7
        go_wp2_with (first | (go_at_call 10; refine (make_arg _ _ _ t6 t7 _).mono ?_; rintro e w1 ⟨rfl, hb1⟩; have B1 : BW w w1 := hbw.trans hb1; have z1 := hb1.size; have H1 := HR.bw hb1) | (go_at_call 11; refine (len_any w.heap.size w.heap.size N N _ _ (H1.bw (by repeat (first | exact BW.refl _ | assumption | apply BW.alloc | apply BW.drewN | apply BW.drew | (refine BW.setCell ?_ (by first | omega | (simp; done) | (simp; omega)) _) | (refine BW.trans ?_ (by assumption)))))).mono ?_; rintro e w2 ⟨rfl, rfl⟩) | (go_at_call 7; refine (awake_any _).mono ?_; rintro e w3 ⟨rfl, hb3⟩))
        go_ret
        exact ⟨rfl, (by repeat (first | exact BW.refl _ | assumption | apply BW.alloc | apply BW.drewN | apply BW.drew | (refine BW.setCell ?_ (by first | omega | (simp; done) | (simp; omega)) _) | (refine BW.trans ?_ (by assumption))))⟩
theorem full_walk (limit tag : Int) (w : World) :
    Calls Try.prog 3 #[.int .i64 limit, .int .u8 tag] w fun e w' => e = .returned (.bool true) ∧ BW w w' := by
  by_cases h : 300 < limit
  · exact full_far limit tag h w
  · exact full_in limit tag (max limit 0).toNat (by omega) (by omega) (by omega) w
end Go.Proofs.Ytgiehpcmijaomaa
