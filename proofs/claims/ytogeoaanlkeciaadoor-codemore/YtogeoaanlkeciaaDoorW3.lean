import Derived.Test.YtogeoaanlkeciaaDoorW2
namespace Go.Proofs.YtogeoaanlkeciaaDoor
open Go.RowKit
set_option linter.unusedVariables false
set_option linter.unusedSimpArgs false

theorem words_at (k : Nat) (hk : k < 32) (w : World) (hv : Cw w) : Calls Tryd.prog 17 #[] w fun e w' => e = .returned (.slice (some ⟨w.heap.size, 0, none⟩) 32 32) ∧ BW w w' ∧ w.heap.size < w'.heap.size ∧ w'.cell? ⟨w.heap.size, k, none⟩ = some (.string (wk k)) := by
  refine (words_any w hv).mono ?_
  rintro e w' ⟨rfl, rfl⟩
  refine ⟨rfl, BW.alloc (BW.refl _) _, by simp, ?_⟩
  have := (StrsAt.ofCells w 66).get hk
  obtain ⟨_, off, x, e, hbl, hx, _, hc⟩ := this
  cases e; rw [wl_get k hk] at hx; cases hx; simpa using hc
set_option maxRecDepth 100000 in
set_option maxHeartbeats 4000000 in
theorem codeWords_any (a : Nat) (ha : a ≤ 255) (s : ByteArray) (w : World) (hv : Vs w) : Calls Tryd.prog 5 #[.int .u8 a, .string s] w fun e w' => e = .returned (.bool true) ∧ BW w w' := by
  have HV : Hid (Vs w) := hv
  clear hv
  go_enter Tryd.func5, Tryd.ntmps5
  go_wp2_with (first
    | (go_at_call 17; refine (words_any _ HV.out.2).mono ?_; rintro e w1 ⟨rfl, hw1⟩; have HA : Hid (StrsAt w1 (some ⟨w.heap.size, 0, none⟩) 32 wl) := by rw [hw1]; exact StrsAt.ofCells w 66
       have z1 : w1.heap.size = w.heap.size + 1 := by rw [hw1]; simp
       have b1 : BW w w1 := by rw [hw1]; exact BW.alloc (BW.refl _) _
       have hf0 : ∀ j, w1.frozen? ⟨w.heap.size, j, none⟩ = false := by intro j; rw [hw1]; exact frozen_of_row _ _ j _ _ (heap_alloc_new w _)
       clear hw1)
    | (go_at_call 18; refine (refWords_any _).mono ?_; rintro e w2 ⟨⟨g, cp, rfl, hs2, hcp, hg⟩, b2⟩; have HS : Hid (StrsAt w2 (some ⟨g, 0, none⟩) 32 wl) := hs2; clear hs2))
  have z2 := b2.size
  go_loopw [7] (fun i w' => ∃ k : Nat, k ≤ 32 ∧ i = .int .i64 k ∧ BW w2 w') (fun i _ => 32 - (intOf i).toNat)
  case atStart => exact ⟨0, Nat.zero_le _, rfl, (by repeat (first | exact BW.refl _ | apply BW.alloc | apply BW.drewN | apply BW.drew))⟩
  case round =>
    obtain ⟨k, hk, rfl, hb⟩ := hrel
    by_cases hlt : k < 32
    · have hc1 : wr.cell? ⟨w.heap.size, k, none⟩ = some (.string (wk k)) := by
        obtain ⟨_, off, x, e, hbl, hx, _, hc⟩ := StrsAt.get (HA.out.bw (b2.trans hb)) hlt
        cases e; rw [wl_get k hlt] at hx; cases hx; simpa using hc
      have hc2 : wr.cell? ⟨g, k, none⟩ = some (.string (wk k)) := by
        obtain ⟨_, off, x, e, hbl, hx, _, hc⟩ := StrsAt.get (HS.out.bw hb) hlt
        cases e; rw [wl_get k hlt] at hx; cases hx; simpa using hc
      have hne : ((wk k).toList != (wk k).toList) = false := by simp
      generalize wk k = x at *
      go_wp2_with (fail)
      go_quiet (fail)
      go_wp2_with (fail)
      go_roundw
      case rel => exact ⟨k + 1, by omega, by go_num, (by repeat (first | exact BW.refl _ | assumption | apply BW.alloc | apply BW.drewN | apply BW.drew | (refine BW.setCell ?_ (by first | omega | (simp; done) | (simp; omega)) _) | (refine BW.trans ?_ (by assumption))))⟩
      case measure => simp [intOf]; omega
    · obtain rfl : k = 32 := by omega
      obtain ⟨q, hq⟩ : ∃ q : Nat, q = a % 32 := ⟨_, rfl⟩
      have hm : Int.tmod (a : Int) 32 = (q : Int) := by rw [Int.tmod_eq_emod_of_nonneg (by omega)]; omega
      have hm2 := u8w (q : Int) (by omega) (by omega)
      have hlt : q < 32 := by omega
      have hi0 : (0 : Int) ≤ (q : Int) := by omega
      have hi1 : (q : Int) < 32 := by omega
      clear hq
      have hc1 : ∃ x, wr.cell? ⟨w.heap.size, q, none⟩ = some (.string x) := by
        obtain ⟨_, off, x, e, hbl, hx, _, hc⟩ := StrsAt.get (HA.out.bw (b2.trans hb)) hlt
        cases e; exact ⟨x, by simpa using hc⟩
      obtain ⟨x0, hc0⟩ := hc1
      have hf : wr.frozen? ⟨w.heap.size, q, none⟩ = false := by rw [(b2.trans hb).froz _ _ (by omega)]; exact hf0 _
      go_wp2_with (fail)
      have hW3 : BW w (wr.setCell ⟨w.heap.size, q, none⟩ (.string s)) := BW.setCell ((b1.trans b2).trans hb) (Nat.le_refl _) _
      have hz3 : wr.heap.size ≤ (wr.setCell ⟨w.heap.size, q, none⟩ (.string s)).heap.size := by simp
      have hc2 : (wr.setCell ⟨w.heap.size, q, none⟩ (.string s)).cell? ⟨g, q, none⟩ = some (.string (wk (q))) := by
        obtain ⟨_, off, x, e, hbl, hx, _, hc⟩ := StrsAt.get (HS.out.bw hb) hlt
        cases e; rw [wl_get _ hlt] at hx; cases hx
        rw [World.cell?_setCell_other]
        · simpa using hc
        · intro e; injection e; omega
      have HB3 : Hid _ := hW3
      have hgz : g < wr.heap.size := by
        obtain ⟨_, off, x, e, hbl, _⟩ := StrsAt.get (HS.out.bw hb) hlt
        cases e; exact hbl
      obtain ⟨W3, hW⟩ : ∃ W3, W3 = wr.setCell ⟨w.heap.size, q, none⟩ (.string s) := ⟨_, rfl⟩
      rw [← hW] at HB3 hz3 hc2 ⊢
      clear hW hW3 hc0 hf hf0 HA HS
      have HQ : Hid (∀ w', BW W3 w' → Calls Tryd.prog 17 #[] w' fun e w'' => e = .returned (.slice (some ⟨w'.heap.size, 0, none⟩) 32 32) ∧ BW w' w'' ∧ w'.heap.size < w''.heap.size ∧ w''.cell? ⟨w'.heap.size, q, none⟩ = some (.string (wk (q)))) := fun w' h => words_at _ hlt w' (HV.out.bw (BW.trans HB3.out h)).2
      have HK : Hid (∀ w', BW W3 w' → Calls Tryd.prog 8 #[] w' fun e w'' => e = .returned (.bool true) ∧ BW w' w'') := fun w' h => awake_any w' (HV.out.bw (BW.trans HB3.out h))
      generalize wk (q) = x at *
      have heq : (x.toList == x.toList) = true := by simp
      go_region_with (first | (go_at_call 17; refine (HQ.out _ (by repeat (first | exact BW.refl _ | assumption | apply BW.alloc | apply BW.drewN | apply BW.drew | (refine BW.setCell ?_ (by first | omega | (simp; done) | (simp; omega)) _) | (refine BW.trans ?_ (by assumption))))).mono ?_; rintro e w4 ⟨rfl, b4, z4, c4⟩; (try simp at c4 z4); have c5 : w4.cell? ⟨g, q, none⟩ = some (.string x) := (b4.cells g q (by simp; omega)).trans (by simpa using hc2)) | (go_at_call 8; refine (HK.out _ (by repeat (first | exact BW.refl _ | assumption | apply BW.alloc | apply BW.drewN | apply BW.drew | (refine BW.setCell ?_ (by first | omega | (simp; done) | (simp; omega)) _) | (refine BW.trans ?_ (by assumption))))).mono ?_; rintro e w5 ⟨rfl, b5⟩))
      all_goals (go_wp2_with (fail); go_ret; exact ⟨rfl, BW.trans HB3.out (BW.trans (BW.drew (BW.refl _)) (by repeat (first | exact BW.refl _ | assumption | apply BW.alloc | apply BW.drewN | apply BW.drew | (refine BW.setCell ?_ (by first | omega | (simp; done) | (simp; omega)) _) | (refine BW.trans ?_ (by assumption)))))⟩)

end Go.Proofs.YtogeoaanlkeciaaDoor
