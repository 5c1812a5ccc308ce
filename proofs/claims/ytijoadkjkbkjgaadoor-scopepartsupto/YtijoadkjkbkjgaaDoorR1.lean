import Derived.Test.YtijoadkjkbkjgaaDoorC6
namespace Go.Proofs.YtijoadkjkbkjgaaDoor
open Go.RowKit
set_option linter.unusedVariables false
set_option linter.unusedSimpArgs false

theorem StrsAt.take {W : World} {b off ln : Nat} {l : List ByteArray} (h : StrsAt W (some ⟨b, off, none⟩) ln l) {i : Nat} (hi : i < ln) : StrsAt W (some ⟨b, off, none⟩) i (l.take i) := by
  obtain ⟨h1, h2, h3, h4⟩ := h
  refine ⟨by rw [List.length_take]; omega, by omega, fun s hs => h3 s (List.mem_of_mem_take hs), ?_⟩
  rcases h4 with h4 | ⟨b', off', e, hb, hc⟩
  · omega
  · cases e
    refine .inr ⟨b, off, rfl, hb, fun j s hs => hc j s ?_⟩
    rw [List.getElem?_take] at hs
    split at hs
    · exact hs
    · cases hs
theorem inB_mem (l : List ByteArray) (x : ByteArray) : inB l x = true ↔ x ∈ l := by
  unfold inB
  rw [List.any_eq_true]
  constructor
  · rintro ⟨y, hy, e⟩; rw [← of_decide_eq_true e]; exact hy
  · intro h; exact ⟨x, h, by simp⟩
theorem nodup_snoc {l : List ByteArray} {i : Nat} {x : ByteArray} (h : l[i]? = some x) : (l.take (i + 1)).Nodup ↔ (l.take i).Nodup ∧ ¬ x ∈ l.take i := by
  rw [List.take_add_one, h]
  simp only [Option.toList_some]
  rw [List.nodup_append]
  constructor
  · rintro ⟨h1, _, h2⟩; exact ⟨h1, fun hx => h2 x hx x (by simp) rfl⟩
  · rintro ⟨h1, h2⟩; exact ⟨h1, by simp, fun a ha b hb => by simp at hb; subst hb; exact fun e => h2 (e ▸ ha)⟩
theorem slice_to (b off ln cp i : Nat) (h1 : i < ln) (h2 : ln ≤ cp) (h3 : cp ≤ 9223372036854775807) (w : World) : (Instr.slice 22 (.slice (some ⟨b, off, none⟩) ln cp) none (some (.int .i64 i)) none).run Tryd.prog w = .ok (.slice (some ⟨b, off, none⟩) i cp) w := by
  rw [run_slice_h w 22 (some ⟨b, off, none⟩) ln cp (by kernel_rfl) .i64 i (by omega) (by omega)]
  have hs : (sizeOf (Tryd.prog.elem 22)).run Tryd.prog w = .ok 1 w := by kernel_rfl
  rw [hs]
  simp only [Result.andThen, sliced]
  rw [if_neg (by omega)]
  simp [Addr.add_mid]
set_option maxRecDepth 100000 in
set_option maxHeartbeats 2000000 in
theorem names_any (ao : Option Addr) (ln cp : Nat) (l : List ByteArray) (w : World) (h : StrsAt w ao ln l) (hcp : ln ≤ cp) (hcm : cp ≤ maxLen) : Calls Tryd.prog 24 #[.slice ao ln cp] w fun e w' => e = .returned (.bool (l.all nmB && decide l.Nodup)) ∧ BW w w' := by
  have H : Hid (StrsAt w ao ln l) := h
  have hl : Hid (l.length = ln) := h.1
  have hm : ln ≤ 9223372036854775807 := by have := h.2.1; unfold maxLen at this; omega
  have hcm' : cp ≤ 9223372036854775807 := by unfold maxLen at hcm; omega
  generalize hR : (l.all nmB && decide l.Nodup) = R
  have HR : Hid _ := hR
  clear h hcm hR
  go_enter Tryd.func24, Tryd.ntmps24
  go_wp2_with (fail)
  go_loopw [6] (fun i w' => ∃ j : Nat, j ≤ ln ∧ Hid ((l.take j).all nmB = true ∧ (l.take j).Nodup) ∧ i = .int .i64 j ∧ BW w w') (fun i _ => ln - (intOf i).toNat)
  case atStart => exact ⟨0, Nat.zero_le _, ⟨by simp, by simp⟩, rfl, (by repeat (first | exact BW.refl _ | apply BW.alloc | apply BW.drewN | apply BW.drew))⟩
  case round =>
    obtain ⟨j, hj, HA, rfl, hb⟩ := hrel
    by_cases hlt : j < ln
    · obtain ⟨b, off, x, rfl, hbl, hx, hxs, hc⟩ := StrsAt.get H.out hlt
      have hxs' : x.size ≤ 9223372036854775807 := by unfold maxLen at hxs; omega
      rw [← hb.cells b _ hbl] at hc
      have HX : Hid _ := hx
      have hsl := fun w' => slice_to b off ln cp j hlt hcp hcm' w'
      have HT : Hid (∀ w', BW w w' → StrsAt w' (some ⟨b, off, none⟩) j (l.take j)) := fun w' h => (H.out.take hlt).bw h
      have C1 : Hid (∀ w', Calls Tryd.prog 23 #[.string x] w' fun e w'' => e = .returned (.bool (nmB x)) ∧ w'' = w') := fun w' => refName_any x hxs' w'
      have C2 : Hid (∀ w', BW w w' → Calls Tryd.prog 44 #[.string x, .slice (some ⟨b, off, none⟩) j cp] w' fun e w'' => e = .returned (.bool (inB (l.take j) x)) ∧ w'' = w') := fun w' h => refIn_any x _ j cp _ w' (HT.out w' h)
      clear hx hxs
      cases hn : nmB x with
      | false =>
        have HRF : Hid (R = false) := by show R = _; rw [← HR.out, all_miss nmB HX.out hn]; rfl
        rw [hn] at C1
        clear hn
        go_wp2_with (fail)
        go_quiet (first | (go_at_call 23; exact Calls.quiet_of_same (C1.out _)))
        go_wp2_with (fail)
        go_ret
        exact ⟨by rw [HRF.out]; rfl, BW.drewN hb _⟩
      | true =>
        rw [hn] at C1
        cases hi : inB (l.take j) x with
        | true =>
          have HRF : Hid (R = false) := by
            show R = _
            rw [← HR.out]
            have : ¬ l.Nodup := fun hnd => ((nodup_snoc HX.out).1 (hnd.sublist (List.take_sublist _ _))).2 ((inB_mem _ _).1 hi)
            simp [this]
          rw [hi] at C2
          clear hn hi
          go_wp2_with (fail)
          go_quiet (first | (go_at_call 23; exact Calls.quiet_of_same (C1.out _)) | (go_at_call 44; exact Calls.quiet_of_same (C2.out _ (BW.drewN hb _))))
          go_wp2_with (fail)
          go_ret
          exact ⟨by rw [HRF.out]; rfl, BW.drewN hb _⟩
        | false =>
          have HQ : Hid ((l.take (j + 1)).all nmB = true ∧ (l.take (j + 1)).Nodup) := by
            refine ⟨by rw [all_snoc nmB HX.out, HA.out.1, hn]; rfl, (nodup_snoc HX.out).2 ⟨HA.out.2, fun hx => ?_⟩⟩
            rw [(inB_mem _ _).2 hx] at hi; cases hi
          rw [hi] at C2
          clear hn hi
          go_wp2_with (fail)
          go_quiet (first | (go_at_call 23; exact Calls.quiet_of_same (C1.out _)) | (go_at_call 44; exact Calls.quiet_of_same (C2.out _ (BW.drewN hb _))))
          go_wp2_with (fail)
          refine ⟨⟨j + 1, by omega, HQ, by go_num, BW.drewN hb _⟩, by simp [intOf]; omega⟩
    · have hjn : ln = j := by omega
      subst hjn
      have HRT : Hid (R = true) := by
        show R = _
        have := HA.out
        rw [List.take_of_length_le (by rw [hl.out]; omega)] at this
        rw [← HR.out, this.1]; simpa using this.2
      go_wp2_with (fail)
      go_ret
      exact ⟨by rw [HRT.out]; rfl, hb⟩

end Go.Proofs.YtijoadkjkbkjgaaDoor
