import Derived.Test.YtndhhmgbekcfoaaDoorP2
namespace Go.Proofs.YtndhhmgbekcfoaaDoor
open Go.RowKit
set_option linter.unusedVariables false
set_option linter.unusedSimpArgs false

set_option maxRecDepth 100000 in
set_option maxHeartbeats 4000000 in
theorem putInts_c (W0 : World) (ao : Option Addr) (ln lc : Nat) (xs : List Int) (enc : Int → List Nat) (hA : IntsAt W0 ao ln xs) (hn : ln ≤ 9223372036854775807)
    (hf : ∀ (y : Int) , y ∈ xs → I64 y → PutC 42 (fun v => #[v, .int .i64 y]) (enc y) W0) : PutC 41 (fun v => #[v, .slice ao ln lc, .func (.func 42) #[] #[]]) (nb ln ++ xs.flatMap enc) W0 := by
  intro w v l hB hl
  have HA : Hid (IntsAt W0 ao ln xs) := hA
  have HF : Hid _ := hf
  have HLn : Hid (xs.length = ln) := hA.1
  have HC : Hid (PutC 67 (fun v => #[v, .int .i64 (ln : Int)]) (nb ln) W0) := by
    have := putSize_c W0 (ln : Int) (by unfold I64; omega)
    rw [show szn (ln : Int) = ln by unfold szn; omega] at this
    exact this
  have HB : Hid (Bf W0 w v l) := hB
  have HL : Hid (l.length + (nb ln ++ xs.flatMap enc).length ≤ 1099511627776) := hl
  have HL1 : Hid (l.length + (nb ln).length ≤ 1099511627776) := by show _ ≤ _; simp at hl; omega
  clear hA hf hB hl
  go_enter Tryd.func41, Tryd.ntmps41
  go_wp2_with (first | (go_at_call 67; go_loud (refine (HC.out _ _ _ HB.out HL1.out).mono ?_; rintro e w1 ⟨v1, rfl, b1, g1⟩; have B1 : Hid _ := b1; have G1 : Hid _ := g1; clear b1 g1)))
  go_loopw [0, 15] (fun b i w' => ∃ k : Nat, k ≤ ln ∧ i = .int .i64 k ∧ Hid (Bf W0 w' b (l ++ nb ln ++ (xs.take k).flatMap enc)) ∧ Hid (Gd w w' v b)) (fun b i _ => ln - (intOf i).toNat)
  case atStart => exact ⟨0, Nat.zero_le _, rfl, by (show Bf _ _ _ _); rw [List.take_zero, List.flatMap_nil, List.append_nil]; exact B1.out, G1⟩
  case round =>
    obtain ⟨k, hk, rfl, HW, HG⟩ := hrel
    by_cases hlt : k < ln
    · have hb : BW W0 wr := HW.out.1
      obtain ⟨b, off, y, rfl, hbl, hx, hy, hc0⟩ := IntsAt.get HA.out hlt
      have d1 := (hb.cells b (off + k) hbl).trans hc0
      have hbw : b < wr.heap.size := by have := hb.size; omega
      have e1 : (xs.take (k + 1)).flatMap enc = (xs.take k).flatMap enc ++ enc y := by rw [List.take_add_one, hx]; simp
      have HR : Hid ((l ++ nb ln ++ (xs.take k).flatMap enc).length + (enc y).length ≤ 1099511627776) := by
        have h1 := HL.out
        have h2 : xs.flatMap enc = (xs.take (k + 1)).flatMap enc ++ (xs.drop (k + 1)).flatMap enc := by rw [← List.flatMap_append, List.take_append_drop]
        rw [h2, e1] at h1
        show _ ≤ _
        simp only [List.length_append] at h1 ⊢
        omega
      have E1 : Hid (l ++ nb ln ++ (xs.take (k + 1)).flatMap enc = (l ++ nb ln ++ (xs.take k).flatMap enc) ++ enc y) := by show _ = _; rw [e1]; simp
      have HE : Hid (PutC 42 (fun v => #[v, .int .i64 y]) (enc y) W0) := HF.out y (List.mem_of_getElem? hx) hy
      clear hx e1 hb
      go_wp2_with (first | (go_at_call 42; go_loud (refine (HE.out _ _ _ (by first | exact HW.out | exact HW.out.alloc _) HR.out).mono ?_; rintro e w2 ⟨v2, rfl, b2, g2⟩; have B2 : Hid _ := b2; have G2 : Hid (Gd w w2 v v2) := (by first | exact Gd.trans HG.out g2 | exact Gd.trans (HG.out.alloc _) g2); clear b2 g2)))
      go_roundw
      case rel => exact ⟨k + 1, by omega, by go_num, by rw [Hid, E1.out]; exact B2.out, G2⟩
      case measure => simp [intOf]; omega
    · have HE : Hid (Bf W0 wr u0 (l ++ (nb ln ++ xs.flatMap enc))) := by
        have h1 := HW.out
        rw [List.take_of_length_le (by have := HLn.out; omega), List.append_assoc] at h1
        exact h1
      obtain rfl : k = ln := by omega
      go_wp2_with (fail)
      go_ret
      exact ⟨_, rfl, HE.out, HG.out⟩
set_option maxRecDepth 100000 in
set_option maxHeartbeats 4000000 in
theorem putOps_c (W0 : World) (ao : Option Addr) (ln lc : Nat) (xs : List Int) (enc : Int → List Nat) (hA : IntsAt W0 ao ln xs) (hn : ln ≤ 9223372036854775807)
    (hf : ∀ (y : Int) , y ∈ xs → I64 y → PutC 67 (fun v => #[v, .int .i64 y]) (enc y) W0) : PutC 71 (fun v => #[v, .slice ao ln lc, .func (.func 67) #[] #[]]) (nb ln ++ xs.flatMap enc) W0 := by
  intro w v l hB hl
  have HA : Hid (IntsAt W0 ao ln xs) := hA
  have HF : Hid _ := hf
  have HLn : Hid (xs.length = ln) := hA.1
  have HC : Hid (PutC 67 (fun v => #[v, .int .i64 (ln : Int)]) (nb ln) W0) := by
    have := putSize_c W0 (ln : Int) (by unfold I64; omega)
    rw [show szn (ln : Int) = ln by unfold szn; omega] at this
    exact this
  have HB : Hid (Bf W0 w v l) := hB
  have HL : Hid (l.length + (nb ln ++ xs.flatMap enc).length ≤ 1099511627776) := hl
  have HL1 : Hid (l.length + (nb ln).length ≤ 1099511627776) := by show _ ≤ _; simp at hl; omega
  clear hA hf hB hl
  go_enter Tryd.func71, Tryd.ntmps71
  go_wp2_with (first | (go_at_call 67; go_loud (refine (HC.out _ _ _ HB.out HL1.out).mono ?_; rintro e w1 ⟨v1, rfl, b1, g1⟩; have B1 : Hid _ := b1; have G1 : Hid _ := g1; clear b1 g1)))
  go_loopw [0, 15] (fun b i w' => ∃ k : Nat, k ≤ ln ∧ i = .int .i64 k ∧ Hid (Bf W0 w' b (l ++ nb ln ++ (xs.take k).flatMap enc)) ∧ Hid (Gd w w' v b)) (fun b i _ => ln - (intOf i).toNat)
  case atStart => exact ⟨0, Nat.zero_le _, rfl, by (show Bf _ _ _ _); rw [List.take_zero, List.flatMap_nil, List.append_nil]; exact B1.out, G1⟩
  case round =>
    obtain ⟨k, hk, rfl, HW, HG⟩ := hrel
    by_cases hlt : k < ln
    · have hb : BW W0 wr := HW.out.1
      obtain ⟨b, off, y, rfl, hbl, hx, hy, hc0⟩ := IntsAt.get HA.out hlt
      have d1 := (hb.cells b (off + k) hbl).trans hc0
      have hbw : b < wr.heap.size := by have := hb.size; omega
      have e1 : (xs.take (k + 1)).flatMap enc = (xs.take k).flatMap enc ++ enc y := by rw [List.take_add_one, hx]; simp
      have HR : Hid ((l ++ nb ln ++ (xs.take k).flatMap enc).length + (enc y).length ≤ 1099511627776) := by
        have h1 := HL.out
        have h2 : xs.flatMap enc = (xs.take (k + 1)).flatMap enc ++ (xs.drop (k + 1)).flatMap enc := by rw [← List.flatMap_append, List.take_append_drop]
        rw [h2, e1] at h1
        show _ ≤ _
        simp only [List.length_append] at h1 ⊢
        omega
      have E1 : Hid (l ++ nb ln ++ (xs.take (k + 1)).flatMap enc = (l ++ nb ln ++ (xs.take k).flatMap enc) ++ enc y) := by show _ = _; rw [e1]; simp
      have HE : Hid (PutC 67 (fun v => #[v, .int .i64 y]) (enc y) W0) := HF.out y (List.mem_of_getElem? hx) hy
      clear hx e1 hb
      go_wp2_with (first | (go_at_call 67; go_loud (refine (HE.out _ _ _ (by first | exact HW.out | exact HW.out.alloc _) HR.out).mono ?_; rintro e w2 ⟨v2, rfl, b2, g2⟩; have B2 : Hid _ := b2; have G2 : Hid (Gd w w2 v v2) := (by first | exact Gd.trans HG.out g2 | exact Gd.trans (HG.out.alloc _) g2); clear b2 g2)))
      go_roundw
      case rel => exact ⟨k + 1, by omega, by go_num, by rw [Hid, E1.out]; exact B2.out, G2⟩
      case measure => simp [intOf]; omega
    · have HE : Hid (Bf W0 wr u0 (l ++ (nb ln ++ xs.flatMap enc))) := by
        have h1 := HW.out
        rw [List.take_of_length_le (by have := HLn.out; omega), List.append_assoc] at h1
        exact h1
      obtain rfl : k = ln := by omega
      go_wp2_with (fail)
      go_ret
      exact ⟨_, rfl, HE.out, HG.out⟩
set_option maxRecDepth 100000 in
set_option maxHeartbeats 4000000 in
theorem putTexts_c (W0 : World) (ao : Option Addr) (ln lc : Nat) (xs : List ByteArray) (enc : ByteArray → List Nat) (hA : StrsAt W0 ao ln xs) (hn : ln ≤ 9223372036854775807)
    (hf : ∀ (y : ByteArray) , y ∈ xs → y.size ≤ maxLen → PutC 44 (fun v => #[v, .string y]) (enc y) W0) : PutC 43 (fun v => #[v, .slice ao ln lc, .func (.func 44) #[] #[]]) (nb ln ++ xs.flatMap enc) W0 := by
  intro w v l hB hl
  have HA : Hid (StrsAt W0 ao ln xs) := hA
  have HF : Hid _ := hf
  have HLn : Hid (xs.length = ln) := hA.1
  have HC : Hid (PutC 67 (fun v => #[v, .int .i64 (ln : Int)]) (nb ln) W0) := by
    have := putSize_c W0 (ln : Int) (by unfold I64; omega)
    rw [show szn (ln : Int) = ln by unfold szn; omega] at this
    exact this
  have HB : Hid (Bf W0 w v l) := hB
  have HL : Hid (l.length + (nb ln ++ xs.flatMap enc).length ≤ 1099511627776) := hl
  have HL1 : Hid (l.length + (nb ln).length ≤ 1099511627776) := by show _ ≤ _; simp at hl; omega
  clear hA hf hB hl
  go_enter Tryd.func43, Tryd.ntmps43
  go_wp2_with (first | (go_at_call 67; go_loud (refine (HC.out _ _ _ HB.out HL1.out).mono ?_; rintro e w1 ⟨v1, rfl, b1, g1⟩; have B1 : Hid _ := b1; have G1 : Hid _ := g1; clear b1 g1)))
  go_loopw [0, 15] (fun b i w' => ∃ k : Nat, k ≤ ln ∧ i = .int .i64 k ∧ Hid (Bf W0 w' b (l ++ nb ln ++ (xs.take k).flatMap enc)) ∧ Hid (Gd w w' v b)) (fun b i _ => ln - (intOf i).toNat)
  case atStart => exact ⟨0, Nat.zero_le _, rfl, by (show Bf _ _ _ _); rw [List.take_zero, List.flatMap_nil, List.append_nil]; exact B1.out, G1⟩
  case round =>
    obtain ⟨k, hk, rfl, HW, HG⟩ := hrel
    by_cases hlt : k < ln
    · have hb : BW W0 wr := HW.out.1
      obtain ⟨b, off, y, rfl, hbl, hx, hy, hc0⟩ := StrsAt.get HA.out hlt
      have d1 := (hb.cells b (off + k) hbl).trans hc0
      have hbw : b < wr.heap.size := by have := hb.size; omega
      have e1 : (xs.take (k + 1)).flatMap enc = (xs.take k).flatMap enc ++ enc y := by rw [List.take_add_one, hx]; simp
      have HR : Hid ((l ++ nb ln ++ (xs.take k).flatMap enc).length + (enc y).length ≤ 1099511627776) := by
        have h1 := HL.out
        have h2 : xs.flatMap enc = (xs.take (k + 1)).flatMap enc ++ (xs.drop (k + 1)).flatMap enc := by rw [← List.flatMap_append, List.take_append_drop]
        rw [h2, e1] at h1
        show _ ≤ _
        simp only [List.length_append] at h1 ⊢
        omega
      have E1 : Hid (l ++ nb ln ++ (xs.take (k + 1)).flatMap enc = (l ++ nb ln ++ (xs.take k).flatMap enc) ++ enc y) := by show _ = _; rw [e1]; simp
      have HE : Hid (PutC 44 (fun v => #[v, .string y]) (enc y) W0) := HF.out y (List.mem_of_getElem? hx) hy
      clear hx e1 hb
      go_wp2_with (first | (go_at_call 44; go_loud (refine (HE.out _ _ _ (by first | exact HW.out | exact HW.out.alloc _) HR.out).mono ?_; rintro e w2 ⟨v2, rfl, b2, g2⟩; have B2 : Hid _ := b2; have G2 : Hid (Gd w w2 v v2) := (by first | exact Gd.trans HG.out g2 | exact Gd.trans (HG.out.alloc _) g2); clear b2 g2)))
      go_roundw
      case rel => exact ⟨k + 1, by omega, by go_num, by rw [Hid, E1.out]; exact B2.out, G2⟩
      case measure => simp [intOf]; omega
    · have HE : Hid (Bf W0 wr u0 (l ++ (nb ln ++ xs.flatMap enc))) := by
        have h1 := HW.out
        rw [List.take_of_length_le (by have := HLn.out; omega), List.append_assoc] at h1
        exact h1
      obtain rfl : k = ln := by omega
      go_wp2_with (fail)
      go_ret
      exact ⟨_, rfl, HE.out, HG.out⟩

end Go.Proofs.YtndhhmgbekcfoaaDoor
