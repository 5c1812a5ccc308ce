import Derived.Test.YtndhhmgbekcfoaaDoorM4
import Derived.Test.YtndhhmgbekcfoaaDoorM6
namespace Go.Proofs.YtndhhmgbekcfoaaDoor
open Go.RowKit
set_option linter.unusedVariables false
set_option linter.unusedSimpArgs false

set_option maxRecDepth 100000 in
set_option maxHeartbeats 4000000 in
theorem idxStr_any (bad : ByteArray → Bool) (ao : Option Addr) (ln lc : Nat) (l : List ByteArray) (w : World) (h : StrsAt w ao ln l) (hn : ln ≤ 9223372036854775807)
    (hf : ∀ (y : ByteArray)  (w' : World), BW w w' → y ∈ l → y.size ≤ maxLen → Calls Tryd.prog 33 #[.string y] w' fun e w'' => e = .returned (.bool (bad y)) ∧ BW w' w'') :
    Calls Tryd.prog 64 #[.slice ao ln lc, .func (.func 33) #[] #[]] w fun e w' => ∃ n : Int, e = .returned (.int .i64 n) ∧ decide (0 ≤ n) = l.any bad ∧ BW w w' := by
  have H : Hid (StrsAt w ao ln l) := h
  have HF : Hid _ := hf
  have HL : Hid (l.length = ln) := h.1
  clear h hf
  go_enter Tryd.func64, Tryd.ntmps64
  go_wp2_with (fail)
  go_loopw [8] (fun i w' => ∃ k : Nat, k ≤ ln ∧ Hid ((l.take k).any bad = false) ∧ i = .int .i64 k ∧ BW w w') (fun i _ => ln - (intOf i).toNat)
  case atStart => exact ⟨0, Nat.zero_le _, by simp [Hid], rfl, (by repeat (first | exact BW.refl _ | apply BW.alloc | apply BW.drewN | apply BW.drew))⟩
  case round =>
    obtain ⟨k, hk, HA, rfl, hb⟩ := hrel
    by_cases hlt : k < ln
    · obtain ⟨b, off, y, rfl, hbl, hx, hsz, hc0⟩ := StrsAt.get H.out hlt
      have d1 := (hb.cells b (off + k) hbl).trans hc0
      have hbw : b < wr.heap.size := by have := hb.size; omega
      have HC : Hid (∀ w', BW wr w' → Calls Tryd.prog 33 #[.string y] w' fun e w'' => e = .returned (.bool (bad y)) ∧ BW w' w'') := fun w' hw => HF.out y w' (BW.trans hb hw) (List.mem_of_getElem? hx) hsz
      cases hy : bad y with
      | true =>
        have HS : Hid (l.any bad = true) := any_hit bad hx hy
        rw [hy] at HC
        clear hx hy HA
        go_wp2_with (first | (go_at_call 33; refine (HC.out _ (by repeat (first | exact BW.refl _ | assumption | apply BW.alloc | apply BW.drewN | apply BW.drew | (refine BW.setCell ?_ (by first | omega | (simp; done) | (simp; omega)) _) | (refine BW.trans ?_ (by assumption))))).mono ?_; rintro e w1 ⟨rfl, b1⟩))
        all_goals (go_wp2_with (fail))
        all_goals (go_ret; exact ⟨_, rfl, by rw [HS.out]; simp, (by repeat (first | exact BW.refl _ | assumption | apply BW.alloc | apply BW.drewN | apply BW.drew | (refine BW.setCell ?_ (by first | omega | (simp; done) | (simp; omega)) _) | (refine BW.trans ?_ (by assumption))))⟩)
      | false =>
        have HS : Hid ((l.take (k + 1)).any bad = false) := by show _ = _; rw [any_snoc bad hx, HA.out, hy]; rfl
        rw [hy] at HC
        clear hx hy HA
        go_wp2_with (first | (go_at_call 33; refine (HC.out _ (by repeat (first | exact BW.refl _ | assumption | apply BW.alloc | apply BW.drewN | apply BW.drew | (refine BW.setCell ?_ (by first | omega | (simp; done) | (simp; omega)) _) | (refine BW.trans ?_ (by assumption))))).mono ?_; rintro e w1 ⟨rfl, b1⟩))
        go_roundw
        case rel => exact ⟨k + 1, by omega, HS, by go_num, (by repeat (first | exact BW.refl _ | assumption | apply BW.alloc | apply BW.drewN | apply BW.drew | (refine BW.setCell ?_ (by first | omega | (simp; done) | (simp; omega)) _) | (refine BW.trans ?_ (by assumption))))⟩
        case measure => simp [intOf]; omega
    · have HS : Hid (l.any bad = false) := by
        have := HA.out
        rw [List.take_of_length_le (by have := HL.out; omega)] at this
        exact this
      obtain rfl : ln = k := by omega
      go_wp2_with (fail)
      go_ret
      exact ⟨_, rfl, by rw [HS.out]; decide, (by repeat (first | exact BW.refl _ | assumption | apply BW.alloc | apply BW.drewN | apply BW.drew | (refine BW.setCell ?_ (by first | omega | (simp; done) | (simp; omega)) _) | (refine BW.trans ?_ (by assumption))))⟩
set_option maxRecDepth 100000 in
set_option maxHeartbeats 4000000 in
theorem conStr_any (bad : ByteArray → Bool) (ao : Option Addr) (ln lc : Nat) (l : List ByteArray) (w : World) (h : StrsAt w ao ln l) (hn : ln ≤ 9223372036854775807)
    (hf : ∀ (y : ByteArray)  (w' : World), BW w w' → y ∈ l → y.size ≤ maxLen → Calls Tryd.prog 33 #[.string y] w' fun e w'' => e = .returned (.bool (bad y)) ∧ BW w' w'') :
    Calls Tryd.prog 38 #[.slice ao ln lc, .func (.func 33) #[] #[]] w fun e w' => e = .returned (.bool (l.any bad)) ∧ BW w w' := by
  have HI : Hid (Calls Tryd.prog 64 #[.slice ao ln lc, .func (.func 33) #[] #[]] w fun e w' => ∃ n : Int, e = .returned (.int .i64 n) ∧ decide (0 ≤ n) = l.any bad ∧ BW w w') := idxStr_any bad  ao ln lc l w h hn hf
  clear h hf
  generalize l.any bad = q at *
  go_enter Tryd.func38, Tryd.ntmps38
  go_wp2_with (first | (go_at_call 64; refine HI.out.mono ?_; rintro e w1 ⟨n, rfl, hq, b1⟩))
  go_ret
  exact ⟨by rw [← hq]; rfl, b1⟩
set_option maxRecDepth 100000 in
set_option maxHeartbeats 4000000 in
theorem idxTab_any (bad : Tbl → Bool) (c1 : Value) (ao : Option Addr) (ln lc : Nat) (l : List Tbl) (w : World) (h : TbsAt w ao ln l) (hn : ln ≤ 9223372036854775807)
    (hf : ∀ (y : Tbl) (oa : Option Addr) (ol oc : Nat) (w' : World), BW w w' → y ∈ l → TbV w' y oa ol oc → Calls Tryd.prog 34 #[tbv oa ol oc y.ret y.fin, c1] w' fun e w'' => e = .returned (.bool (bad y)) ∧ BW w' w'') :
    Calls Tryd.prog 65 #[.slice ao ln lc, .func (.func 34) #[] #[c1]] w fun e w' => ∃ n : Int, e = .returned (.int .i64 n) ∧ decide (0 ≤ n) = l.any bad ∧ BW w w' := by
  have H : Hid (TbsAt w ao ln l) := h
  have HF : Hid _ := hf
  have HL : Hid (l.length = ln) := h.1
  clear h hf
  go_enter Tryd.func65, Tryd.ntmps65
  go_wp2_with (fail)
  go_loopw [8] (fun i w' => ∃ k : Nat, k ≤ ln ∧ Hid ((l.take k).any bad = false) ∧ i = .int .i64 k ∧ BW w w') (fun i _ => ln - (intOf i).toNat)
  case atStart => exact ⟨0, Nat.zero_le _, by simp [Hid], rfl, (by repeat (first | exact BW.refl _ | apply BW.alloc | apply BW.drewN | apply BW.drew))⟩
  case round =>
    obtain ⟨k, hk, HA, rfl, hb⟩ := hrel
    by_cases hlt : k < ln
    · obtain ⟨b, off, y, rfl, hbl, hx, oa, ol, oc, hK, hT⟩ := RowAt.get H.out hlt
      obtain ⟨d0, d1, d2⟩ := hK.bw hb hbl
      have hbw : b < wr.heap.size := by have := hb.size; omega
      have HC : Hid (∀ w', BW wr w' → Calls Tryd.prog 34 #[tbv oa ol oc y.ret y.fin, c1] w' fun e w'' => e = .returned (.bool (bad y)) ∧ BW w' w'') := fun w' hw => HF.out y oa ol oc w' (BW.trans hb hw) (List.mem_of_getElem? hx) (hT.bw (BW.trans hb hw))
      cases hy : bad y with
      | true =>
        have HS : Hid (l.any bad = true) := any_hit bad hx hy
        rw [hy] at HC
        clear hx hy HA
        go_wp2_with (first | (go_at_call 34; refine (HC.out _ (by repeat (first | exact BW.refl _ | assumption | apply BW.alloc | apply BW.drewN | apply BW.drew | (refine BW.setCell ?_ (by first | omega | (simp; done) | (simp; omega)) _) | (refine BW.trans ?_ (by assumption))))).mono ?_; rintro e w1 ⟨rfl, b1⟩))
        all_goals (go_wp2_with (fail))
        all_goals (go_ret; exact ⟨_, rfl, by rw [HS.out]; simp, (by repeat (first | exact BW.refl _ | assumption | apply BW.alloc | apply BW.drewN | apply BW.drew | (refine BW.setCell ?_ (by first | omega | (simp; done) | (simp; omega)) _) | (refine BW.trans ?_ (by assumption))))⟩)
      | false =>
        have HS : Hid ((l.take (k + 1)).any bad = false) := by show _ = _; rw [any_snoc bad hx, HA.out, hy]; rfl
        rw [hy] at HC
        clear hx hy HA
        go_wp2_with (first | (go_at_call 34; refine (HC.out _ (by repeat (first | exact BW.refl _ | assumption | apply BW.alloc | apply BW.drewN | apply BW.drew | (refine BW.setCell ?_ (by first | omega | (simp; done) | (simp; omega)) _) | (refine BW.trans ?_ (by assumption))))).mono ?_; rintro e w1 ⟨rfl, b1⟩))
        go_roundw
        case rel => exact ⟨k + 1, by omega, HS, by go_num, (by repeat (first | exact BW.refl _ | assumption | apply BW.alloc | apply BW.drewN | apply BW.drew | (refine BW.setCell ?_ (by first | omega | (simp; done) | (simp; omega)) _) | (refine BW.trans ?_ (by assumption))))⟩
        case measure => simp [intOf]; omega
    · have HS : Hid (l.any bad = false) := by
        have := HA.out
        rw [List.take_of_length_le (by have := HL.out; omega)] at this
        exact this
      obtain rfl : ln = k := by omega
      go_wp2_with (fail)
      go_ret
      exact ⟨_, rfl, by rw [HS.out]; decide, (by repeat (first | exact BW.refl _ | assumption | apply BW.alloc | apply BW.drewN | apply BW.drew | (refine BW.setCell ?_ (by first | omega | (simp; done) | (simp; omega)) _) | (refine BW.trans ?_ (by assumption))))⟩
set_option maxRecDepth 100000 in
set_option maxHeartbeats 4000000 in
theorem conTab_any (bad : Tbl → Bool) (c1 : Value) (ao : Option Addr) (ln lc : Nat) (l : List Tbl) (w : World) (h : TbsAt w ao ln l) (hn : ln ≤ 9223372036854775807)
    (hf : ∀ (y : Tbl) (oa : Option Addr) (ol oc : Nat) (w' : World), BW w w' → y ∈ l → TbV w' y oa ol oc → Calls Tryd.prog 34 #[tbv oa ol oc y.ret y.fin, c1] w' fun e w'' => e = .returned (.bool (bad y)) ∧ BW w' w'') :
    Calls Tryd.prog 39 #[.slice ao ln lc, .func (.func 34) #[] #[c1]] w fun e w' => e = .returned (.bool (l.any bad)) ∧ BW w w' := by
  have HI : Hid (Calls Tryd.prog 65 #[.slice ao ln lc, .func (.func 34) #[] #[c1]] w fun e w' => ∃ n : Int, e = .returned (.int .i64 n) ∧ decide (0 ≤ n) = l.any bad ∧ BW w w') := idxTab_any bad c1 ao ln lc l w h hn hf
  clear h hf
  generalize l.any bad = q at *
  go_enter Tryd.func39, Tryd.ntmps39
  go_wp2_with (first | (go_at_call 65; refine HI.out.mono ?_; rintro e w1 ⟨n, rfl, hq, b1⟩))
  go_ret
  exact ⟨by rw [← hq]; rfl, b1⟩
set_option maxRecDepth 100000 in
set_option maxHeartbeats 4000000 in
theorem idxPro_any (bad : Pro → Bool) (c1 : Value) (ao : Option Addr) (ln lc : Nat) (l : List Pro) (w : World) (h : ProsAt w ao ln l) (hn : ln ≤ 9223372036854775807)
    (hf : ∀ (y : Pro) (ca : Option Addr) (cl cc : Nat) (w' : World), BW w w' → y ∈ l → PrV w' y ca cl cc → Calls Tryd.prog 36 #[prv y.p y.s y.u ca cl cc, c1] w' fun e w'' => e = .returned (.bool (bad y)) ∧ BW w' w'') :
    Calls Tryd.prog 66 #[.slice ao ln lc, .func (.func 36) #[] #[c1]] w fun e w' => ∃ n : Int, e = .returned (.int .i64 n) ∧ decide (0 ≤ n) = l.any bad ∧ BW w w' := by
  have H : Hid (ProsAt w ao ln l) := h
  have HF : Hid _ := hf
  have HL : Hid (l.length = ln) := h.1
  clear h hf
  go_enter Tryd.func66, Tryd.ntmps66
  go_wp2_with (fail)
  go_loopw [8] (fun i w' => ∃ k : Nat, k ≤ ln ∧ Hid ((l.take k).any bad = false) ∧ i = .int .i64 k ∧ BW w w') (fun i _ => ln - (intOf i).toNat)
  case atStart => exact ⟨0, Nat.zero_le _, by simp [Hid], rfl, (by repeat (first | exact BW.refl _ | apply BW.alloc | apply BW.drewN | apply BW.drew))⟩
  case round =>
    obtain ⟨k, hk, HA, rfl, hb⟩ := hrel
    by_cases hlt : k < ln
    · obtain ⟨b, off, y, rfl, hbl, hx, ca, cl, cc, hK, hV⟩ := RowAt.get H.out hlt
      obtain ⟨d0, d1, d2, d3⟩ := hK.bw hb hbl
      have hbw : b < wr.heap.size := by have := hb.size; omega
      have HC : Hid (∀ w', BW wr w' → Calls Tryd.prog 36 #[prv y.p y.s y.u ca cl cc, c1] w' fun e w'' => e = .returned (.bool (bad y)) ∧ BW w' w'') := fun w' hw => HF.out y ca cl cc w' (BW.trans hb hw) (List.mem_of_getElem? hx) (hV.bw (BW.trans hb hw))
      cases hy : bad y with
      | true =>
        have HS : Hid (l.any bad = true) := any_hit bad hx hy
        rw [hy] at HC
        clear hx hy HA
        go_wp2_with (first | (go_at_call 36; refine (HC.out _ (by repeat (first | exact BW.refl _ | assumption | apply BW.alloc | apply BW.drewN | apply BW.drew | (refine BW.setCell ?_ (by first | omega | (simp; done) | (simp; omega)) _) | (refine BW.trans ?_ (by assumption))))).mono ?_; rintro e w1 ⟨rfl, b1⟩))
        all_goals (go_wp2_with (fail))
        all_goals (go_ret; exact ⟨_, rfl, by rw [HS.out]; simp, (by repeat (first | exact BW.refl _ | assumption | apply BW.alloc | apply BW.drewN | apply BW.drew | (refine BW.setCell ?_ (by first | omega | (simp; done) | (simp; omega)) _) | (refine BW.trans ?_ (by assumption))))⟩)
      | false =>
        have HS : Hid ((l.take (k + 1)).any bad = false) := by show _ = _; rw [any_snoc bad hx, HA.out, hy]; rfl
        rw [hy] at HC
        clear hx hy HA
        go_wp2_with (first | (go_at_call 36; refine (HC.out _ (by repeat (first | exact BW.refl _ | assumption | apply BW.alloc | apply BW.drewN | apply BW.drew | (refine BW.setCell ?_ (by first | omega | (simp; done) | (simp; omega)) _) | (refine BW.trans ?_ (by assumption))))).mono ?_; rintro e w1 ⟨rfl, b1⟩))
        go_roundw
        case rel => exact ⟨k + 1, by omega, HS, by go_num, (by repeat (first | exact BW.refl _ | assumption | apply BW.alloc | apply BW.drewN | apply BW.drew | (refine BW.setCell ?_ (by first | omega | (simp; done) | (simp; omega)) _) | (refine BW.trans ?_ (by assumption))))⟩
        case measure => simp [intOf]; omega
    · have HS : Hid (l.any bad = false) := by
        have := HA.out
        rw [List.take_of_length_le (by have := HL.out; omega)] at this
        exact this
      obtain rfl : ln = k := by omega
      go_wp2_with (fail)
      go_ret
      exact ⟨_, rfl, by rw [HS.out]; decide, (by repeat (first | exact BW.refl _ | assumption | apply BW.alloc | apply BW.drewN | apply BW.drew | (refine BW.setCell ?_ (by first | omega | (simp; done) | (simp; omega)) _) | (refine BW.trans ?_ (by assumption))))⟩
set_option maxRecDepth 100000 in
set_option maxHeartbeats 4000000 in
theorem conPro_any (bad : Pro → Bool) (c1 : Value) (ao : Option Addr) (ln lc : Nat) (l : List Pro) (w : World) (h : ProsAt w ao ln l) (hn : ln ≤ 9223372036854775807)
    (hf : ∀ (y : Pro) (ca : Option Addr) (cl cc : Nat) (w' : World), BW w w' → y ∈ l → PrV w' y ca cl cc → Calls Tryd.prog 36 #[prv y.p y.s y.u ca cl cc, c1] w' fun e w'' => e = .returned (.bool (bad y)) ∧ BW w' w'') :
    Calls Tryd.prog 40 #[.slice ao ln lc, .func (.func 36) #[] #[c1]] w fun e w' => e = .returned (.bool (l.any bad)) ∧ BW w w' := by
  have HI : Hid (Calls Tryd.prog 66 #[.slice ao ln lc, .func (.func 36) #[] #[c1]] w fun e w' => ∃ n : Int, e = .returned (.int .i64 n) ∧ decide (0 ≤ n) = l.any bad ∧ BW w w') := idxPro_any bad c1 ao ln lc l w h hn hf
  clear h hf
  generalize l.any bad = q at *
  go_enter Tryd.func40, Tryd.ntmps40
  go_wp2_with (first | (go_at_call 66; refine HI.out.mono ?_; rintro e w1 ⟨n, rfl, hq, b1⟩))
  go_ret
  exact ⟨by rw [← hq]; rfl, b1⟩

end Go.Proofs.YtndhhmgbekcfoaaDoor
