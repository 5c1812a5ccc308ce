import Derived.Test.YtndhhmgbekcfoaaDoorM2
namespace Go.Proofs.YtndhhmgbekcfoaaDoor
open Go.RowKit
set_option linter.unusedVariables false
set_option linter.unusedSimpArgs false

set_option maxRecDepth 100000 in
set_option maxHeartbeats 4000000 in
theorem idxIns_any (bad : Ins → Bool) (c1 c2 : Value) (ao : Option Addr) (ln lc : Nat) (l : List Ins) (w : World) (h : CodeAt w ao ln l) (hn : ln ≤ 9223372036854775807)
    (hf : ∀ (y : Ins)  (w' : World), BW w w' → y ∈ l → I64 y.a → Calls Tryd.prog 61 #[.agg #[.int .u8 y.op, .int .i64 y.a], c1, c2] w' fun e w'' => e = .returned (.bool (bad y)) ∧ BW w' w'') :
    Calls Tryd.prog 84 #[.slice ao ln lc, .func (.func 61) #[] #[c1, c2]] w fun e w' => ∃ n : Int, e = .returned (.int .i64 n) ∧ decide (0 ≤ n) = l.any bad ∧ BW w w' := by
  have H : Hid (CodeAt w ao ln l) := h
  have HF : Hid _ := hf
  have HL : Hid (l.length = ln) := h.1
  clear h hf
  go_enter Tryd.func84, Tryd.ntmps84
  go_wp2_with (fail)
  go_loopw [8] (fun i w' => ∃ k : Nat, k ≤ ln ∧ Hid ((l.take k).any bad = false) ∧ i = .int .i64 k ∧ BW w w') (fun i _ => ln - (intOf i).toNat)
  case atStart => exact ⟨0, Nat.zero_le _, by simp [Hid], rfl, (by repeat (first | exact BW.refl _ | apply BW.alloc | apply BW.drewN | apply BW.drew))⟩
  case round =>
    obtain ⟨k, hk, HA, rfl, hb⟩ := hrel
    by_cases hlt : k < ln
    · obtain ⟨b, off, y, rfl, hbl, hx, hc1⟩ := RowAt.get H.out hlt
      obtain ⟨d1, d2, _, hi⟩ := hc1.bw hb _ _ _ hbl
      clear hc1
      have hbw : b < wr.heap.size := by have := hb.size; omega
      have HC : Hid (∀ w', BW wr w' → Calls Tryd.prog 61 #[.agg #[.int .u8 y.op, .int .i64 y.a], c1, c2] w' fun e w'' => e = .returned (.bool (bad y)) ∧ BW w' w'') := fun w' hw => HF.out y w' (BW.trans hb hw) (List.mem_of_getElem? hx) hi
      cases hy : bad y with
      | true =>
        have HS : Hid (l.any bad = true) := any_hit bad hx hy
        rw [hy] at HC
        clear hx hy HA
        go_wp2_with (first | (go_at_call 61; refine (HC.out _ (by repeat (first | exact BW.refl _ | assumption | apply BW.alloc | apply BW.drewN | apply BW.drew | (refine BW.setCell ?_ (by first | omega | (simp; done) | (simp; omega)) _) | (refine BW.trans ?_ (by assumption))))).mono ?_; rintro e w1 ⟨rfl, b1⟩))
        all_goals (go_wp2_with (fail))
        all_goals (go_ret; exact ⟨_, rfl, by rw [HS.out]; simp, (by repeat (first | exact BW.refl _ | assumption | apply BW.alloc | apply BW.drewN | apply BW.drew | (refine BW.setCell ?_ (by first | omega | (simp; done) | (simp; omega)) _) | (refine BW.trans ?_ (by assumption))))⟩)
      | false =>
        have HS : Hid ((l.take (k + 1)).any bad = false) := by show _ = _; rw [any_snoc bad hx, HA.out, hy]; rfl
        rw [hy] at HC
        clear hx hy HA
        go_wp2_with (first | (go_at_call 61; refine (HC.out _ (by repeat (first | exact BW.refl _ | assumption | apply BW.alloc | apply BW.drewN | apply BW.drew | (refine BW.setCell ?_ (by first | omega | (simp; done) | (simp; omega)) _) | (refine BW.trans ?_ (by assumption))))).mono ?_; rintro e w1 ⟨rfl, b1⟩))
        go_roundw
        case rel => exact ⟨k + 1, by omega, HS, by go_num, (by repeat (first | exact BW.refl _ | assumption | apply BW.alloc | apply BW.drewN | apply BW.drew | (refine BW.setCell ?_ (by first | omega | (simp; done) | (simp; omega)) _) | (refine BW.trans ?_ (by assumption))))⟩
        case measure => simp [intOf]; omega
    · have HS : Hid (l.any bad = false) := by
        have := HA.out
        rw [List.take_of_length_le (by have := HL.out; omega)] at this
        exact this
      obtain rfl : ln = k := by omega
      go_wp2_with (fail)
      go_ret
      exact ⟨_, rfl, by rw [HS.out]; decide, (by repeat (first | exact BW.refl _ | assumption | apply BW.alloc | apply BW.drewN | apply BW.drew | (refine BW.setCell ?_ (by first | omega | (simp; done) | (simp; omega)) _) | (refine BW.trans ?_ (by assumption))))⟩
set_option maxRecDepth 100000 in
set_option maxHeartbeats 4000000 in
theorem conIns_any (bad : Ins → Bool) (c1 c2 : Value) (ao : Option Addr) (ln lc : Nat) (l : List Ins) (w : World) (h : CodeAt w ao ln l) (hn : ln ≤ 9223372036854775807)
    (hf : ∀ (y : Ins)  (w' : World), BW w w' → y ∈ l → I64 y.a → Calls Tryd.prog 61 #[.agg #[.int .u8 y.op, .int .i64 y.a], c1, c2] w' fun e w'' => e = .returned (.bool (bad y)) ∧ BW w' w'') :
    Calls Tryd.prog 63 #[.slice ao ln lc, .func (.func 61) #[] #[c1, c2]] w fun e w' => e = .returned (.bool (l.any bad)) ∧ BW w w' := by
  have HI : Hid (Calls Tryd.prog 84 #[.slice ao ln lc, .func (.func 61) #[] #[c1, c2]] w fun e w' => ∃ n : Int, e = .returned (.int .i64 n) ∧ decide (0 ≤ n) = l.any bad ∧ BW w w') := idxIns_any bad c1 c2 ao ln lc l w h hn hf
  clear h hf
  generalize l.any bad = q at *
  go_enter Tryd.func63, Tryd.ntmps63
  go_wp2_with (first | (go_at_call 84; refine HI.out.mono ?_; rintro e w1 ⟨n, rfl, hq, b1⟩))
  go_ret
  exact ⟨by rw [← hq]; rfl, b1⟩
set_option maxRecDepth 100000 in
set_option maxHeartbeats 4000000 in
theorem bad47 (r : Mw) (m : Mdl) (x : Pro) (ca : Option Addr) (cl cc mb pb : Nat) (i : Ins) (w : World) (h : ModAt w r m) (hv : Vs w) (hx : PrV w x ca cl cc) (hi : I64 i.a) (hm : MdK w mb r) (hp : PrK w pb 0 x ca cl cc) (hmb : mb < w.heap.size) (hpb : pb < w.heap.size) : Calls Tryd.prog 61 #[.agg #[.int .u8 i.op, .int .i64 i.a], .pointer (some ⟨mb, 0, none⟩), .pointer (some ⟨pb, 0, none⟩)] w fun e w' => e = .returned (.bool (!insB m x i)) ∧ BW w w' := by
  have HI : Hid (∀ w', BW w w' → Calls Tryd.prog 62 #[r.v, prv x.p x.s x.u ca cl cc, .agg #[.int .u8 i.op, .int .i64 i.a]] w' fun e w'' => e = .returned (.bool (insB m x i)) ∧ BW w' w'') := fun w' k => instruction_any r m x ca cl cc i w' (h.bw k) (hv.bw k) (hx.bw k) hi
  obtain ⟨g0, g1, g2, g3⟩ := hm
  obtain ⟨f0, f1, f2, f3⟩ := hp
  clear h hv hx
  generalize insB m x i = q at *
  go_enter Tryd.func61, Tryd.ntmps61
  go_wp2_with (first | (go_at_call 62; refine (HI.out _ (by repeat (first | exact BW.refl _ | assumption | apply BW.alloc | apply BW.drewN | apply BW.drew | (refine BW.setCell ?_ (by first | omega | (simp; done) | (simp; omega)) _) | (refine BW.trans ?_ (by assumption))))).mono ?_; rintro e w1 ⟨rfl, b1⟩))
  go_ret
  exact ⟨rfl, (by repeat (first | exact BW.refl _ | assumption | apply BW.alloc | apply BW.drewN | apply BW.drew | (refine BW.setCell ?_ (by first | omega | (simp; done) | (simp; omega)) _) | (refine BW.trans ?_ (by assumption))))⟩

end Go.Proofs.YtndhhmgbekcfoaaDoor
