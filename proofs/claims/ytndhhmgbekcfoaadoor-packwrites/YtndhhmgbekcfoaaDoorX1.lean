import Derived.Test.YtndhhmgbekcfoaaDoorO1
namespace Go.Proofs.YtndhhmgbekcfoaaDoor
open Go.RowKit
set_option linter.unusedVariables false
set_option linter.unusedSimpArgs false

theorem add128 : ∀ x : Fin 256, IntKind.u8.wrap ((x.val % 128 : Nat) + 128 : Int) = ((x.val % 128 + 128 : Nat) : Int) := by decide +kernel
/-- A row of one byte, just made. -/
theorem bf_lit (w : World) (k : Nat) : Bf w (w.alloc (.cells #[.int .u8 (k : Int)] 5)) (.slice (some ⟨w.heap.size, 0, none⟩) 1 1) [k] :=
  ⟨BW.alloc (BW.refl _) _, by simp [bs], .inr ⟨w.heap.size, 1, _, rfl, Nat.le_refl _, heap_alloc_new w _, Nat.le_refl _, by unfold maxLen; omega, rfl, rfl⟩⟩
theorem bf_keep {W0 w w' : World} {v : Value} {l : List Nat} (h : Bf W0 w v l) (k : BW w w') : Bf W0 w' v l := by
  obtain ⟨h1, h2⟩ := h
  have hlt := World.ownsRow.lt h2
  obtain ⟨h3, h4⟩ := h2
  refine ⟨h1.trans k, h3, ?_⟩
  rcases h4 with h4 | ⟨g, cap, cur, e, hb, hg, r⟩
  · exact .inl h4
  · exact .inr ⟨g, cap, cur, e, hb, (k.block g (hlt g (by rw [e]; rfl)).2).trans hg, r⟩
theorem bf_base {W0 W1 w : World} {v : Value} {l : List Nat} (h : Bf W1 w v l) (k : BW W0 W1) : Bf W0 w v l := ⟨k.trans h.1, own_mono h.2 k.size⟩
theorem bf_at {W0 w : World} {v : Value} {l : List Nat} (h : Bf W0 w v l) (hp : 0 < l.length) : ∃ g c, v = .slice (some ⟨g, 0, none⟩) l.length c ∧ ∀ j u, (bs l)[j]? = some u → w.cell? ((⟨g, 0, none⟩ : Addr).add j) = some u := by
  obtain ⟨g, c, e, h1, h2, h3, h4, h5⟩ := own_bytes h.2 hp
  refine ⟨g, c, e, fun j u hu => ?_⟩
  subst e
  exact h.2.cells (g := g) rfl j u hu
set_option maxRecDepth 100000 in
set_option maxHeartbeats 4000000 in
theorem num_one (n : Nat) (l : List Nat) (w : World) (hl : l.length ≤ 100) (hlp : 0 < l.length) (h : ¬ n < 128) (hn : n ≤ 18446744073709551615)
    (HI : ∀ w', Calls Tryd.prog 22 #[.int .u64 ((n / 128 : Nat) : Int)] w' fun e w'' => ∃ v, e = .returned v ∧ Bf w' w'' v l) :
    Calls Tryd.prog 22 #[.int .u64 (n : Int)] w fun e w' => ∃ v, e = .returned v ∧ Bf w w' v ((n % 128 + 128) :: l) := by
  have HC : Hid (∀ w', Calls Tryd.prog 22 #[.int .u64 ((n / 128 : Nat) : Int)] w' fun e w'' => ∃ v, e = .returned v ∧ Bf w' w'' v l) := HI
  have e0 : decide ((n : Int) < 128) = false := by simp; omega
  have e1 : (n : Int) / 128 = ((n / 128 : Nat) : Int) := by omega
  have e2 : (n : Int) % 128 = ((n % 128 : Nat) : Int) := by omega
  have e3 : IntKind.u8.wrap ((n % 128 : Nat) : Int) = ((n % 128 : Nat) : Int) := u8w _ (by omega) (by omega)
  have e4 : IntKind.u8.wrap (((n % 128 : Nat) : Int) + 128) = ((n % 128 + 128 : Nat) : Int) := by rw [u8w _ (by omega) (by omega)]; omega
  have e5 : IntKind.u64.wrap ((n / 128 : Nat) : Int) = ((n / 128 : Nat) : Int) := u64w _ (by omega) (by omega)
  have HL : Hid (1 + l.length ≤ 70368744177664) := by show _ ≤ _; omega
  clear HI h hn
  generalize n / 128 = q at *
  generalize hb : n % 128 + 128 = b at *
  generalize n % 128 = r at *
  have HB0 : Hid (Bf w (w.alloc (.cells #[.int .u8 (b : Int)] 5)) (.slice (some ⟨w.heap.size, 0, none⟩) 1 1) [b]) := bf_lit w b
  clear hb hl
  go_enter Tryd.func22, Tryd.ntmps22
  go_wp2_with (first
    | (go_at_call 22; go_loud (refine (HC.out _).mono ?_; rintro e w1 ⟨v1, rfl, b1⟩; have B1 : Hid (Bf w w1 (.slice (some ⟨w.heap.size, 0, none⟩) 1 1) [b]) := bf_keep HB0.out b1.1; obtain ⟨g, c, rfl, hcells⟩ := bf_at b1 hlp; have HCE : Hid _ := hcells; clear b1 hcells))
    | (at_builtin; go_loud (refine wpList_app rfl (.tmp 12) (.tmp 15) rfl w _ _ _ l.length _ l rfl rfl B1.out rfl hlp HCE.out (by simpa [Nat.add_comm] using HL.out) ?_; intro v2 w2 o2 g2; have B2 : Hid _ := o2; clear o2 g2)))
  go_ret
  exact ⟨_, rfl, B2.out⟩
set_option maxRecDepth 100000 in
set_option maxHeartbeats 4000000 in
theorem num_small (n : Nat) (w : World) (h : n < 128) : Calls Tryd.prog 22 #[.int .u64 (n : Int)] w fun e w' => ∃ v, e = .returned v ∧ Bf w w' v [n] := by
  have e0 : decide ((n : Int) < 128) = true := by simp; omega
  have e3 : IntKind.u8.wrap (n : Int) = (n : Int) := u8w _ (by omega) (by omega)
  have e4 : (n : Int) % 256 = (n : Int) := by omega
  have HB0 : Hid (Bf w (w.alloc (.cells #[.int .u8 (n : Int)] 5)) (.slice (some ⟨w.heap.size, 0, none⟩) 1 1) [n]) := bf_lit w n
  go_enter Tryd.func22, Tryd.ntmps22
  go_wp2_with (fail)
  go_ret
  exact ⟨_, rfl, HB0.out⟩
theorem numF_any (f : Nat) : ∀ (n : Nat) (w : World), f ≤ 20 → n < 128 ^ (f + 1) → n ≤ 18446744073709551615 → Calls Tryd.prog 22 #[.int .u64 (n : Int)] w fun e w' => ∃ v, e = .returned v ∧ Bf w w' v (nbF f n) := by
  induction f with
  | zero =>
    intro n w _ h _
    exact num_small n w (by simpa using h)
  | succ f ih =>
    intro n w hf h hn
    by_cases h1 : n < 128
    · rw [nbF, if_pos h1]; exact num_small n w h1
    · rw [nbF, if_neg h1]
      have hl := nbF_len f (n / 128)
      exact num_one n _ w (by omega) hl.2 h1 hn (fun w' => ih (n / 128) w' (by omega) (by rw [Nat.pow_succ] at h; exact (Nat.div_lt_iff_lt_mul (by decide)).2 h) (by omega))
theorem num_any (n : Nat) (w : World) (hn : n ≤ 18446744073709551615) : Calls Tryd.prog 22 #[.int .u64 (n : Int)] w fun e w' => ∃ v, e = .returned v ∧ Bf w w' v (nb n) := numF_any 9 n w (by omega) (by omega) hn
set_option maxRecDepth 100000 in
set_option maxHeartbeats 4000000 in
theorem rsigned_any (n : Int) (w : World) (hn : I64 n) : Calls Tryd.prog 23 #[.int .i64 n] w fun e w' => ∃ v, e = .returned v ∧ Bf w w' v (nb (zz n)) := by
  have HC : Hid (Calls Tryd.prog 22 #[.int .u64 (zz n : Int)] w fun e w' => ∃ v, e = .returned v ∧ Bf w w' v (nb (zz n))) := num_any _ w (zz_le hn)
  by_cases h0 : n < 0
  · have hq : (zz n : Int) = 2 * (-(n + 1)) + 1 := by unfold zz; rw [if_pos h0]; unfold I64 at hn; omega
    have hl0 : decide (n < 0) = true := by simp [h0]
    have w0 : IntKind.i64.wrap (n + 1) = n + 1 := i64w _ (by unfold I64 at hn; omega) (by omega)
    have w2 : IntKind.u64.wrap (-(n + 1)) = -(n + 1) := u64w _ (by omega) (by unfold I64 at hn; omega)
    have w3 : IntKind.u64.wrap (2 * -(n + 1)) = 2 * -(n + 1) := u64w _ (by omega) (by unfold I64 at hn; omega)
    have w4 : IntKind.u64.wrap (2 * -(n + 1) + 1) = (zz n : Int) := by rw [u64w _ (by omega) (by unfold I64 at hn; omega)]; omega
    have w1 : wrap64 (-(n + 1)) = -(n + 1) := IntWalk.wrap64_in _ (by unfold I64 at hn; omega)
    clear hq hn
    generalize zz n = q at *
    generalize nb q = nw at *
    go_enter Tryd.func23, Tryd.ntmps23
    go_wp2_with (first | (go_at_call 22; go_loud (refine Calls.mono HC.out ?_; rintro e w1 ⟨v1, rfl, b1⟩; have B1 : Hid _ := b1; clear b1)))
    go_ret
    exact ⟨_, rfl, B1.out⟩
  · have hl0 : decide (n < 0) = false := by simp [h0]
    have w2 : IntKind.u64.wrap n = n := u64w _ (by omega) (by unfold I64 at hn; omega)
    have w3 : IntKind.u64.wrap (2 * n) = (zz n : Int) := by rw [u64w _ (by omega) (by unfold I64 at hn; omega)]; unfold zz; rw [if_neg h0]; omega
    have hl1 : ¬ n < 0 := h0
    clear hn h0
    generalize zz n = q at *
    generalize nb q = nw at *
    go_enter Tryd.func23, Tryd.ntmps23
    go_wp2_with (first | (go_at_call 22; go_loud (refine Calls.mono HC.out ?_; rintro e w1 ⟨v1, rfl, b1⟩; have B1 : Hid _ := b1; clear b1)))
    go_ret
    exact ⟨_, rfl, B1.out⟩

end Go.Proofs.YtndhhmgbekcfoaaDoor
