import Derived.Test.YtbiahgjlgojhdaaB12
import Derived.Deep.RegionWith
import Derived.Deep.RegionHeld3
import Derived.Deep.DeepCutAuto
namespace Go.Proofs.Ytbiahgjlgojhdaa
open Go.RowKit
set_option linter.unusedVariables false
def blk64 : Obj := .cells (Array.replicate 64 (.bool false)) 4
theorem blk_cell (w : World) (j : Nat) (hj : j < 64) : (w.alloc blk64).cell? ⟨w.heap.size, j, none⟩ = some (.bool false) := by
  unfold blk64
  rw [World.cell?_alloc_new]
  simp [hj]
theorem blk_froz (w : World) (j : Nat) : (w.alloc blk64).frozen? ⟨w.heap.size, j, none⟩ = false := by
  unfold blk64
  rw [frozen?_alloc_cells]
  simp [World.frozen?]
theorem make64 (w : World) : (Instr.makeSlice 62 (.int .i64 64) (.int .i64 64)).run Try.prog w = .ok (.slice (some ⟨w.heap.size, 0, none⟩) 64 64) (w.alloc blk64) := by kernel_rfl
/-- What stands of the row behind k rounds. -/
structure Upto (w wr : World) (f : Nat → Bool) (k : Nat) : Prop where
  bw : BW w wr
  bits : Bits wr w.heap.size f k
  has : ∀ j, j < 64 → (wr.cell? ⟨w.heap.size, j, none⟩).isSome = true
  froz : ∀ j, wr.frozen? ⟨w.heap.size, j, none⟩ = false
theorem Upto.zero (w : World) (f : Nat → Bool) : Upto w (w.alloc blk64) f 0 :=
  ⟨(BW.refl w).alloc _, fun j h => absurd h (Nat.not_lt_zero j), fun j h => by rw [blk_cell w j h]; rfl, blk_froz w⟩
theorem Upto.next {w wr : World} {f : Nat → Bool} {k : Nat} (h : Upto w wr f k) (hk : k < 64) (v : Bool) (hv : f k = v) : Upto w (wr.setCell ⟨w.heap.size, k, none⟩ (.bool v)) f (k + 1) := by
  have hs := h.has k hk
  refine ⟨h.bw.setCell (Nat.le_refl _) _, fun j hj => ?_, fun j hj => ?_, fun j => ?_⟩
  · by_cases e : j = k
    · subst e; rw [hv]; exact World.cell?_setCell_same' _ _ _ hs
    · have hne : (⟨w.heap.size, k, none⟩ : Addr) ≠ ⟨w.heap.size, j, none⟩ := fun x => e (by injection x with _ x; exact x.symm)
      rw [World.cell?_setCell_other wr _ _ (.bool v) hne]; exact h.bits j (by omega)
  · by_cases e : j = k
    · subst e; rw [World.cell?_setCell_same' _ _ _ hs]; rfl
    · have hne : (⟨w.heap.size, k, none⟩ : Addr) ≠ ⟨w.heap.size, j, none⟩ := fun x => e (by injection x with _ x; exact x.symm)
      rw [World.cell?_setCell_other wr _ _ (.bool v) hne]; exact h.has j hj
  · rw [World.frozen?_setCell]; exact h.froz j
set_option maxRecDepth 100000 in
set_option maxHeartbeats 400000 in
theorem bitwise_and (a b : Int) (a0 : -9223372036854775808 ≤ a) (a1 : a ≤ 9223372036854775807) (b0 : -9223372036854775808 ≤ b) (b1 : b ≤ 9223372036854775807) (w : World) :
    Calls Try.prog 48 #[.string ⟨#[97, 110, 100]⟩, .int .i64 (a), .int .i64 (b)] w fun e w' => e = .returned (.int .i64 (ofB fun i => bitB a i && bitB b i)) ∧ BW w w' := by
  have hmk := make64
  go_enter Try.func48, Try.ntmps48
  go_wp2_with fail
  clear hmk
  go_loopw [8] (fun i wr => ∃ k : Nat, k ≤ 64 ∧ i = .int .i64 k ∧ Upto w wr (fun i => bitB a i && bitB b i) k) (fun i _ => 64 - (intOf i).toNat)
  case atStart => exact ⟨0, Nat.zero_le _, rfl, Upto.zero w _⟩
  case round =>
    obtain ⟨k, hk, rfl, hU⟩ := hrel
    by_cases hlt : k < 64
    · obtain ⟨u0, hu0⟩ := Option.isSome_iff_exists.1 (hU.has k hlt)
      have hfroz := hU.froz k
      have hlt' : (k : Int) < 64 := by omega
      cases hx : bitB a k <;> cases hy : bitB b k
      all_goals
        go_wp2_with (first | (go_at_call_of 49 (Value.int IntKind.i64 a); refine (bit_is a a0 a1 k (by omega) _ hx _).mono ?_; rintro e v1 ⟨rfl, rfl⟩) | (go_at_call_of 49 (Value.int IntKind.i64 b); refine (bit_is b b0 b1 k (by omega) _ hy _).mono ?_; rintro e v1 ⟨rfl, rfl⟩))
        exact ⟨⟨k + 1, by omega, by go_num, hU.next hlt _ (by first | (simp [*]; done) | (rw [hq]; simp [*]))⟩, by simp [intOf]; omega⟩
    · have hk4 : k = 64 := by omega
      subst hk4
      have HU : Hid (Upto w wr (fun i => bitB a i && bitB b i) 64) := hU
      clear hU
      go_wp2_with (go_at_call 50; refine (of_bits (fun i => bitB a i && bitB b i) _ _ HU.out.bits).mono ?_; rintro e v1 ⟨rfl, hb⟩)
      go_ret
      exact ⟨rfl, HU.out.bw.trans hb⟩
set_option maxRecDepth 100000 in
set_option maxHeartbeats 400000 in
theorem bitwise_or (a b : Int) (a0 : -9223372036854775808 ≤ a) (a1 : a ≤ 9223372036854775807) (b0 : -9223372036854775808 ≤ b) (b1 : b ≤ 9223372036854775807) (w : World) :
    Calls Try.prog 48 #[.string ⟨#[111, 114]⟩, .int .i64 (a), .int .i64 (b)] w fun e w' => e = .returned (.int .i64 (ofB fun i => bitB a i || bitB b i)) ∧ BW w w' := by
  have hmk := make64
  go_enter Try.func48, Try.ntmps48
  go_wp2_with fail
  clear hmk
  go_loopw [8] (fun i wr => ∃ k : Nat, k ≤ 64 ∧ i = .int .i64 k ∧ Upto w wr (fun i => bitB a i || bitB b i) k) (fun i _ => 64 - (intOf i).toNat)
  case atStart => exact ⟨0, Nat.zero_le _, rfl, Upto.zero w _⟩
  case round =>
    obtain ⟨k, hk, rfl, hU⟩ := hrel
    by_cases hlt : k < 64
    · obtain ⟨u0, hu0⟩ := Option.isSome_iff_exists.1 (hU.has k hlt)
      have hfroz := hU.froz k
      have hlt' : (k : Int) < 64 := by omega
      cases hx : bitB a k <;> cases hy : bitB b k
      all_goals
        go_wp2_with (first | (go_at_call_of 49 (Value.int IntKind.i64 a); refine (bit_is a a0 a1 k (by omega) _ hx _).mono ?_; rintro e v1 ⟨rfl, rfl⟩) | (go_at_call_of 49 (Value.int IntKind.i64 b); refine (bit_is b b0 b1 k (by omega) _ hy _).mono ?_; rintro e v1 ⟨rfl, rfl⟩))
        exact ⟨⟨k + 1, by omega, by go_num, hU.next hlt _ (by first | (simp [*]; done) | (rw [hq]; simp [*]))⟩, by simp [intOf]; omega⟩
    · have hk4 : k = 64 := by omega
      subst hk4
      have HU : Hid (Upto w wr (fun i => bitB a i || bitB b i) 64) := hU
      clear hU
      go_wp2_with (go_at_call 50; refine (of_bits (fun i => bitB a i || bitB b i) _ _ HU.out.bits).mono ?_; rintro e v1 ⟨rfl, hb⟩)
      go_ret
      exact ⟨rfl, HU.out.bw.trans hb⟩
set_option maxRecDepth 100000 in
set_option maxHeartbeats 400000 in
theorem bitwise_xor (a b : Int) (a0 : -9223372036854775808 ≤ a) (a1 : a ≤ 9223372036854775807) (b0 : -9223372036854775808 ≤ b) (b1 : b ≤ 9223372036854775807) (w : World) :
    Calls Try.prog 48 #[.string ⟨#[120, 111, 114]⟩, .int .i64 (a), .int .i64 (b)] w fun e w' => e = .returned (.int .i64 (ofB fun i => bitB a i != bitB b i)) ∧ BW w w' := by
  have hmk := make64
  go_enter Try.func48, Try.ntmps48
  go_wp2_with fail
  clear hmk
  go_loopw [8] (fun i wr => ∃ k : Nat, k ≤ 64 ∧ i = .int .i64 k ∧ Upto w wr (fun i => bitB a i != bitB b i) k) (fun i _ => 64 - (intOf i).toNat)
  case atStart => exact ⟨0, Nat.zero_le _, rfl, Upto.zero w _⟩
  case round =>
    obtain ⟨k, hk, rfl, hU⟩ := hrel
    by_cases hlt : k < 64
    · obtain ⟨u0, hu0⟩ := Option.isSome_iff_exists.1 (hU.has k hlt)
      have hfroz := hU.froz k
      have hlt' : (k : Int) < 64 := by omega
      cases hx : bitB a k <;> cases hy : bitB b k
      all_goals
        go_wp2_with (first | (go_at_call_of 49 (Value.int IntKind.i64 a); refine (bit_is a a0 a1 k (by omega) _ hx _).mono ?_; rintro e v1 ⟨rfl, rfl⟩) | (go_at_call_of 49 (Value.int IntKind.i64 b); refine (bit_is b b0 b1 k (by omega) _ hy _).mono ?_; rintro e v1 ⟨rfl, rfl⟩))
        exact ⟨⟨k + 1, by omega, by go_num, hU.next hlt _ (by first | (simp [*]; done) | (rw [hq]; simp [*]))⟩, by simp [intOf]; omega⟩
    · have hk4 : k = 64 := by omega
      subst hk4
      have HU : Hid (Upto w wr (fun i => bitB a i != bitB b i) 64) := hU
      clear hU
      go_wp2_with (go_at_call 50; refine (of_bits (fun i => bitB a i != bitB b i) _ _ HU.out.bits).mono ?_; rintro e v1 ⟨rfl, hb⟩)
      go_ret
      exact ⟨rfl, HU.out.bw.trans hb⟩
theorem bit_at (n : Int) (h0 : -9223372036854775808 ≤ n) (h1 : n ≤ 9223372036854775807) (z : Int) (i : Nat) (hi : i ≤ 63) (hz : z = (i : Int)) (v : Bool) (hv : bitB n i = v) (w : World) :
    Calls Try.prog 49 #[.int .i64 n, .int .i64 z] w fun e w' => e = .returned (.bool v) ∧ w' = w := by
  subst hz
  exact bit_is n h0 h1 i hi v hv w
set_option maxRecDepth 100000 in
set_option maxHeartbeats 400000 in
theorem bitwise_shl (a : Int) (bn : Nat) (hbn : bn ≤ 63) (a0 : -9223372036854775808 ≤ a) (a1 : a ≤ 9223372036854775807) (w : World) :
    Calls Try.prog 48 #[.string ⟨#[115, 104, 108]⟩, .int .i64 (a), .int .i64 ((bn : Int))] w fun e w' => e = .returned (.int .i64 (ofB fun i => decide (bn ≤ i) && bitB a (i - bn))) ∧ BW w w' := by
  have hmk := make64
  go_enter Try.func48, Try.ntmps48
  go_wp2_with fail
  clear hmk
  go_loopw [8] (fun i wr => ∃ k : Nat, k ≤ 64 ∧ i = .int .i64 k ∧ Upto w wr (fun i => decide (bn ≤ i) && bitB a (i - bn)) k) (fun i _ => 64 - (intOf i).toNat)
  case atStart => exact ⟨0, Nat.zero_le _, rfl, Upto.zero w _⟩
  case round =>
    obtain ⟨k, hk, rfl, hU⟩ := hrel
    by_cases hlt : k < 64
    · obtain ⟨u0, hu0⟩ := Option.isSome_iff_exists.1 (hU.has k hlt)
      have hfroz := hU.froz k
      have hlt' : (k : Int) < 64 := by omega
      by_cases hbk : bn < k
      · have hbk' : (bn : Int) < (k : Int) := by omega
        have hle : bn ≤ k := by omega
        cases hx : bitB a k <;> cases hy : bitB (bn : Int) k <;> cases hq : bitB a (k - bn)
        all_goals
          go_wp2_with (first | (go_at_call_of 49 (Value.int IntKind.i64 (bn : Int)); refine (bit_is (bn : Int) (by omega) (by omega) k (by omega) _ hy _).mono ?_; rintro e v1 ⟨rfl, rfl⟩) | (go_at_call_of 49 (Value.int IntKind.i64 ((k : Int) - (bn : Int))); refine (bit_at a a0 a1 ((k : Int) - (bn : Int)) (k - bn) (by omega) (by omega) _ hq _).mono ?_; rintro e v1 ⟨rfl, rfl⟩) | (go_at_call_of 49 (Value.int IntKind.i64 (k : Int)); refine (bit_is a a0 a1 k (by omega) _ hx _).mono ?_; rintro e v1 ⟨rfl, rfl⟩))
          exact ⟨⟨k + 1, by omega, by go_num, hU.next hlt _ (by first | (simp [*]; done) | (rw [hq]; simp [*]))⟩, by simp [intOf]; omega⟩
      · by_cases hbe : bn ≤ k
        · have hbk' : ¬ (bn : Int) < (k : Int) := by omega
          have hle : (bn : Int) ≤ (k : Int) := by omega
          cases hx : bitB a k <;> cases hy : bitB (bn : Int) k <;> cases hq : bitB a (k - bn)
          all_goals
            go_wp2_with (first | (go_at_call_of 49 (Value.int IntKind.i64 (bn : Int)); refine (bit_is (bn : Int) (by omega) (by omega) k (by omega) _ hy _).mono ?_; rintro e v1 ⟨rfl, rfl⟩) | (go_at_call_of 49 (Value.int IntKind.i64 (0)); refine (bit_at a a0 a1 (0) (k - bn) (by omega) (by omega) _ hq _).mono ?_; rintro e v1 ⟨rfl, rfl⟩) | (go_at_call_of 49 (Value.int IntKind.i64 (k : Int)); refine (bit_is a a0 a1 k (by omega) _ hx _).mono ?_; rintro e v1 ⟨rfl, rfl⟩))
            exact ⟨⟨k + 1, by omega, by go_num, hU.next hlt _ (by first | (simp [*]; done) | (rw [hq]; simp [*]))⟩, by simp [intOf]; omega⟩
        · have hbk2 : (k : Int) < (bn : Int) := by omega
          cases hx : bitB a k <;> cases hy : bitB (bn : Int) k
          all_goals
            go_wp2_with (first | (go_at_call_of 49 (Value.int IntKind.i64 (bn : Int)); refine (bit_is (bn : Int) (by omega) (by omega) k (by omega) _ hy _).mono ?_; rintro e v1 ⟨rfl, rfl⟩) | (go_at_call_of 49 (Value.int IntKind.i64 (k : Int)); refine (bit_is a a0 a1 k (by omega) _ hx _).mono ?_; rintro e v1 ⟨rfl, rfl⟩))
            exact ⟨⟨k + 1, by omega, by go_num, hU.next hlt _ (by first | (simp [*]; done) | (rw [hq]; simp [*]))⟩, by simp [intOf]; omega⟩
    · have hk4 : k = 64 := by omega
      subst hk4
      have HU : Hid (Upto w wr (fun i => decide (bn ≤ i) && bitB a (i - bn)) 64) := hU
      clear hU
      go_wp2_with (go_at_call 50; refine (of_bits (fun i => decide (bn ≤ i) && bitB a (i - bn)) _ _ HU.out.bits).mono ?_; rintro e v1 ⟨rfl, hb⟩)
      go_ret
      exact ⟨rfl, HU.out.bw.trans hb⟩
set_option maxRecDepth 100000 in
set_option maxHeartbeats 400000 in
theorem bitwise_shr (a : Int) (bn : Nat) (hbn : bn ≤ 63) (a0 : -9223372036854775808 ≤ a) (a1 : a ≤ 9223372036854775807) (w : World) :
    Calls Try.prog 48 #[.string ⟨#[115, 104, 114]⟩, .int .i64 (a), .int .i64 ((bn : Int))] w fun e w' => e = .returned (.int .i64 (ofB fun i => bitB a (min 63 (i + bn)))) ∧ BW w w' := by
  have hmk := make64
  go_enter Try.func48, Try.ntmps48
  go_wp2_with fail
  clear hmk
  go_loopw [8] (fun i wr => ∃ k : Nat, k ≤ 64 ∧ i = .int .i64 k ∧ Upto w wr (fun i => bitB a (min 63 (i + bn))) k) (fun i _ => 64 - (intOf i).toNat)
  case atStart => exact ⟨0, Nat.zero_le _, rfl, Upto.zero w _⟩
  case round =>
    obtain ⟨k, hk, rfl, hU⟩ := hrel
    by_cases hlt : k < 64
    · obtain ⟨u0, hu0⟩ := Option.isSome_iff_exists.1 (hU.has k hlt)
      have hfroz := hU.froz k
      have hlt' : (k : Int) < 64 := by omega
      by_cases hbk : k + bn < 63
      · have hbk' : (k : Int) + (bn : Int) < 63 := by omega
        cases hx : bitB a k <;> cases hy : bitB (bn : Int) k <;> cases hq : bitB a (min 63 (k + bn))
        all_goals
          go_wp2_with (first | (go_at_call_of 49 (Value.int IntKind.i64 (bn : Int)); refine (bit_is (bn : Int) (by omega) (by omega) k (by omega) _ hy _).mono ?_; rintro e v1 ⟨rfl, rfl⟩) | (go_at_call_of 49 (Value.int IntKind.i64 ((k : Int) + (bn : Int))); refine (bit_at a a0 a1 ((k : Int) + (bn : Int)) (min 63 (k + bn)) (by omega) (by omega) _ hq _).mono ?_; rintro e v1 ⟨rfl, rfl⟩) | (go_at_call_of 49 (Value.int IntKind.i64 (k : Int)); refine (bit_is a a0 a1 k (by omega) _ hx _).mono ?_; rintro e v1 ⟨rfl, rfl⟩))
          exact ⟨⟨k + 1, by omega, by go_num, hU.next hlt _ (by first | (simp [*]; done) | (rw [hq]; simp [*]))⟩, by simp [intOf]; omega⟩
      · have hbk' : ¬ (k : Int) + (bn : Int) < 63 := by omega
        cases hx : bitB a k <;> cases hy : bitB (bn : Int) k <;> cases hq : bitB a (min 63 (k + bn))
        all_goals
          go_wp2_with (first | (go_at_call_of 49 (Value.int IntKind.i64 (bn : Int)); refine (bit_is (bn : Int) (by omega) (by omega) k (by omega) _ hy _).mono ?_; rintro e v1 ⟨rfl, rfl⟩) | (go_at_call_of 49 (Value.int IntKind.i64 (63)); refine (bit_at a a0 a1 (63) (min 63 (k + bn)) (by omega) (by omega) _ hq _).mono ?_; rintro e v1 ⟨rfl, rfl⟩) | (go_at_call_of 49 (Value.int IntKind.i64 (k : Int)); refine (bit_is a a0 a1 k (by omega) _ hx _).mono ?_; rintro e v1 ⟨rfl, rfl⟩))
          exact ⟨⟨k + 1, by omega, by go_num, hU.next hlt _ (by first | (simp [*]; done) | (rw [hq]; simp [*]))⟩, by simp [intOf]; omega⟩
    · have hk4 : k = 64 := by omega
      subst hk4
      have HU : Hid (Upto w wr (fun i => bitB a (min 63 (i + bn))) 64) := hU
      clear hU
      go_wp2_with (go_at_call 50; refine (of_bits (fun i => bitB a (min 63 (i + bn))) _ _ HU.out.bits).mono ?_; rintro e v1 ⟨rfl, hb⟩)
      go_ret
      exact ⟨rfl, HU.out.bw.trans hb⟩
set_option maxRecDepth 100000 in
set_option maxHeartbeats 400000 in
theorem bitwise_ushr (a : Int) (bn : Nat) (hbn : bn ≤ 63) (a0 : -9223372036854775808 ≤ a) (a1 : a ≤ 9223372036854775807) (w : World) :
    Calls Try.prog 48 #[.string ⟨#[117, 115, 104, 114]⟩, .int .i64 (a), .int .i64 ((bn : Int))] w fun e w' => e = .returned (.int .i64 (ofB fun i => decide (i + bn ≤ 63) && bitB a (min 63 (i + bn)))) ∧ BW w w' := by
  have hmk := make64
  go_enter Try.func48, Try.ntmps48
  go_wp2_with fail
  clear hmk
  go_loopw [8] (fun i wr => ∃ k : Nat, k ≤ 64 ∧ i = .int .i64 k ∧ Upto w wr (fun i => decide (i + bn ≤ 63) && bitB a (min 63 (i + bn))) k) (fun i _ => 64 - (intOf i).toNat)
  case atStart => exact ⟨0, Nat.zero_le _, rfl, Upto.zero w _⟩
  case round =>
    obtain ⟨k, hk, rfl, hU⟩ := hrel
    by_cases hlt : k < 64
    · obtain ⟨u0, hu0⟩ := Option.isSome_iff_exists.1 (hU.has k hlt)
      have hfroz := hU.froz k
      have hlt' : (k : Int) < 64 := by omega
      by_cases hbk : k + bn < 63
      · have hbk' : (k : Int) + (bn : Int) < 63 := by omega
        have hle : k + bn ≤ 63 := by omega
        cases hx : bitB a k <;> cases hy : bitB (bn : Int) k <;> cases hq : bitB a (min 63 (k + bn))
        all_goals
          go_wp2_with (first | (go_at_call_of 49 (Value.int IntKind.i64 (bn : Int)); refine (bit_is (bn : Int) (by omega) (by omega) k (by omega) _ hy _).mono ?_; rintro e v1 ⟨rfl, rfl⟩) | (go_at_call_of 49 (Value.int IntKind.i64 ((k : Int) + (bn : Int))); refine (bit_at a a0 a1 ((k : Int) + (bn : Int)) (min 63 (k + bn)) (by omega) (by omega) _ hq _).mono ?_; rintro e v1 ⟨rfl, rfl⟩) | (go_at_call_of 49 (Value.int IntKind.i64 (k : Int)); refine (bit_is a a0 a1 k (by omega) _ hx _).mono ?_; rintro e v1 ⟨rfl, rfl⟩))
          exact ⟨⟨k + 1, by omega, by go_num, hU.next hlt _ (by first | (simp [*]; done) | (rw [hq]; simp [*]))⟩, by simp [intOf]; omega⟩
      · by_cases hle : k + bn ≤ 63
        · have hbk' : ¬ (k : Int) + (bn : Int) < 63 := by omega
          have hle' : (k : Int) + (bn : Int) ≤ 63 := by omega
          cases hx : bitB a k <;> cases hy : bitB (bn : Int) k <;> cases hq : bitB a (min 63 (k + bn))
          all_goals
            go_wp2_with (first | (go_at_call_of 49 (Value.int IntKind.i64 (bn : Int)); refine (bit_is (bn : Int) (by omega) (by omega) k (by omega) _ hy _).mono ?_; rintro e v1 ⟨rfl, rfl⟩) | (go_at_call_of 49 (Value.int IntKind.i64 (63)); refine (bit_at a a0 a1 (63) (min 63 (k + bn)) (by omega) (by omega) _ hq _).mono ?_; rintro e v1 ⟨rfl, rfl⟩) | (go_at_call_of 49 (Value.int IntKind.i64 (k : Int)); refine (bit_is a a0 a1 k (by omega) _ hx _).mono ?_; rintro e v1 ⟨rfl, rfl⟩))
            exact ⟨⟨k + 1, by omega, by go_num, hU.next hlt _ (by first | (simp [*]; done) | (rw [hq]; simp [*]))⟩, by simp [intOf]; omega⟩
        · have hbk2 : 63 < (k : Int) + (bn : Int) := by omega
          cases hx : bitB a k <;> cases hy : bitB (bn : Int) k
          all_goals
            go_wp2_with (first | (go_at_call_of 49 (Value.int IntKind.i64 (bn : Int)); refine (bit_is (bn : Int) (by omega) (by omega) k (by omega) _ hy _).mono ?_; rintro e v1 ⟨rfl, rfl⟩) | (go_at_call_of 49 (Value.int IntKind.i64 (k : Int)); refine (bit_is a a0 a1 k (by omega) _ hx _).mono ?_; rintro e v1 ⟨rfl, rfl⟩))
            exact ⟨⟨k + 1, by omega, by go_num, hU.next hlt _ (by first | (simp [*]; done) | (rw [hq]; simp [*]))⟩, by simp [intOf]; omega⟩
    · have hk4 : k = 64 := by omega
      subst hk4
      have HU : Hid (Upto w wr (fun i => decide (i + bn ≤ 63) && bitB a (min 63 (i + bn))) 64) := hU
      clear hU
      go_wp2_with (go_at_call 50; refine (of_bits (fun i => decide (i + bn ≤ 63) && bitB a (min 63 (i + bn))) _ _ HU.out.bits).mono ?_; rintro e v1 ⟨rfl, hb⟩)
      go_ret
      exact ⟨rfl, HU.out.bw.trans hb⟩
end Go.Proofs.Ytbiahgjlgojhdaa
