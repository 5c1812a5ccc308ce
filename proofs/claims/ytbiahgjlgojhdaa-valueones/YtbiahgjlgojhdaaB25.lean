import Derived.Test.YtbiahgjlgojhdaaB23
import Derived.Deep.RegionWith
import Derived.Deep.RegionHeld3
import Derived.Deep.DeepCutAuto
namespace Go.Proofs.Ytbiahgjlgojhdaa
open Go.RowKit
set_option linter.unusedVariables false
set_option maxRecDepth 100000 in
set_option maxHeartbeats 1000000 in
theorem r17_i8_ok (n : Int) (s : ByteArray)  (w : World) :
    Calls Try.prog 17 #[.string ⟨#[105, 56]⟩, V 1 n s] w fun e w' => e = .returned (.tuple #[V 1 (s8 n) ⟨#[]⟩, .int .i64 (0)]) ∧ BW w w' := by
  go_enter Try.func17, Try.ntmps17
  go_wp2_with fail
  go_loop [8, 19] (fun good i => ∃ k : Nat, k ≤ 9 ∧ i = .int .i64 (k : Int) ∧ good = .bool (decide (3 < k))) (fun _ i => 9 - (intOf i).toNat)
  case atStart => exact ⟨0, by decide, rfl, rfl⟩
  case round =>
    obtain ⟨k, hk, rfl, rfl⟩ := hrel
    obtain rfl | rfl | rfl | rfl | rfl | rfl | rfl | rfl | rfl | rfl : k = 0 ∨ k = 1 ∨ k = 2 ∨ k = 3 ∨ k = 4 ∨ k = 5 ∨ k = 6 ∨ k = 7 ∨ k = 8 ∨ k = 9 := by omega
    · go_wp2
      go_round
      case rel => exact ⟨1, by decide, rfl, rfl⟩
      case measure => simp [intOf]
    · go_wp2
      go_round
      case rel => exact ⟨2, by decide, rfl, rfl⟩
      case measure => simp [intOf]
    · go_wp2
      go_round
      case rel => exact ⟨3, by decide, rfl, rfl⟩
      case measure => simp [intOf]
    · go_wp2
      go_round
      case rel => exact ⟨4, by decide, rfl, rfl⟩
      case measure => simp [intOf]
    · go_wp2
      go_round
      case rel => exact ⟨5, by decide, rfl, rfl⟩
      case measure => simp [intOf]
    · go_wp2
      go_round
      case rel => exact ⟨6, by decide, rfl, rfl⟩
      case measure => simp [intOf]
    · go_wp2
      go_round
      case rel => exact ⟨7, by decide, rfl, rfl⟩
      case measure => simp [intOf]
    · go_wp2
      go_round
      case rel => exact ⟨8, by decide, rfl, rfl⟩
      case measure => simp [intOf]
    · go_wp2
      go_round
      case rel => exact ⟨9, by decide, rfl, rfl⟩
      case measure => simp [intOf]
    · go_wp2_with (first | (go_at_call 30; refine (sgn8 _ _).mono ?_; rintro e w1 ⟨rfl, hb⟩; have hz := hb.size; (try simp at hz); have hc0 := fun o => hb.cells w.heap.size o (by first | omega | (simp; done) | (simp; omega)); have hc1 := fun o => hb.cells (w.heap.size + 1) o (by first | omega | (simp; done) | (simp; omega)); have hf1 := fun o => hb.froz (w.heap.size + 1) o (by first | omega | (simp; done) | (simp; omega)); have hc2 := fun o => hb.cells (w.heap.size + 1 + 1) o (by first | omega | (simp; done) | (simp; omega))) | (go_at_call 22; refine (int_any _ _).mono ?_; rintro e w1 ⟨rfl, hb⟩; have hz := hb.size; (try simp at hz); have hc0 := fun o => hb.cells w.heap.size o (by first | omega | (simp; done) | (simp; omega)); have hc1 := fun o => hb.cells (w.heap.size + 1) o (by first | omega | (simp; done) | (simp; omega)); have hf1 := fun o => hb.froz (w.heap.size + 1) o (by first | omega | (simp; done) | (simp; omega)); have hc2 := fun o => hb.cells (w.heap.size + 1 + 1) o (by first | omega | (simp; done) | (simp; omega))))
      exact bodyPost_ret (v := .tuple #[V 1 (s8 n) ⟨#[]⟩, .int .i64 (0)]) (by simp [results, Try.results17, go_sem, *]) rfl ⟨rfl, (by repeat (first | exact BW.refl _ | assumption | apply BW.alloc | apply BW.drew | (refine BW.setCell ?_ (by first | omega | (simp; done) | (simp; omega)) _) | (refine BW.trans ?_ (by assumption))))⟩
set_option maxRecDepth 100000 in
set_option maxHeartbeats 1000000 in
theorem r17_i8_tag (t n : Int) (s : ByteArray) (h : (t != 1) = true) (w : World) :
    Calls Try.prog 17 #[.string ⟨#[105, 56]⟩, V t n s] w fun e w' => e = .returned (.tuple #[V 0 0 ⟨#[]⟩, .int .i64 (2)]) ∧ BW w w' := by
  go_enter Try.func17, Try.ntmps17
  go_wp2_with fail
  go_loop [8, 19] (fun good i => ∃ k : Nat, k ≤ 9 ∧ i = .int .i64 (k : Int) ∧ good = .bool (decide (3 < k))) (fun _ i => 9 - (intOf i).toNat)
  case atStart => exact ⟨0, by decide, rfl, rfl⟩
  case round =>
    obtain ⟨k, hk, rfl, rfl⟩ := hrel
    obtain rfl | rfl | rfl | rfl | rfl | rfl | rfl | rfl | rfl | rfl : k = 0 ∨ k = 1 ∨ k = 2 ∨ k = 3 ∨ k = 4 ∨ k = 5 ∨ k = 6 ∨ k = 7 ∨ k = 8 ∨ k = 9 := by omega
    · go_wp2
      go_round
      case rel => exact ⟨1, by decide, rfl, rfl⟩
      case measure => simp [intOf]
    · go_wp2
      go_round
      case rel => exact ⟨2, by decide, rfl, rfl⟩
      case measure => simp [intOf]
    · go_wp2
      go_round
      case rel => exact ⟨3, by decide, rfl, rfl⟩
      case measure => simp [intOf]
    · go_wp2
      go_round
      case rel => exact ⟨4, by decide, rfl, rfl⟩
      case measure => simp [intOf]
    · go_wp2
      go_round
      case rel => exact ⟨5, by decide, rfl, rfl⟩
      case measure => simp [intOf]
    · go_wp2
      go_round
      case rel => exact ⟨6, by decide, rfl, rfl⟩
      case measure => simp [intOf]
    · go_wp2
      go_round
      case rel => exact ⟨7, by decide, rfl, rfl⟩
      case measure => simp [intOf]
    · go_wp2
      go_round
      case rel => exact ⟨8, by decide, rfl, rfl⟩
      case measure => simp [intOf]
    · go_wp2
      go_round
      case rel => exact ⟨9, by decide, rfl, rfl⟩
      case measure => simp [intOf]
    · go_wp2_with fail
      exact bodyPost_ret (v := .tuple #[V 0 0 ⟨#[]⟩, .int .i64 (2)]) (by simp [results, Try.results17, go_sem, *]) rfl ⟨rfl, (by repeat (first | exact BW.refl _ | assumption | apply BW.alloc | apply BW.drew | (refine BW.setCell ?_ (by first | omega | (simp; done) | (simp; omega)) _) | (refine BW.trans ?_ (by assumption))))⟩
set_option maxRecDepth 100000 in
set_option maxHeartbeats 1000000 in
theorem r17_i16_ok (n : Int) (s : ByteArray)  (w : World) :
    Calls Try.prog 17 #[.string ⟨#[105, 49, 54]⟩, V 1 n s] w fun e w' => e = .returned (.tuple #[V 1 (s16 n) ⟨#[]⟩, .int .i64 (0)]) ∧ BW w w' := by
  go_enter Try.func17, Try.ntmps17
  go_wp2_with fail
  go_loop [8, 19] (fun good i => ∃ k : Nat, k ≤ 9 ∧ i = .int .i64 (k : Int) ∧ good = .bool (decide (4 < k))) (fun _ i => 9 - (intOf i).toNat)
  case atStart => exact ⟨0, by decide, rfl, rfl⟩
  case round =>
    obtain ⟨k, hk, rfl, rfl⟩ := hrel
    obtain rfl | rfl | rfl | rfl | rfl | rfl | rfl | rfl | rfl | rfl : k = 0 ∨ k = 1 ∨ k = 2 ∨ k = 3 ∨ k = 4 ∨ k = 5 ∨ k = 6 ∨ k = 7 ∨ k = 8 ∨ k = 9 := by omega
    · go_wp2
      go_round
      case rel => exact ⟨1, by decide, rfl, rfl⟩
      case measure => simp [intOf]
    · go_wp2
      go_round
      case rel => exact ⟨2, by decide, rfl, rfl⟩
      case measure => simp [intOf]
    · go_wp2
      go_round
      case rel => exact ⟨3, by decide, rfl, rfl⟩
      case measure => simp [intOf]
    · go_wp2
      go_round
      case rel => exact ⟨4, by decide, rfl, rfl⟩
      case measure => simp [intOf]
    · go_wp2
      go_round
      case rel => exact ⟨5, by decide, rfl, rfl⟩
      case measure => simp [intOf]
    · go_wp2
      go_round
      case rel => exact ⟨6, by decide, rfl, rfl⟩
      case measure => simp [intOf]
    · go_wp2
      go_round
      case rel => exact ⟨7, by decide, rfl, rfl⟩
      case measure => simp [intOf]
    · go_wp2
      go_round
      case rel => exact ⟨8, by decide, rfl, rfl⟩
      case measure => simp [intOf]
    · go_wp2
      go_round
      case rel => exact ⟨9, by decide, rfl, rfl⟩
      case measure => simp [intOf]
    · go_wp2_with (first | (go_at_call 30; refine (sgn16 _ _).mono ?_; rintro e w1 ⟨rfl, hb⟩; have hz := hb.size; (try simp at hz); have hc0 := fun o => hb.cells w.heap.size o (by first | omega | (simp; done) | (simp; omega)); have hc1 := fun o => hb.cells (w.heap.size + 1) o (by first | omega | (simp; done) | (simp; omega)); have hf1 := fun o => hb.froz (w.heap.size + 1) o (by first | omega | (simp; done) | (simp; omega)); have hc2 := fun o => hb.cells (w.heap.size + 1 + 1) o (by first | omega | (simp; done) | (simp; omega))) | (go_at_call 22; refine (int_any _ _).mono ?_; rintro e w1 ⟨rfl, hb⟩; have hz := hb.size; (try simp at hz); have hc0 := fun o => hb.cells w.heap.size o (by first | omega | (simp; done) | (simp; omega)); have hc1 := fun o => hb.cells (w.heap.size + 1) o (by first | omega | (simp; done) | (simp; omega)); have hf1 := fun o => hb.froz (w.heap.size + 1) o (by first | omega | (simp; done) | (simp; omega)); have hc2 := fun o => hb.cells (w.heap.size + 1 + 1) o (by first | omega | (simp; done) | (simp; omega))))
      exact bodyPost_ret (v := .tuple #[V 1 (s16 n) ⟨#[]⟩, .int .i64 (0)]) (by simp [results, Try.results17, go_sem, *]) rfl ⟨rfl, (by repeat (first | exact BW.refl _ | assumption | apply BW.alloc | apply BW.drew | (refine BW.setCell ?_ (by first | omega | (simp; done) | (simp; omega)) _) | (refine BW.trans ?_ (by assumption))))⟩
set_option maxRecDepth 100000 in
set_option maxHeartbeats 1000000 in
theorem r17_i16_tag (t n : Int) (s : ByteArray) (h : (t != 1) = true) (w : World) :
    Calls Try.prog 17 #[.string ⟨#[105, 49, 54]⟩, V t n s] w fun e w' => e = .returned (.tuple #[V 0 0 ⟨#[]⟩, .int .i64 (2)]) ∧ BW w w' := by
  go_enter Try.func17, Try.ntmps17
  go_wp2_with fail
  go_loop [8, 19] (fun good i => ∃ k : Nat, k ≤ 9 ∧ i = .int .i64 (k : Int) ∧ good = .bool (decide (4 < k))) (fun _ i => 9 - (intOf i).toNat)
  case atStart => exact ⟨0, by decide, rfl, rfl⟩
  case round =>
    obtain ⟨k, hk, rfl, rfl⟩ := hrel
    obtain rfl | rfl | rfl | rfl | rfl | rfl | rfl | rfl | rfl | rfl : k = 0 ∨ k = 1 ∨ k = 2 ∨ k = 3 ∨ k = 4 ∨ k = 5 ∨ k = 6 ∨ k = 7 ∨ k = 8 ∨ k = 9 := by omega
    · go_wp2
      go_round
      case rel => exact ⟨1, by decide, rfl, rfl⟩
      case measure => simp [intOf]
    · go_wp2
      go_round
      case rel => exact ⟨2, by decide, rfl, rfl⟩
      case measure => simp [intOf]
    · go_wp2
      go_round
      case rel => exact ⟨3, by decide, rfl, rfl⟩
      case measure => simp [intOf]
    · go_wp2
      go_round
      case rel => exact ⟨4, by decide, rfl, rfl⟩
      case measure => simp [intOf]
    · go_wp2
      go_round
      case rel => exact ⟨5, by decide, rfl, rfl⟩
      case measure => simp [intOf]
    · go_wp2
      go_round
      case rel => exact ⟨6, by decide, rfl, rfl⟩
      case measure => simp [intOf]
    · go_wp2
      go_round
      case rel => exact ⟨7, by decide, rfl, rfl⟩
      case measure => simp [intOf]
    · go_wp2
      go_round
      case rel => exact ⟨8, by decide, rfl, rfl⟩
      case measure => simp [intOf]
    · go_wp2
      go_round
      case rel => exact ⟨9, by decide, rfl, rfl⟩
      case measure => simp [intOf]
    · go_wp2_with fail
      exact bodyPost_ret (v := .tuple #[V 0 0 ⟨#[]⟩, .int .i64 (2)]) (by simp [results, Try.results17, go_sem, *]) rfl ⟨rfl, (by repeat (first | exact BW.refl _ | assumption | apply BW.alloc | apply BW.drew | (refine BW.setCell ?_ (by first | omega | (simp; done) | (simp; omega)) _) | (refine BW.trans ?_ (by assumption))))⟩
set_option maxRecDepth 100000 in
set_option maxHeartbeats 1000000 in
theorem r17_i32_ok (n : Int) (s : ByteArray)  (w : World) :
    Calls Try.prog 17 #[.string ⟨#[105, 51, 50]⟩, V 1 n s] w fun e w' => e = .returned (.tuple #[V 1 (s32 n) ⟨#[]⟩, .int .i64 (0)]) ∧ BW w w' := by
  go_enter Try.func17, Try.ntmps17
  go_wp2_with fail
  go_loop [8, 19] (fun good i => ∃ k : Nat, k ≤ 9 ∧ i = .int .i64 (k : Int) ∧ good = .bool (decide (5 < k))) (fun _ i => 9 - (intOf i).toNat)
  case atStart => exact ⟨0, by decide, rfl, rfl⟩
  case round =>
    obtain ⟨k, hk, rfl, rfl⟩ := hrel
    obtain rfl | rfl | rfl | rfl | rfl | rfl | rfl | rfl | rfl | rfl : k = 0 ∨ k = 1 ∨ k = 2 ∨ k = 3 ∨ k = 4 ∨ k = 5 ∨ k = 6 ∨ k = 7 ∨ k = 8 ∨ k = 9 := by omega
    · go_wp2
      go_round
      case rel => exact ⟨1, by decide, rfl, rfl⟩
      case measure => simp [intOf]
    · go_wp2
      go_round
      case rel => exact ⟨2, by decide, rfl, rfl⟩
      case measure => simp [intOf]
    · go_wp2
      go_round
      case rel => exact ⟨3, by decide, rfl, rfl⟩
      case measure => simp [intOf]
    · go_wp2
      go_round
      case rel => exact ⟨4, by decide, rfl, rfl⟩
      case measure => simp [intOf]
    · go_wp2
      go_round
      case rel => exact ⟨5, by decide, rfl, rfl⟩
      case measure => simp [intOf]
    · go_wp2
      go_round
      case rel => exact ⟨6, by decide, rfl, rfl⟩
      case measure => simp [intOf]
    · go_wp2
      go_round
      case rel => exact ⟨7, by decide, rfl, rfl⟩
      case measure => simp [intOf]
    · go_wp2
      go_round
      case rel => exact ⟨8, by decide, rfl, rfl⟩
      case measure => simp [intOf]
    · go_wp2
      go_round
      case rel => exact ⟨9, by decide, rfl, rfl⟩
      case measure => simp [intOf]
    · go_wp2_with (first | (go_at_call 30; refine (sgn32 _ _).mono ?_; rintro e w1 ⟨rfl, hb⟩; have hz := hb.size; (try simp at hz); have hc0 := fun o => hb.cells w.heap.size o (by first | omega | (simp; done) | (simp; omega)); have hc1 := fun o => hb.cells (w.heap.size + 1) o (by first | omega | (simp; done) | (simp; omega)); have hf1 := fun o => hb.froz (w.heap.size + 1) o (by first | omega | (simp; done) | (simp; omega)); have hc2 := fun o => hb.cells (w.heap.size + 1 + 1) o (by first | omega | (simp; done) | (simp; omega))) | (go_at_call 22; refine (int_any _ _).mono ?_; rintro e w1 ⟨rfl, hb⟩; have hz := hb.size; (try simp at hz); have hc0 := fun o => hb.cells w.heap.size o (by first | omega | (simp; done) | (simp; omega)); have hc1 := fun o => hb.cells (w.heap.size + 1) o (by first | omega | (simp; done) | (simp; omega)); have hf1 := fun o => hb.froz (w.heap.size + 1) o (by first | omega | (simp; done) | (simp; omega)); have hc2 := fun o => hb.cells (w.heap.size + 1 + 1) o (by first | omega | (simp; done) | (simp; omega))))
      exact bodyPost_ret (v := .tuple #[V 1 (s32 n) ⟨#[]⟩, .int .i64 (0)]) (by simp [results, Try.results17, go_sem, *]) rfl ⟨rfl, (by repeat (first | exact BW.refl _ | assumption | apply BW.alloc | apply BW.drew | (refine BW.setCell ?_ (by first | omega | (simp; done) | (simp; omega)) _) | (refine BW.trans ?_ (by assumption))))⟩
set_option maxRecDepth 100000 in
set_option maxHeartbeats 1000000 in
theorem r17_i32_tag (t n : Int) (s : ByteArray) (h : (t != 1) = true) (w : World) :
    Calls Try.prog 17 #[.string ⟨#[105, 51, 50]⟩, V t n s] w fun e w' => e = .returned (.tuple #[V 0 0 ⟨#[]⟩, .int .i64 (2)]) ∧ BW w w' := by
  go_enter Try.func17, Try.ntmps17
  go_wp2_with fail
  go_loop [8, 19] (fun good i => ∃ k : Nat, k ≤ 9 ∧ i = .int .i64 (k : Int) ∧ good = .bool (decide (5 < k))) (fun _ i => 9 - (intOf i).toNat)
  case atStart => exact ⟨0, by decide, rfl, rfl⟩
  case round =>
    obtain ⟨k, hk, rfl, rfl⟩ := hrel
    obtain rfl | rfl | rfl | rfl | rfl | rfl | rfl | rfl | rfl | rfl : k = 0 ∨ k = 1 ∨ k = 2 ∨ k = 3 ∨ k = 4 ∨ k = 5 ∨ k = 6 ∨ k = 7 ∨ k = 8 ∨ k = 9 := by omega
    · go_wp2
      go_round
      case rel => exact ⟨1, by decide, rfl, rfl⟩
      case measure => simp [intOf]
    · go_wp2
      go_round
      case rel => exact ⟨2, by decide, rfl, rfl⟩
      case measure => simp [intOf]
    · go_wp2
      go_round
      case rel => exact ⟨3, by decide, rfl, rfl⟩
      case measure => simp [intOf]
    · go_wp2
      go_round
      case rel => exact ⟨4, by decide, rfl, rfl⟩
      case measure => simp [intOf]
    · go_wp2
      go_round
      case rel => exact ⟨5, by decide, rfl, rfl⟩
      case measure => simp [intOf]
    · go_wp2
      go_round
      case rel => exact ⟨6, by decide, rfl, rfl⟩
      case measure => simp [intOf]
    · go_wp2
      go_round
      case rel => exact ⟨7, by decide, rfl, rfl⟩
      case measure => simp [intOf]
    · go_wp2
      go_round
      case rel => exact ⟨8, by decide, rfl, rfl⟩
      case measure => simp [intOf]
    · go_wp2
      go_round
      case rel => exact ⟨9, by decide, rfl, rfl⟩
      case measure => simp [intOf]
    · go_wp2_with fail
      exact bodyPost_ret (v := .tuple #[V 0 0 ⟨#[]⟩, .int .i64 (2)]) (by simp [results, Try.results17, go_sem, *]) rfl ⟨rfl, (by repeat (first | exact BW.refl _ | assumption | apply BW.alloc | apply BW.drew | (refine BW.setCell ?_ (by first | omega | (simp; done) | (simp; omega)) _) | (refine BW.trans ?_ (by assumption))))⟩
set_option maxRecDepth 100000 in
set_option maxHeartbeats 1000000 in
theorem r17_u8_ok (n : Int) (s : ByteArray)  (w : World) :
    Calls Try.prog 17 #[.string ⟨#[117, 56]⟩, V 1 n s] w fun e w' => e = .returned (.tuple #[V 1 (z8 n) ⟨#[]⟩, .int .i64 (0)]) ∧ BW w w' := by
  go_enter Try.func17, Try.ntmps17
  go_wp2_with fail
  go_loop [8, 19] (fun good i => ∃ k : Nat, k ≤ 9 ∧ i = .int .i64 (k : Int) ∧ good = .bool (decide (6 < k))) (fun _ i => 9 - (intOf i).toNat)
  case atStart => exact ⟨0, by decide, rfl, rfl⟩
  case round =>
    obtain ⟨k, hk, rfl, rfl⟩ := hrel
    obtain rfl | rfl | rfl | rfl | rfl | rfl | rfl | rfl | rfl | rfl : k = 0 ∨ k = 1 ∨ k = 2 ∨ k = 3 ∨ k = 4 ∨ k = 5 ∨ k = 6 ∨ k = 7 ∨ k = 8 ∨ k = 9 := by omega
    · go_wp2
      go_round
      case rel => exact ⟨1, by decide, rfl, rfl⟩
      case measure => simp [intOf]
    · go_wp2
      go_round
      case rel => exact ⟨2, by decide, rfl, rfl⟩
      case measure => simp [intOf]
    · go_wp2
      go_round
      case rel => exact ⟨3, by decide, rfl, rfl⟩
      case measure => simp [intOf]
    · go_wp2
      go_round
      case rel => exact ⟨4, by decide, rfl, rfl⟩
      case measure => simp [intOf]
    · go_wp2
      go_round
      case rel => exact ⟨5, by decide, rfl, rfl⟩
      case measure => simp [intOf]
    · go_wp2
      go_round
      case rel => exact ⟨6, by decide, rfl, rfl⟩
      case measure => simp [intOf]
    · go_wp2
      go_round
      case rel => exact ⟨7, by decide, rfl, rfl⟩
      case measure => simp [intOf]
    · go_wp2
      go_round
      case rel => exact ⟨8, by decide, rfl, rfl⟩
      case measure => simp [intOf]
    · go_wp2
      go_round
      case rel => exact ⟨9, by decide, rfl, rfl⟩
      case measure => simp [intOf]
    · go_wp2_with (first | (go_at_call 31; refine (lowz8 _ _).mono ?_; rintro e w1 ⟨rfl, hb⟩; have hz := hb.size; (try simp at hz); have hc0 := fun o => hb.cells w.heap.size o (by first | omega | (simp; done) | (simp; omega)); have hc1 := fun o => hb.cells (w.heap.size + 1) o (by first | omega | (simp; done) | (simp; omega)); have hf1 := fun o => hb.froz (w.heap.size + 1) o (by first | omega | (simp; done) | (simp; omega)); have hc2 := fun o => hb.cells (w.heap.size + 1 + 1) o (by first | omega | (simp; done) | (simp; omega))) | (go_at_call 22; refine (int_any _ _).mono ?_; rintro e w1 ⟨rfl, hb⟩; have hz := hb.size; (try simp at hz); have hc0 := fun o => hb.cells w.heap.size o (by first | omega | (simp; done) | (simp; omega)); have hc1 := fun o => hb.cells (w.heap.size + 1) o (by first | omega | (simp; done) | (simp; omega)); have hf1 := fun o => hb.froz (w.heap.size + 1) o (by first | omega | (simp; done) | (simp; omega)); have hc2 := fun o => hb.cells (w.heap.size + 1 + 1) o (by first | omega | (simp; done) | (simp; omega))))
      exact bodyPost_ret (v := .tuple #[V 1 (z8 n) ⟨#[]⟩, .int .i64 (0)]) (by simp [results, Try.results17, go_sem, *]) rfl ⟨rfl, (by repeat (first | exact BW.refl _ | assumption | apply BW.alloc | apply BW.drew | (refine BW.setCell ?_ (by first | omega | (simp; done) | (simp; omega)) _) | (refine BW.trans ?_ (by assumption))))⟩
set_option maxRecDepth 100000 in
set_option maxHeartbeats 1000000 in
theorem r17_u8_tag (t n : Int) (s : ByteArray) (h : (t != 1) = true) (w : World) :
    Calls Try.prog 17 #[.string ⟨#[117, 56]⟩, V t n s] w fun e w' => e = .returned (.tuple #[V 0 0 ⟨#[]⟩, .int .i64 (2)]) ∧ BW w w' := by
  go_enter Try.func17, Try.ntmps17
  go_wp2_with fail
  go_loop [8, 19] (fun good i => ∃ k : Nat, k ≤ 9 ∧ i = .int .i64 (k : Int) ∧ good = .bool (decide (6 < k))) (fun _ i => 9 - (intOf i).toNat)
  case atStart => exact ⟨0, by decide, rfl, rfl⟩
  case round =>
    obtain ⟨k, hk, rfl, rfl⟩ := hrel
    obtain rfl | rfl | rfl | rfl | rfl | rfl | rfl | rfl | rfl | rfl : k = 0 ∨ k = 1 ∨ k = 2 ∨ k = 3 ∨ k = 4 ∨ k = 5 ∨ k = 6 ∨ k = 7 ∨ k = 8 ∨ k = 9 := by omega
    · go_wp2
      go_round
      case rel => exact ⟨1, by decide, rfl, rfl⟩
      case measure => simp [intOf]
    · go_wp2
      go_round
      case rel => exact ⟨2, by decide, rfl, rfl⟩
      case measure => simp [intOf]
    · go_wp2
      go_round
      case rel => exact ⟨3, by decide, rfl, rfl⟩
      case measure => simp [intOf]
    · go_wp2
      go_round
      case rel => exact ⟨4, by decide, rfl, rfl⟩
      case measure => simp [intOf]
    · go_wp2
      go_round
      case rel => exact ⟨5, by decide, rfl, rfl⟩
      case measure => simp [intOf]
    · go_wp2
      go_round
      case rel => exact ⟨6, by decide, rfl, rfl⟩
      case measure => simp [intOf]
    · go_wp2
      go_round
      case rel => exact ⟨7, by decide, rfl, rfl⟩
      case measure => simp [intOf]
    · go_wp2
      go_round
      case rel => exact ⟨8, by decide, rfl, rfl⟩
      case measure => simp [intOf]
    · go_wp2
      go_round
      case rel => exact ⟨9, by decide, rfl, rfl⟩
      case measure => simp [intOf]
    · go_wp2_with fail
      exact bodyPost_ret (v := .tuple #[V 0 0 ⟨#[]⟩, .int .i64 (2)]) (by simp [results, Try.results17, go_sem, *]) rfl ⟨rfl, (by repeat (first | exact BW.refl _ | assumption | apply BW.alloc | apply BW.drew | (refine BW.setCell ?_ (by first | omega | (simp; done) | (simp; omega)) _) | (refine BW.trans ?_ (by assumption))))⟩
set_option maxRecDepth 100000 in
set_option maxHeartbeats 1000000 in
theorem r17_u16_ok (n : Int) (s : ByteArray)  (w : World) :
    Calls Try.prog 17 #[.string ⟨#[117, 49, 54]⟩, V 1 n s] w fun e w' => e = .returned (.tuple #[V 1 (z16 n) ⟨#[]⟩, .int .i64 (0)]) ∧ BW w w' := by
  go_enter Try.func17, Try.ntmps17
  go_wp2_with fail
  go_loop [8, 19] (fun good i => ∃ k : Nat, k ≤ 9 ∧ i = .int .i64 (k : Int) ∧ good = .bool (decide (7 < k))) (fun _ i => 9 - (intOf i).toNat)
  case atStart => exact ⟨0, by decide, rfl, rfl⟩
  case round =>
    obtain ⟨k, hk, rfl, rfl⟩ := hrel
    obtain rfl | rfl | rfl | rfl | rfl | rfl | rfl | rfl | rfl | rfl : k = 0 ∨ k = 1 ∨ k = 2 ∨ k = 3 ∨ k = 4 ∨ k = 5 ∨ k = 6 ∨ k = 7 ∨ k = 8 ∨ k = 9 := by omega
    · go_wp2
      go_round
      case rel => exact ⟨1, by decide, rfl, rfl⟩
      case measure => simp [intOf]
    · go_wp2
      go_round
      case rel => exact ⟨2, by decide, rfl, rfl⟩
      case measure => simp [intOf]
    · go_wp2
      go_round
      case rel => exact ⟨3, by decide, rfl, rfl⟩
      case measure => simp [intOf]
    · go_wp2
      go_round
      case rel => exact ⟨4, by decide, rfl, rfl⟩
      case measure => simp [intOf]
    · go_wp2
      go_round
      case rel => exact ⟨5, by decide, rfl, rfl⟩
      case measure => simp [intOf]
    · go_wp2
      go_round
      case rel => exact ⟨6, by decide, rfl, rfl⟩
      case measure => simp [intOf]
    · go_wp2
      go_round
      case rel => exact ⟨7, by decide, rfl, rfl⟩
      case measure => simp [intOf]
    · go_wp2
      go_round
      case rel => exact ⟨8, by decide, rfl, rfl⟩
      case measure => simp [intOf]
    · go_wp2
      go_round
      case rel => exact ⟨9, by decide, rfl, rfl⟩
      case measure => simp [intOf]
    · go_wp2_with (first | (go_at_call 31; refine (lowz16 _ _).mono ?_; rintro e w1 ⟨rfl, hb⟩; have hz := hb.size; (try simp at hz); have hc0 := fun o => hb.cells w.heap.size o (by first | omega | (simp; done) | (simp; omega)); have hc1 := fun o => hb.cells (w.heap.size + 1) o (by first | omega | (simp; done) | (simp; omega)); have hf1 := fun o => hb.froz (w.heap.size + 1) o (by first | omega | (simp; done) | (simp; omega)); have hc2 := fun o => hb.cells (w.heap.size + 1 + 1) o (by first | omega | (simp; done) | (simp; omega))) | (go_at_call 22; refine (int_any _ _).mono ?_; rintro e w1 ⟨rfl, hb⟩; have hz := hb.size; (try simp at hz); have hc0 := fun o => hb.cells w.heap.size o (by first | omega | (simp; done) | (simp; omega)); have hc1 := fun o => hb.cells (w.heap.size + 1) o (by first | omega | (simp; done) | (simp; omega)); have hf1 := fun o => hb.froz (w.heap.size + 1) o (by first | omega | (simp; done) | (simp; omega)); have hc2 := fun o => hb.cells (w.heap.size + 1 + 1) o (by first | omega | (simp; done) | (simp; omega))))
      exact bodyPost_ret (v := .tuple #[V 1 (z16 n) ⟨#[]⟩, .int .i64 (0)]) (by simp [results, Try.results17, go_sem, *]) rfl ⟨rfl, (by repeat (first | exact BW.refl _ | assumption | apply BW.alloc | apply BW.drew | (refine BW.setCell ?_ (by first | omega | (simp; done) | (simp; omega)) _) | (refine BW.trans ?_ (by assumption))))⟩
set_option maxRecDepth 100000 in
set_option maxHeartbeats 1000000 in
theorem r17_u16_tag (t n : Int) (s : ByteArray) (h : (t != 1) = true) (w : World) :
    Calls Try.prog 17 #[.string ⟨#[117, 49, 54]⟩, V t n s] w fun e w' => e = .returned (.tuple #[V 0 0 ⟨#[]⟩, .int .i64 (2)]) ∧ BW w w' := by
  go_enter Try.func17, Try.ntmps17
  go_wp2_with fail
  go_loop [8, 19] (fun good i => ∃ k : Nat, k ≤ 9 ∧ i = .int .i64 (k : Int) ∧ good = .bool (decide (7 < k))) (fun _ i => 9 - (intOf i).toNat)
  case atStart => exact ⟨0, by decide, rfl, rfl⟩
  case round =>
    obtain ⟨k, hk, rfl, rfl⟩ := hrel
    obtain rfl | rfl | rfl | rfl | rfl | rfl | rfl | rfl | rfl | rfl : k = 0 ∨ k = 1 ∨ k = 2 ∨ k = 3 ∨ k = 4 ∨ k = 5 ∨ k = 6 ∨ k = 7 ∨ k = 8 ∨ k = 9 := by omega
    · go_wp2
      go_round
      case rel => exact ⟨1, by decide, rfl, rfl⟩
      case measure => simp [intOf]
    · go_wp2
      go_round
      case rel => exact ⟨2, by decide, rfl, rfl⟩
      case measure => simp [intOf]
    · go_wp2
      go_round
      case rel => exact ⟨3, by decide, rfl, rfl⟩
      case measure => simp [intOf]
    · go_wp2
      go_round
      case rel => exact ⟨4, by decide, rfl, rfl⟩
      case measure => simp [intOf]
    · go_wp2
      go_round
      case rel => exact ⟨5, by decide, rfl, rfl⟩
      case measure => simp [intOf]
    · go_wp2
      go_round
      case rel => exact ⟨6, by decide, rfl, rfl⟩
      case measure => simp [intOf]
    · go_wp2
      go_round
      case rel => exact ⟨7, by decide, rfl, rfl⟩
      case measure => simp [intOf]
    · go_wp2
      go_round
      case rel => exact ⟨8, by decide, rfl, rfl⟩
      case measure => simp [intOf]
    · go_wp2
      go_round
      case rel => exact ⟨9, by decide, rfl, rfl⟩
      case measure => simp [intOf]
    · go_wp2_with fail
      exact bodyPost_ret (v := .tuple #[V 0 0 ⟨#[]⟩, .int .i64 (2)]) (by simp [results, Try.results17, go_sem, *]) rfl ⟨rfl, (by repeat (first | exact BW.refl _ | assumption | apply BW.alloc | apply BW.drew | (refine BW.setCell ?_ (by first | omega | (simp; done) | (simp; omega)) _) | (refine BW.trans ?_ (by assumption))))⟩
set_option maxRecDepth 100000 in
set_option maxHeartbeats 1000000 in
theorem r17_u32_ok (n : Int) (s : ByteArray)  (w : World) :
    Calls Try.prog 17 #[.string ⟨#[117, 51, 50]⟩, V 1 n s] w fun e w' => e = .returned (.tuple #[V 1 (z32 n) ⟨#[]⟩, .int .i64 (0)]) ∧ BW w w' := by
  go_enter Try.func17, Try.ntmps17
  go_wp2_with fail
  go_loop [8, 19] (fun good i => ∃ k : Nat, k ≤ 9 ∧ i = .int .i64 (k : Int) ∧ good = .bool (decide (8 < k))) (fun _ i => 9 - (intOf i).toNat)
  case atStart => exact ⟨0, by decide, rfl, rfl⟩
  case round =>
    obtain ⟨k, hk, rfl, rfl⟩ := hrel
    obtain rfl | rfl | rfl | rfl | rfl | rfl | rfl | rfl | rfl | rfl : k = 0 ∨ k = 1 ∨ k = 2 ∨ k = 3 ∨ k = 4 ∨ k = 5 ∨ k = 6 ∨ k = 7 ∨ k = 8 ∨ k = 9 := by omega
    · go_wp2
      go_round
      case rel => exact ⟨1, by decide, rfl, rfl⟩
      case measure => simp [intOf]
    · go_wp2
      go_round
      case rel => exact ⟨2, by decide, rfl, rfl⟩
      case measure => simp [intOf]
    · go_wp2
      go_round
      case rel => exact ⟨3, by decide, rfl, rfl⟩
      case measure => simp [intOf]
    · go_wp2
      go_round
      case rel => exact ⟨4, by decide, rfl, rfl⟩
      case measure => simp [intOf]
    · go_wp2
      go_round
      case rel => exact ⟨5, by decide, rfl, rfl⟩
      case measure => simp [intOf]
    · go_wp2
      go_round
      case rel => exact ⟨6, by decide, rfl, rfl⟩
      case measure => simp [intOf]
    · go_wp2
      go_round
      case rel => exact ⟨7, by decide, rfl, rfl⟩
      case measure => simp [intOf]
    · go_wp2
      go_round
      case rel => exact ⟨8, by decide, rfl, rfl⟩
      case measure => simp [intOf]
    · go_wp2
      go_round
      case rel => exact ⟨9, by decide, rfl, rfl⟩
      case measure => simp [intOf]
    · go_wp2_with (first | (go_at_call 31; refine (lowz32 _ _).mono ?_; rintro e w1 ⟨rfl, hb⟩; have hz := hb.size; (try simp at hz); have hc0 := fun o => hb.cells w.heap.size o (by first | omega | (simp; done) | (simp; omega)); have hc1 := fun o => hb.cells (w.heap.size + 1) o (by first | omega | (simp; done) | (simp; omega)); have hf1 := fun o => hb.froz (w.heap.size + 1) o (by first | omega | (simp; done) | (simp; omega)); have hc2 := fun o => hb.cells (w.heap.size + 1 + 1) o (by first | omega | (simp; done) | (simp; omega))) | (go_at_call 22; refine (int_any _ _).mono ?_; rintro e w1 ⟨rfl, hb⟩; have hz := hb.size; (try simp at hz); have hc0 := fun o => hb.cells w.heap.size o (by first | omega | (simp; done) | (simp; omega)); have hc1 := fun o => hb.cells (w.heap.size + 1) o (by first | omega | (simp; done) | (simp; omega)); have hf1 := fun o => hb.froz (w.heap.size + 1) o (by first | omega | (simp; done) | (simp; omega)); have hc2 := fun o => hb.cells (w.heap.size + 1 + 1) o (by first | omega | (simp; done) | (simp; omega))))
      exact bodyPost_ret (v := .tuple #[V 1 (z32 n) ⟨#[]⟩, .int .i64 (0)]) (by simp [results, Try.results17, go_sem, *]) rfl ⟨rfl, (by repeat (first | exact BW.refl _ | assumption | apply BW.alloc | apply BW.drew | (refine BW.setCell ?_ (by first | omega | (simp; done) | (simp; omega)) _) | (refine BW.trans ?_ (by assumption))))⟩
set_option maxRecDepth 100000 in
set_option maxHeartbeats 1000000 in
theorem r17_u32_tag (t n : Int) (s : ByteArray) (h : (t != 1) = true) (w : World) :
    Calls Try.prog 17 #[.string ⟨#[117, 51, 50]⟩, V t n s] w fun e w' => e = .returned (.tuple #[V 0 0 ⟨#[]⟩, .int .i64 (2)]) ∧ BW w w' := by
  go_enter Try.func17, Try.ntmps17
  go_wp2_with fail
  go_loop [8, 19] (fun good i => ∃ k : Nat, k ≤ 9 ∧ i = .int .i64 (k : Int) ∧ good = .bool (decide (8 < k))) (fun _ i => 9 - (intOf i).toNat)
  case atStart => exact ⟨0, by decide, rfl, rfl⟩
  case round =>
    obtain ⟨k, hk, rfl, rfl⟩ := hrel
    obtain rfl | rfl | rfl | rfl | rfl | rfl | rfl | rfl | rfl | rfl : k = 0 ∨ k = 1 ∨ k = 2 ∨ k = 3 ∨ k = 4 ∨ k = 5 ∨ k = 6 ∨ k = 7 ∨ k = 8 ∨ k = 9 := by omega
    · go_wp2
      go_round
      case rel => exact ⟨1, by decide, rfl, rfl⟩
      case measure => simp [intOf]
    · go_wp2
      go_round
      case rel => exact ⟨2, by decide, rfl, rfl⟩
      case measure => simp [intOf]
    · go_wp2
      go_round
      case rel => exact ⟨3, by decide, rfl, rfl⟩
      case measure => simp [intOf]
    · go_wp2
      go_round
      case rel => exact ⟨4, by decide, rfl, rfl⟩
      case measure => simp [intOf]
    · go_wp2
      go_round
      case rel => exact ⟨5, by decide, rfl, rfl⟩
      case measure => simp [intOf]
    · go_wp2
      go_round
      case rel => exact ⟨6, by decide, rfl, rfl⟩
      case measure => simp [intOf]
    · go_wp2
      go_round
      case rel => exact ⟨7, by decide, rfl, rfl⟩
      case measure => simp [intOf]
    · go_wp2
      go_round
      case rel => exact ⟨8, by decide, rfl, rfl⟩
      case measure => simp [intOf]
    · go_wp2
      go_round
      case rel => exact ⟨9, by decide, rfl, rfl⟩
      case measure => simp [intOf]
    · go_wp2_with fail
      exact bodyPost_ret (v := .tuple #[V 0 0 ⟨#[]⟩, .int .i64 (2)]) (by simp [results, Try.results17, go_sem, *]) rfl ⟨rfl, (by repeat (first | exact BW.refl _ | assumption | apply BW.alloc | apply BW.drew | (refine BW.setCell ?_ (by first | omega | (simp; done) | (simp; omega)) _) | (refine BW.trans ?_ (by assumption))))⟩
set_option maxRecDepth 100000 in
set_option maxHeartbeats 1000000 in
theorem r17_none (wd : ByteArray) (n0 : (wd.toList == [110, 101, 103]) = false) (m0 : ([110, 101, 103] == wd.toList) = false) (n1 : (wd.toList == [110, 111, 116]) = false) (m1 : ([110, 111, 116] == wd.toList) = false) (n2 : (wd.toList == [108, 101, 110]) = false) (m2 : ([108, 101, 110] == wd.toList) = false) (n3 : (wd.toList == [105, 56]) = false) (m3 : ([105, 56] == wd.toList) = false) (n4 : (wd.toList == [105, 49, 54]) = false) (m4 : ([105, 49, 54] == wd.toList) = false) (n5 : (wd.toList == [105, 51, 50]) = false) (m5 : ([105, 51, 50] == wd.toList) = false) (n6 : (wd.toList == [117, 56]) = false) (m6 : ([117, 56] == wd.toList) = false) (n7 : (wd.toList == [117, 49, 54]) = false) (m7 : ([117, 49, 54] == wd.toList) = false) (n8 : (wd.toList == [117, 51, 50]) = false) (m8 : ([117, 51, 50] == wd.toList) = false) (t n : Int) (s : ByteArray)  (w : World) :
    Calls Try.prog 17 #[.string wd, V t n s] w fun e w' => e = .returned (.tuple #[V 0 0 ⟨#[]⟩, .int .i64 (1)]) ∧ BW w w' := by
  go_enter Try.func17, Try.ntmps17
  go_wp2_with fail
  go_loop [8, 19] (fun good i => ∃ k : Nat, k ≤ 9 ∧ i = .int .i64 (k : Int) ∧ good = .bool (false)) (fun _ i => 9 - (intOf i).toNat)
  case atStart => exact ⟨0, by decide, rfl, rfl⟩
  case round =>
    obtain ⟨k, hk, rfl, rfl⟩ := hrel
    obtain rfl | rfl | rfl | rfl | rfl | rfl | rfl | rfl | rfl | rfl : k = 0 ∨ k = 1 ∨ k = 2 ∨ k = 3 ∨ k = 4 ∨ k = 5 ∨ k = 6 ∨ k = 7 ∨ k = 8 ∨ k = 9 := by omega
    · go_wp2
      go_round
      case rel => exact ⟨1, by decide, rfl, rfl⟩
      case measure => simp [intOf]
    · go_wp2
      go_round
      case rel => exact ⟨2, by decide, rfl, rfl⟩
      case measure => simp [intOf]
    · go_wp2
      go_round
      case rel => exact ⟨3, by decide, rfl, rfl⟩
      case measure => simp [intOf]
    · go_wp2
      go_round
      case rel => exact ⟨4, by decide, rfl, rfl⟩
      case measure => simp [intOf]
    · go_wp2
      go_round
      case rel => exact ⟨5, by decide, rfl, rfl⟩
      case measure => simp [intOf]
    · go_wp2
      go_round
      case rel => exact ⟨6, by decide, rfl, rfl⟩
      case measure => simp [intOf]
    · go_wp2
      go_round
      case rel => exact ⟨7, by decide, rfl, rfl⟩
      case measure => simp [intOf]
    · go_wp2
      go_round
      case rel => exact ⟨8, by decide, rfl, rfl⟩
      case measure => simp [intOf]
    · go_wp2
      go_round
      case rel => exact ⟨9, by decide, rfl, rfl⟩
      case measure => simp [intOf]
    · go_wp2_with fail
      exact bodyPost_ret (v := .tuple #[V 0 0 ⟨#[]⟩, .int .i64 (1)]) (by simp [results, Try.results17, go_sem, *]) rfl ⟨rfl, (by repeat (first | exact BW.refl _ | assumption | apply BW.alloc | apply BW.drew | (refine BW.setCell ?_ (by first | omega | (simp; done) | (simp; omega)) _) | (refine BW.trans ?_ (by assumption))))⟩
end Go.Proofs.Ytbiahgjlgojhdaa
