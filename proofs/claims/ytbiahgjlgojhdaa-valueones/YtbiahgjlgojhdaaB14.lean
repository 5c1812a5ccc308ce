import Derived.Test.YtbiahgjlgojhdaaM4
import Derived.Test.YtbiahgjlgojhdaaB13
import Derived.Deep.RegionWith
import Derived.Deep.RegionHeld3
import Derived.Deep.DeepCutAuto
namespace Go.Proofs.Ytbiahgjlgojhdaa
open Go.RowKit
set_option linter.unusedVariables false
set_option maxRecDepth 100000 in
set_option maxHeartbeats 400000 in
theorem ints_add_p (a b : Int) (a0 : -9223372036854775808 ≤ a) (a1 : a ≤ 9223372036854775807) (b0 : -9223372036854775808 ≤ b) (b1 : b ≤ 9223372036854775807) (h : 0 < b) (h' : a ≤ 9223372036854775807 - b) (w : World) :
    Calls Try.prog 39 #[.string ⟨#[43]⟩, .int .i64 (a), .int .i64 (b)] w fun e w' => e = .returned (.tuple #[V 1 (a + b) ⟨#[]⟩, .int .i64 (0)]) ∧ BW w w' := by
  go_enter Try.func39, Try.ntmps39
  go_wp2_with (first | (go_at_call 22; refine (int_any _ _).mono ?_; rintro e w1 ⟨rfl, hb⟩; have hz := hb.size; (try simp at hz); have hc0 := fun o => hb.cells (w.heap.size) o (by first | omega | (simp; done) | (simp; omega)); have hf0 := fun o => hb.froz (w.heap.size) o (by first | omega | (simp; done) | (simp; omega))))
  exact bodyPost_ret (v := .tuple #[V 1 (a + b) ⟨#[]⟩, .int .i64 (0)]) (by simp [results, Try.results39, go_sem, *]) rfl ⟨rfl, (by repeat (first | exact BW.refl _ | assumption | apply BW.alloc | apply BW.drew | (refine BW.setCell ?_ (by first | omega | (simp; done) | (simp; omega)) _) | (refine BW.trans ?_ (by assumption))))⟩
set_option maxRecDepth 100000 in
set_option maxHeartbeats 400000 in
theorem ints_add_n (a b : Int) (a0 : -9223372036854775808 ≤ a) (a1 : a ≤ 9223372036854775807) (b0 : -9223372036854775808 ≤ b) (b1 : b ≤ 9223372036854775807) (h : b < 0) (h' : -9223372036854775808 - b ≤ a) (w : World) :
    Calls Try.prog 39 #[.string ⟨#[43]⟩, .int .i64 (a), .int .i64 (b)] w fun e w' => e = .returned (.tuple #[V 1 (a + b) ⟨#[]⟩, .int .i64 (0)]) ∧ BW w w' := by
  go_enter Try.func39, Try.ntmps39
  go_wp2_with (first | (go_at_call 22; refine (int_any _ _).mono ?_; rintro e w1 ⟨rfl, hb⟩; have hz := hb.size; (try simp at hz); have hc0 := fun o => hb.cells (w.heap.size) o (by first | omega | (simp; done) | (simp; omega)); have hf0 := fun o => hb.froz (w.heap.size) o (by first | omega | (simp; done) | (simp; omega))))
  exact bodyPost_ret (v := .tuple #[V 1 (a + b) ⟨#[]⟩, .int .i64 (0)]) (by simp [results, Try.results39, go_sem, *]) rfl ⟨rfl, (by repeat (first | exact BW.refl _ | assumption | apply BW.alloc | apply BW.drew | (refine BW.setCell ?_ (by first | omega | (simp; done) | (simp; omega)) _) | (refine BW.trans ?_ (by assumption))))⟩
set_option maxRecDepth 100000 in
set_option maxHeartbeats 400000 in
theorem ints_add_z (a b : Int) (a0 : -9223372036854775808 ≤ a) (a1 : a ≤ 9223372036854775807) (b0 : -9223372036854775808 ≤ b) (b1 : b ≤ 9223372036854775807) (h : ¬ 0 < b) (h' : ¬ b < 0) (w : World) :
    Calls Try.prog 39 #[.string ⟨#[43]⟩, .int .i64 (a), .int .i64 (b)] w fun e w' => e = .returned (.tuple #[V 1 (a + b) ⟨#[]⟩, .int .i64 (0)]) ∧ BW w w' := by
  go_enter Try.func39, Try.ntmps39
  go_wp2_with (first | (go_at_call 22; refine (int_any _ _).mono ?_; rintro e w1 ⟨rfl, hb⟩; have hz := hb.size; (try simp at hz); have hc0 := fun o => hb.cells (w.heap.size) o (by first | omega | (simp; done) | (simp; omega)); have hf0 := fun o => hb.froz (w.heap.size) o (by first | omega | (simp; done) | (simp; omega))))
  exact bodyPost_ret (v := .tuple #[V 1 (a + b) ⟨#[]⟩, .int .i64 (0)]) (by simp [results, Try.results39, go_sem, *]) rfl ⟨rfl, (by repeat (first | exact BW.refl _ | assumption | apply BW.alloc | apply BW.drew | (refine BW.setCell ?_ (by first | omega | (simp; done) | (simp; omega)) _) | (refine BW.trans ?_ (by assumption))))⟩
set_option maxRecDepth 100000 in
set_option maxHeartbeats 400000 in
theorem ints_add_po (a b : Int) (a0 : -9223372036854775808 ≤ a) (a1 : a ≤ 9223372036854775807) (b0 : -9223372036854775808 ≤ b) (b1 : b ≤ 9223372036854775807) (h : 0 < b) (h' : 9223372036854775807 - b < a) (w : World) :
    Calls Try.prog 39 #[.string ⟨#[43]⟩, .int .i64 (a), .int .i64 (b)] w fun e w' => e = .returned (.tuple #[V 0 0 ⟨#[]⟩, .int .i64 (3)]) ∧ BW w w' := by
  go_enter Try.func39, Try.ntmps39
  go_wp2_with (first | (go_at_call 22; refine (int_any _ _).mono ?_; rintro e w1 ⟨rfl, hb⟩; have hz := hb.size; (try simp at hz); have hc0 := fun o => hb.cells (w.heap.size) o (by first | omega | (simp; done) | (simp; omega)); have hf0 := fun o => hb.froz (w.heap.size) o (by first | omega | (simp; done) | (simp; omega))))
  exact bodyPost_ret (v := .tuple #[V 0 0 ⟨#[]⟩, .int .i64 (3)]) (by simp [results, Try.results39, go_sem, *]) rfl ⟨rfl, (by repeat (first | exact BW.refl _ | assumption | apply BW.alloc | apply BW.drew | (refine BW.setCell ?_ (by first | omega | (simp; done) | (simp; omega)) _) | (refine BW.trans ?_ (by assumption))))⟩
set_option maxRecDepth 100000 in
set_option maxHeartbeats 400000 in
theorem ints_add_no (a b : Int) (a0 : -9223372036854775808 ≤ a) (a1 : a ≤ 9223372036854775807) (b0 : -9223372036854775808 ≤ b) (b1 : b ≤ 9223372036854775807) (h : b < 0) (h' : a < -9223372036854775808 - b) (w : World) :
    Calls Try.prog 39 #[.string ⟨#[43]⟩, .int .i64 (a), .int .i64 (b)] w fun e w' => e = .returned (.tuple #[V 0 0 ⟨#[]⟩, .int .i64 (3)]) ∧ BW w w' := by
  go_enter Try.func39, Try.ntmps39
  go_wp2_with (first | (go_at_call 22; refine (int_any _ _).mono ?_; rintro e w1 ⟨rfl, hb⟩; have hz := hb.size; (try simp at hz); have hc0 := fun o => hb.cells (w.heap.size) o (by first | omega | (simp; done) | (simp; omega)); have hf0 := fun o => hb.froz (w.heap.size) o (by first | omega | (simp; done) | (simp; omega))))
  exact bodyPost_ret (v := .tuple #[V 0 0 ⟨#[]⟩, .int .i64 (3)]) (by simp [results, Try.results39, go_sem, *]) rfl ⟨rfl, (by repeat (first | exact BW.refl _ | assumption | apply BW.alloc | apply BW.drew | (refine BW.setCell ?_ (by first | omega | (simp; done) | (simp; omega)) _) | (refine BW.trans ?_ (by assumption))))⟩
set_option maxRecDepth 100000 in
set_option maxHeartbeats 400000 in
theorem ints_sub_n (a b : Int) (a0 : -9223372036854775808 ≤ a) (a1 : a ≤ 9223372036854775807) (b0 : -9223372036854775808 ≤ b) (b1 : b ≤ 9223372036854775807) (h : b < 0) (h' : a ≤ 9223372036854775807 + b) (w : World) :
    Calls Try.prog 39 #[.string ⟨#[45]⟩, .int .i64 (a), .int .i64 (b)] w fun e w' => e = .returned (.tuple #[V 1 (a - b) ⟨#[]⟩, .int .i64 (0)]) ∧ BW w w' := by
  go_enter Try.func39, Try.ntmps39
  go_wp2_with (first | (go_at_call 22; refine (int_any _ _).mono ?_; rintro e w1 ⟨rfl, hb⟩; have hz := hb.size; (try simp at hz); have hc0 := fun o => hb.cells (w.heap.size) o (by first | omega | (simp; done) | (simp; omega)); have hf0 := fun o => hb.froz (w.heap.size) o (by first | omega | (simp; done) | (simp; omega))))
  exact bodyPost_ret (v := .tuple #[V 1 (a - b) ⟨#[]⟩, .int .i64 (0)]) (by simp [results, Try.results39, go_sem, *]) rfl ⟨rfl, (by repeat (first | exact BW.refl _ | assumption | apply BW.alloc | apply BW.drew | (refine BW.setCell ?_ (by first | omega | (simp; done) | (simp; omega)) _) | (refine BW.trans ?_ (by assumption))))⟩
set_option maxRecDepth 100000 in
set_option maxHeartbeats 400000 in
theorem ints_sub_p (a b : Int) (a0 : -9223372036854775808 ≤ a) (a1 : a ≤ 9223372036854775807) (b0 : -9223372036854775808 ≤ b) (b1 : b ≤ 9223372036854775807) (h : 0 < b) (h' : -9223372036854775808 + b ≤ a) (w : World) :
    Calls Try.prog 39 #[.string ⟨#[45]⟩, .int .i64 (a), .int .i64 (b)] w fun e w' => e = .returned (.tuple #[V 1 (a - b) ⟨#[]⟩, .int .i64 (0)]) ∧ BW w w' := by
  go_enter Try.func39, Try.ntmps39
  go_wp2_with (first | (go_at_call 22; refine (int_any _ _).mono ?_; rintro e w1 ⟨rfl, hb⟩; have hz := hb.size; (try simp at hz); have hc0 := fun o => hb.cells (w.heap.size) o (by first | omega | (simp; done) | (simp; omega)); have hf0 := fun o => hb.froz (w.heap.size) o (by first | omega | (simp; done) | (simp; omega))))
  exact bodyPost_ret (v := .tuple #[V 1 (a - b) ⟨#[]⟩, .int .i64 (0)]) (by simp [results, Try.results39, go_sem, *]) rfl ⟨rfl, (by repeat (first | exact BW.refl _ | assumption | apply BW.alloc | apply BW.drew | (refine BW.setCell ?_ (by first | omega | (simp; done) | (simp; omega)) _) | (refine BW.trans ?_ (by assumption))))⟩
set_option maxRecDepth 100000 in
set_option maxHeartbeats 400000 in
theorem ints_sub_z (a b : Int) (a0 : -9223372036854775808 ≤ a) (a1 : a ≤ 9223372036854775807) (b0 : -9223372036854775808 ≤ b) (b1 : b ≤ 9223372036854775807) (h : ¬ 0 < b) (h' : ¬ b < 0) (w : World) :
    Calls Try.prog 39 #[.string ⟨#[45]⟩, .int .i64 (a), .int .i64 (b)] w fun e w' => e = .returned (.tuple #[V 1 (a - b) ⟨#[]⟩, .int .i64 (0)]) ∧ BW w w' := by
  go_enter Try.func39, Try.ntmps39
  go_wp2_with (first | (go_at_call 22; refine (int_any _ _).mono ?_; rintro e w1 ⟨rfl, hb⟩; have hz := hb.size; (try simp at hz); have hc0 := fun o => hb.cells (w.heap.size) o (by first | omega | (simp; done) | (simp; omega)); have hf0 := fun o => hb.froz (w.heap.size) o (by first | omega | (simp; done) | (simp; omega))))
  exact bodyPost_ret (v := .tuple #[V 1 (a - b) ⟨#[]⟩, .int .i64 (0)]) (by simp [results, Try.results39, go_sem, *]) rfl ⟨rfl, (by repeat (first | exact BW.refl _ | assumption | apply BW.alloc | apply BW.drew | (refine BW.setCell ?_ (by first | omega | (simp; done) | (simp; omega)) _) | (refine BW.trans ?_ (by assumption))))⟩
set_option maxRecDepth 100000 in
set_option maxHeartbeats 400000 in
theorem ints_sub_no (a b : Int) (a0 : -9223372036854775808 ≤ a) (a1 : a ≤ 9223372036854775807) (b0 : -9223372036854775808 ≤ b) (b1 : b ≤ 9223372036854775807) (h : b < 0) (h' : 9223372036854775807 + b < a) (w : World) :
    Calls Try.prog 39 #[.string ⟨#[45]⟩, .int .i64 (a), .int .i64 (b)] w fun e w' => e = .returned (.tuple #[V 0 0 ⟨#[]⟩, .int .i64 (3)]) ∧ BW w w' := by
  go_enter Try.func39, Try.ntmps39
  go_wp2_with (first | (go_at_call 22; refine (int_any _ _).mono ?_; rintro e w1 ⟨rfl, hb⟩; have hz := hb.size; (try simp at hz); have hc0 := fun o => hb.cells (w.heap.size) o (by first | omega | (simp; done) | (simp; omega)); have hf0 := fun o => hb.froz (w.heap.size) o (by first | omega | (simp; done) | (simp; omega))))
  exact bodyPost_ret (v := .tuple #[V 0 0 ⟨#[]⟩, .int .i64 (3)]) (by simp [results, Try.results39, go_sem, *]) rfl ⟨rfl, (by repeat (first | exact BW.refl _ | assumption | apply BW.alloc | apply BW.drew | (refine BW.setCell ?_ (by first | omega | (simp; done) | (simp; omega)) _) | (refine BW.trans ?_ (by assumption))))⟩
set_option maxRecDepth 100000 in
set_option maxHeartbeats 400000 in
theorem ints_sub_po (a b : Int) (a0 : -9223372036854775808 ≤ a) (a1 : a ≤ 9223372036854775807) (b0 : -9223372036854775808 ≤ b) (b1 : b ≤ 9223372036854775807) (h : 0 < b) (h' : a < -9223372036854775808 + b) (w : World) :
    Calls Try.prog 39 #[.string ⟨#[45]⟩, .int .i64 (a), .int .i64 (b)] w fun e w' => e = .returned (.tuple #[V 0 0 ⟨#[]⟩, .int .i64 (3)]) ∧ BW w w' := by
  go_enter Try.func39, Try.ntmps39
  go_wp2_with (first | (go_at_call 22; refine (int_any _ _).mono ?_; rintro e w1 ⟨rfl, hb⟩; have hz := hb.size; (try simp at hz); have hc0 := fun o => hb.cells (w.heap.size) o (by first | omega | (simp; done) | (simp; omega)); have hf0 := fun o => hb.froz (w.heap.size) o (by first | omega | (simp; done) | (simp; omega))))
  exact bodyPost_ret (v := .tuple #[V 0 0 ⟨#[]⟩, .int .i64 (3)]) (by simp [results, Try.results39, go_sem, *]) rfl ⟨rfl, (by repeat (first | exact BW.refl _ | assumption | apply BW.alloc | apply BW.drew | (refine BW.setCell ?_ (by first | omega | (simp; done) | (simp; omega)) _) | (refine BW.trans ?_ (by assumption))))⟩
set_option maxRecDepth 100000 in
set_option maxHeartbeats 400000 in
theorem ints_mul_z1 (b : Int) (b0 : -9223372036854775808 ≤ b) (b1 : b ≤ 9223372036854775807)  (w : World) :
    Calls Try.prog 39 #[.string ⟨#[42]⟩, .int .i64 (0), .int .i64 (b)] w fun e w' => e = .returned (.tuple #[V 1 (0) ⟨#[]⟩, .int .i64 (0)]) ∧ BW w w' := by
  go_enter Try.func39, Try.ntmps39
  go_wp2_with (first | (go_at_call 22; refine (int_any _ _).mono ?_; rintro e w1 ⟨rfl, hb⟩; have hz := hb.size; (try simp at hz); have hc0 := fun o => hb.cells (w.heap.size) o (by first | omega | (simp; done) | (simp; omega)); have hf0 := fun o => hb.froz (w.heap.size) o (by first | omega | (simp; done) | (simp; omega))))
  exact bodyPost_ret (v := .tuple #[V 1 (0) ⟨#[]⟩, .int .i64 (0)]) (by simp [results, Try.results39, go_sem, *]) rfl ⟨rfl, (by repeat (first | exact BW.refl _ | assumption | apply BW.alloc | apply BW.drew | (refine BW.setCell ?_ (by first | omega | (simp; done) | (simp; omega)) _) | (refine BW.trans ?_ (by assumption))))⟩
set_option maxRecDepth 100000 in
set_option maxHeartbeats 400000 in
theorem ints_mul_z2 (a : Int) (a0 : -9223372036854775808 ≤ a) (a1 : a ≤ 9223372036854775807) (az : (a == 0) = false) (w : World) :
    Calls Try.prog 39 #[.string ⟨#[42]⟩, .int .i64 (a), .int .i64 (0)] w fun e w' => e = .returned (.tuple #[V 1 (0) ⟨#[]⟩, .int .i64 (0)]) ∧ BW w w' := by
  go_enter Try.func39, Try.ntmps39
  go_wp2_with (first | (go_at_call 22; refine (int_any _ _).mono ?_; rintro e w1 ⟨rfl, hb⟩; have hz := hb.size; (try simp at hz); have hc0 := fun o => hb.cells (w.heap.size) o (by first | omega | (simp; done) | (simp; omega)); have hf0 := fun o => hb.froz (w.heap.size) o (by first | omega | (simp; done) | (simp; omega))))
  exact bodyPost_ret (v := .tuple #[V 1 (0) ⟨#[]⟩, .int .i64 (0)]) (by simp [results, Try.results39, go_sem, *]) rfl ⟨rfl, (by repeat (first | exact BW.refl _ | assumption | apply BW.alloc | apply BW.drew | (refine BW.setCell ?_ (by first | omega | (simp; done) | (simp; omega)) _) | (refine BW.trans ?_ (by assumption))))⟩
set_option maxRecDepth 100000 in
set_option maxHeartbeats 400000 in
theorem ints_mul_l1 (a b : Int) (a0 : -9223372036854775808 ≤ a) (a1 : a ≤ 9223372036854775807) (b0 : -9223372036854775808 ≤ b) (b1 : b ≤ 9223372036854775807) (az : (a == 0) = false) (bz : (b == 0) = false) (ame : (a == -1) = true) (amn : (a != -1) = false) (ble : (b == -9223372036854775808) = true) (bln : (b != -9223372036854775808) = false)  (w : World) :
    Calls Try.prog 39 #[.string ⟨#[42]⟩, .int .i64 (a), .int .i64 (b)] w fun e w' => e = .returned (.tuple #[V 0 0 ⟨#[]⟩, .int .i64 (3)]) ∧ BW w w' := by
  go_enter Try.func39, Try.ntmps39
  go_wp2_with (first | (go_at_call 22; refine (int_any _ _).mono ?_; rintro e w1 ⟨rfl, hb⟩; have hz := hb.size; (try simp at hz); have hc0 := fun o => hb.cells (w.heap.size) o (by first | omega | (simp; done) | (simp; omega)); have hf0 := fun o => hb.froz (w.heap.size) o (by first | omega | (simp; done) | (simp; omega))))
  exact bodyPost_ret (v := .tuple #[V 0 0 ⟨#[]⟩, .int .i64 (3)]) (by simp [results, Try.results39, go_sem, *]) rfl ⟨rfl, (by repeat (first | exact BW.refl _ | assumption | apply BW.alloc | apply BW.drew | (refine BW.setCell ?_ (by first | omega | (simp; done) | (simp; omega)) _) | (refine BW.trans ?_ (by assumption))))⟩
set_option maxRecDepth 100000 in
set_option maxHeartbeats 400000 in
theorem ints_mul_l2 (a b : Int) (a0 : -9223372036854775808 ≤ a) (a1 : a ≤ 9223372036854775807) (b0 : -9223372036854775808 ≤ b) (b1 : b ≤ 9223372036854775807) (az : (a == 0) = false) (bz : (b == 0) = false) (ame : (a == -1) = false) (amn : (a != -1) = true) (bme : (b == -1) = true) (bmn : (b != -1) = false) (ale : (a == -9223372036854775808) = true) (aln : (a != -9223372036854775808) = false)  (w : World) :
    Calls Try.prog 39 #[.string ⟨#[42]⟩, .int .i64 (a), .int .i64 (b)] w fun e w' => e = .returned (.tuple #[V 0 0 ⟨#[]⟩, .int .i64 (3)]) ∧ BW w w' := by
  go_enter Try.func39, Try.ntmps39
  go_wp2_with (first | (go_at_call 22; refine (int_any _ _).mono ?_; rintro e w1 ⟨rfl, hb⟩; have hz := hb.size; (try simp at hz); have hc0 := fun o => hb.cells (w.heap.size) o (by first | omega | (simp; done) | (simp; omega)); have hf0 := fun o => hb.froz (w.heap.size) o (by first | omega | (simp; done) | (simp; omega))))
  exact bodyPost_ret (v := .tuple #[V 0 0 ⟨#[]⟩, .int .i64 (3)]) (by simp [results, Try.results39, go_sem, *]) rfl ⟨rfl, (by repeat (first | exact BW.refl _ | assumption | apply BW.alloc | apply BW.drew | (refine BW.setCell ?_ (by first | omega | (simp; done) | (simp; omega)) _) | (refine BW.trans ?_ (by assumption))))⟩
set_option maxRecDepth 100000 in
set_option maxHeartbeats 400000 in
theorem ints_mul_l3 (a b : Int) (a0 : -9223372036854775808 ≤ a) (a1 : a ≤ 9223372036854775807) (b0 : -9223372036854775808 ≤ b) (b1 : b ≤ 9223372036854775807) (az : (a == 0) = false) (bz : (b == 0) = false) (ame : (a == -1) = false) (amn : (a != -1) = true) (bme : (b == -1) = false) (bmn : (b != -1) = true) (ale : (a == -9223372036854775808) = true) (aln : (a != -9223372036854775808) = false) (b1e : (b == 1) = true) (b1n : (b != 1) = false) (ble : (b == -9223372036854775808) = false) (bln : (b != -9223372036854775808) = true)  (w : World) :
    Calls Try.prog 39 #[.string ⟨#[42]⟩, .int .i64 (a), .int .i64 (b)] w fun e w' => e = .returned (.tuple #[V 1 (wrap64 (a * b)) ⟨#[]⟩, .int .i64 (0)]) ∧ BW w w' := by
  go_enter Try.func39, Try.ntmps39
  go_wp2_with (first | (go_at_call 22; refine (int_any _ _).mono ?_; rintro e w1 ⟨rfl, hb⟩; have hz := hb.size; (try simp at hz); have hc0 := fun o => hb.cells (w.heap.size) o (by first | omega | (simp; done) | (simp; omega)); have hf0 := fun o => hb.froz (w.heap.size) o (by first | omega | (simp; done) | (simp; omega))))
  exact bodyPost_ret (v := .tuple #[V 1 (wrap64 (a * b)) ⟨#[]⟩, .int .i64 (0)]) (by simp [results, Try.results39, go_sem, *]) rfl ⟨rfl, (by repeat (first | exact BW.refl _ | assumption | apply BW.alloc | apply BW.drew | (refine BW.setCell ?_ (by first | omega | (simp; done) | (simp; omega)) _) | (refine BW.trans ?_ (by assumption))))⟩
set_option maxRecDepth 100000 in
set_option maxHeartbeats 400000 in
theorem ints_mul_l4 (a b : Int) (a0 : -9223372036854775808 ≤ a) (a1 : a ≤ 9223372036854775807) (b0 : -9223372036854775808 ≤ b) (b1 : b ≤ 9223372036854775807) (az : (a == 0) = false) (bz : (b == 0) = false) (ame : (a == -1) = false) (amn : (a != -1) = true) (bme : (b == -1) = false) (bmn : (b != -1) = true) (ale : (a == -9223372036854775808) = true) (aln : (a != -9223372036854775808) = false) (b1e : (b == 1) = false) (b1n : (b != 1) = true)  (w : World) :
    Calls Try.prog 39 #[.string ⟨#[42]⟩, .int .i64 (a), .int .i64 (b)] w fun e w' => e = .returned (.tuple #[V 0 0 ⟨#[]⟩, .int .i64 (3)]) ∧ BW w w' := by
  go_enter Try.func39, Try.ntmps39
  go_wp2_with (first | (go_at_call 22; refine (int_any _ _).mono ?_; rintro e w1 ⟨rfl, hb⟩; have hz := hb.size; (try simp at hz); have hc0 := fun o => hb.cells (w.heap.size) o (by first | omega | (simp; done) | (simp; omega)); have hf0 := fun o => hb.froz (w.heap.size) o (by first | omega | (simp; done) | (simp; omega))))
  exact bodyPost_ret (v := .tuple #[V 0 0 ⟨#[]⟩, .int .i64 (3)]) (by simp [results, Try.results39, go_sem, *]) rfl ⟨rfl, (by repeat (first | exact BW.refl _ | assumption | apply BW.alloc | apply BW.drew | (refine BW.setCell ?_ (by first | omega | (simp; done) | (simp; omega)) _) | (refine BW.trans ?_ (by assumption))))⟩
set_option maxRecDepth 100000 in
set_option maxHeartbeats 400000 in
theorem ints_mul_l5 (a b : Int) (a0 : -9223372036854775808 ≤ a) (a1 : a ≤ 9223372036854775807) (b0 : -9223372036854775808 ≤ b) (b1 : b ≤ 9223372036854775807) (az : (a == 0) = false) (bz : (b == 0) = false) (ame : (a == -1) = false) (amn : (a != -1) = true) (bme : (b == -1) = false) (bmn : (b != -1) = true) (ale : (a == -9223372036854775808) = false) (aln : (a != -9223372036854775808) = true) (a1e : (a == 1) = true) (a1n : (a != 1) = false) (ble : (b == -9223372036854775808) = true) (bln : (b != -9223372036854775808) = false)  (w : World) :
    Calls Try.prog 39 #[.string ⟨#[42]⟩, .int .i64 (a), .int .i64 (b)] w fun e w' => e = .returned (.tuple #[V 1 (wrap64 (a * b)) ⟨#[]⟩, .int .i64 (0)]) ∧ BW w w' := by
  go_enter Try.func39, Try.ntmps39
  go_wp2_with (first | (go_at_call 22; refine (int_any _ _).mono ?_; rintro e w1 ⟨rfl, hb⟩; have hz := hb.size; (try simp at hz); have hc0 := fun o => hb.cells (w.heap.size) o (by first | omega | (simp; done) | (simp; omega)); have hf0 := fun o => hb.froz (w.heap.size) o (by first | omega | (simp; done) | (simp; omega))))
  exact bodyPost_ret (v := .tuple #[V 1 (wrap64 (a * b)) ⟨#[]⟩, .int .i64 (0)]) (by simp [results, Try.results39, go_sem, *]) rfl ⟨rfl, (by repeat (first | exact BW.refl _ | assumption | apply BW.alloc | apply BW.drew | (refine BW.setCell ?_ (by first | omega | (simp; done) | (simp; omega)) _) | (refine BW.trans ?_ (by assumption))))⟩
set_option maxRecDepth 100000 in
set_option maxHeartbeats 400000 in
theorem ints_mul_l6 (a b : Int) (a0 : -9223372036854775808 ≤ a) (a1 : a ≤ 9223372036854775807) (b0 : -9223372036854775808 ≤ b) (b1 : b ≤ 9223372036854775807) (az : (a == 0) = false) (bz : (b == 0) = false) (ame : (a == -1) = false) (amn : (a != -1) = true) (bme : (b == -1) = false) (bmn : (b != -1) = true) (ale : (a == -9223372036854775808) = false) (aln : (a != -9223372036854775808) = true) (a1e : (a == 1) = false) (a1n : (a != 1) = true) (ble : (b == -9223372036854775808) = true) (bln : (b != -9223372036854775808) = false)  (w : World) :
    Calls Try.prog 39 #[.string ⟨#[42]⟩, .int .i64 (a), .int .i64 (b)] w fun e w' => e = .returned (.tuple #[V 0 0 ⟨#[]⟩, .int .i64 (3)]) ∧ BW w w' := by
  go_enter Try.func39, Try.ntmps39
  go_wp2_with (first | (go_at_call 22; refine (int_any _ _).mono ?_; rintro e w1 ⟨rfl, hb⟩; have hz := hb.size; (try simp at hz); have hc0 := fun o => hb.cells (w.heap.size) o (by first | omega | (simp; done) | (simp; omega)); have hf0 := fun o => hb.froz (w.heap.size) o (by first | omega | (simp; done) | (simp; omega))))
  exact bodyPost_ret (v := .tuple #[V 0 0 ⟨#[]⟩, .int .i64 (3)]) (by simp [results, Try.results39, go_sem, *]) rfl ⟨rfl, (by repeat (first | exact BW.refl _ | assumption | apply BW.alloc | apply BW.drew | (refine BW.setCell ?_ (by first | omega | (simp; done) | (simp; omega)) _) | (refine BW.trans ?_ (by assumption))))⟩
set_option maxRecDepth 100000 in
set_option maxHeartbeats 400000 in
theorem ints_mul_ok (a b : Int) (a0 : -9223372036854775808 ≤ a) (a1 : a ≤ 9223372036854775807) (b0 : -9223372036854775808 ≤ b) (b1 : b ≤ 9223372036854775807) (az : (a == 0) = false) (bz : (b == 0) = false) (ale : (a == -9223372036854775808) = false) (aln : (a != -9223372036854775808) = true) (ble : (b == -9223372036854775808) = false) (bln : (b != -9223372036854775808) = true) (ame : (a == -1) = false) (amn : (a != -1) = true) (bme : (b == -1) = false) (bmn : (b != -1) = true) (bz' : ¬ b = 0) (h : (wrap64 ((wrap64 (a * b)).tdiv b) != a) = false) (w : World) :
    Calls Try.prog 39 #[.string ⟨#[42]⟩, .int .i64 (a), .int .i64 (b)] w fun e w' => e = .returned (.tuple #[V 1 (wrap64 (a * b)) ⟨#[]⟩, .int .i64 (0)]) ∧ BW w w' := by
  go_enter Try.func39, Try.ntmps39
  go_wp2_with (first | (go_at_call 22; refine (int_any _ _).mono ?_; rintro e w1 ⟨rfl, hb⟩; have hz := hb.size; (try simp at hz); have hc0 := fun o => hb.cells (w.heap.size) o (by first | omega | (simp; done) | (simp; omega)); have hf0 := fun o => hb.froz (w.heap.size) o (by first | omega | (simp; done) | (simp; omega))))
  exact bodyPost_ret (v := .tuple #[V 1 (wrap64 (a * b)) ⟨#[]⟩, .int .i64 (0)]) (by simp [results, Try.results39, go_sem, *]) rfl ⟨rfl, (by repeat (first | exact BW.refl _ | assumption | apply BW.alloc | apply BW.drew | (refine BW.setCell ?_ (by first | omega | (simp; done) | (simp; omega)) _) | (refine BW.trans ?_ (by assumption))))⟩
set_option maxRecDepth 100000 in
set_option maxHeartbeats 400000 in
theorem ints_mul_no (a b : Int) (a0 : -9223372036854775808 ≤ a) (a1 : a ≤ 9223372036854775807) (b0 : -9223372036854775808 ≤ b) (b1 : b ≤ 9223372036854775807) (az : (a == 0) = false) (bz : (b == 0) = false) (ale : (a == -9223372036854775808) = false) (aln : (a != -9223372036854775808) = true) (ble : (b == -9223372036854775808) = false) (bln : (b != -9223372036854775808) = true) (ame : (a == -1) = false) (amn : (a != -1) = true) (bme : (b == -1) = false) (bmn : (b != -1) = true) (bz' : ¬ b = 0) (h : (wrap64 ((wrap64 (a * b)).tdiv b) != a) = true) (w : World) :
    Calls Try.prog 39 #[.string ⟨#[42]⟩, .int .i64 (a), .int .i64 (b)] w fun e w' => e = .returned (.tuple #[V 0 0 ⟨#[]⟩, .int .i64 (3)]) ∧ BW w w' := by
  go_enter Try.func39, Try.ntmps39
  go_wp2_with (first | (go_at_call 22; refine (int_any _ _).mono ?_; rintro e w1 ⟨rfl, hb⟩; have hz := hb.size; (try simp at hz); have hc0 := fun o => hb.cells (w.heap.size) o (by first | omega | (simp; done) | (simp; omega)); have hf0 := fun o => hb.froz (w.heap.size) o (by first | omega | (simp; done) | (simp; omega))))
  exact bodyPost_ret (v := .tuple #[V 0 0 ⟨#[]⟩, .int .i64 (3)]) (by simp [results, Try.results39, go_sem, *]) rfl ⟨rfl, (by repeat (first | exact BW.refl _ | assumption | apply BW.alloc | apply BW.drew | (refine BW.setCell ?_ (by first | omega | (simp; done) | (simp; omega)) _) | (refine BW.trans ?_ (by assumption))))⟩
set_option maxRecDepth 100000 in
set_option maxHeartbeats 400000 in
theorem ints_mul_ok_am (a b : Int) (a0 : -9223372036854775808 ≤ a) (a1 : a ≤ 9223372036854775807) (b0 : -9223372036854775808 ≤ b) (b1 : b ≤ 9223372036854775807) (az : (a == 0) = false) (bz : (b == 0) = false) (ale : (a == -9223372036854775808) = false) (aln : (a != -9223372036854775808) = true) (ble : (b == -9223372036854775808) = false) (bln : (b != -9223372036854775808) = true) (ame : (a == -1) = true) (amn : (a != -1) = false) (bme : (b == -1) = false) (bmn : (b != -1) = true) (bz' : ¬ b = 0) (h : (wrap64 ((wrap64 (a * b)).tdiv b) != a) = false) (w : World) :
    Calls Try.prog 39 #[.string ⟨#[42]⟩, .int .i64 (a), .int .i64 (b)] w fun e w' => e = .returned (.tuple #[V 1 (wrap64 (a * b)) ⟨#[]⟩, .int .i64 (0)]) ∧ BW w w' := by
  go_enter Try.func39, Try.ntmps39
  go_wp2_with (first | (go_at_call 22; refine (int_any _ _).mono ?_; rintro e w1 ⟨rfl, hb⟩; have hz := hb.size; (try simp at hz); have hc0 := fun o => hb.cells (w.heap.size) o (by first | omega | (simp; done) | (simp; omega)); have hf0 := fun o => hb.froz (w.heap.size) o (by first | omega | (simp; done) | (simp; omega))))
  exact bodyPost_ret (v := .tuple #[V 1 (wrap64 (a * b)) ⟨#[]⟩, .int .i64 (0)]) (by simp [results, Try.results39, go_sem, *]) rfl ⟨rfl, (by repeat (first | exact BW.refl _ | assumption | apply BW.alloc | apply BW.drew | (refine BW.setCell ?_ (by first | omega | (simp; done) | (simp; omega)) _) | (refine BW.trans ?_ (by assumption))))⟩
set_option maxRecDepth 100000 in
set_option maxHeartbeats 400000 in
theorem ints_mul_no_am (a b : Int) (a0 : -9223372036854775808 ≤ a) (a1 : a ≤ 9223372036854775807) (b0 : -9223372036854775808 ≤ b) (b1 : b ≤ 9223372036854775807) (az : (a == 0) = false) (bz : (b == 0) = false) (ale : (a == -9223372036854775808) = false) (aln : (a != -9223372036854775808) = true) (ble : (b == -9223372036854775808) = false) (bln : (b != -9223372036854775808) = true) (ame : (a == -1) = true) (amn : (a != -1) = false) (bme : (b == -1) = false) (bmn : (b != -1) = true) (bz' : ¬ b = 0) (h : (wrap64 ((wrap64 (a * b)).tdiv b) != a) = true) (w : World) :
    Calls Try.prog 39 #[.string ⟨#[42]⟩, .int .i64 (a), .int .i64 (b)] w fun e w' => e = .returned (.tuple #[V 0 0 ⟨#[]⟩, .int .i64 (3)]) ∧ BW w w' := by
  go_enter Try.func39, Try.ntmps39
  go_wp2_with (first | (go_at_call 22; refine (int_any _ _).mono ?_; rintro e w1 ⟨rfl, hb⟩; have hz := hb.size; (try simp at hz); have hc0 := fun o => hb.cells (w.heap.size) o (by first | omega | (simp; done) | (simp; omega)); have hf0 := fun o => hb.froz (w.heap.size) o (by first | omega | (simp; done) | (simp; omega))))
  exact bodyPost_ret (v := .tuple #[V 0 0 ⟨#[]⟩, .int .i64 (3)]) (by simp [results, Try.results39, go_sem, *]) rfl ⟨rfl, (by repeat (first | exact BW.refl _ | assumption | apply BW.alloc | apply BW.drew | (refine BW.setCell ?_ (by first | omega | (simp; done) | (simp; omega)) _) | (refine BW.trans ?_ (by assumption))))⟩
set_option maxRecDepth 100000 in
set_option maxHeartbeats 400000 in
theorem ints_mul_ok_ab (a b : Int) (a0 : -9223372036854775808 ≤ a) (a1 : a ≤ 9223372036854775807) (b0 : -9223372036854775808 ≤ b) (b1 : b ≤ 9223372036854775807) (az : (a == 0) = false) (bz : (b == 0) = false) (ale : (a == -9223372036854775808) = false) (aln : (a != -9223372036854775808) = true) (ble : (b == -9223372036854775808) = false) (bln : (b != -9223372036854775808) = true) (ame : (a == -1) = true) (amn : (a != -1) = false) (bme : (b == -1) = true) (bmn : (b != -1) = false) (bz' : ¬ b = 0) (h : (wrap64 ((wrap64 (a * b)).tdiv b) != a) = false) (w : World) :
    Calls Try.prog 39 #[.string ⟨#[42]⟩, .int .i64 (a), .int .i64 (b)] w fun e w' => e = .returned (.tuple #[V 1 (wrap64 (a * b)) ⟨#[]⟩, .int .i64 (0)]) ∧ BW w w' := by
  go_enter Try.func39, Try.ntmps39
  go_wp2_with (first | (go_at_call 22; refine (int_any _ _).mono ?_; rintro e w1 ⟨rfl, hb⟩; have hz := hb.size; (try simp at hz); have hc0 := fun o => hb.cells (w.heap.size) o (by first | omega | (simp; done) | (simp; omega)); have hf0 := fun o => hb.froz (w.heap.size) o (by first | omega | (simp; done) | (simp; omega))))
  exact bodyPost_ret (v := .tuple #[V 1 (wrap64 (a * b)) ⟨#[]⟩, .int .i64 (0)]) (by simp [results, Try.results39, go_sem, *]) rfl ⟨rfl, (by repeat (first | exact BW.refl _ | assumption | apply BW.alloc | apply BW.drew | (refine BW.setCell ?_ (by first | omega | (simp; done) | (simp; omega)) _) | (refine BW.trans ?_ (by assumption))))⟩
set_option maxRecDepth 100000 in
set_option maxHeartbeats 400000 in
theorem ints_mul_no_ab (a b : Int) (a0 : -9223372036854775808 ≤ a) (a1 : a ≤ 9223372036854775807) (b0 : -9223372036854775808 ≤ b) (b1 : b ≤ 9223372036854775807) (az : (a == 0) = false) (bz : (b == 0) = false) (ale : (a == -9223372036854775808) = false) (aln : (a != -9223372036854775808) = true) (ble : (b == -9223372036854775808) = false) (bln : (b != -9223372036854775808) = true) (ame : (a == -1) = true) (amn : (a != -1) = false) (bme : (b == -1) = true) (bmn : (b != -1) = false) (bz' : ¬ b = 0) (h : (wrap64 ((wrap64 (a * b)).tdiv b) != a) = true) (w : World) :
    Calls Try.prog 39 #[.string ⟨#[42]⟩, .int .i64 (a), .int .i64 (b)] w fun e w' => e = .returned (.tuple #[V 0 0 ⟨#[]⟩, .int .i64 (3)]) ∧ BW w w' := by
  go_enter Try.func39, Try.ntmps39
  go_wp2_with (first | (go_at_call 22; refine (int_any _ _).mono ?_; rintro e w1 ⟨rfl, hb⟩; have hz := hb.size; (try simp at hz); have hc0 := fun o => hb.cells (w.heap.size) o (by first | omega | (simp; done) | (simp; omega)); have hf0 := fun o => hb.froz (w.heap.size) o (by first | omega | (simp; done) | (simp; omega))))
  exact bodyPost_ret (v := .tuple #[V 0 0 ⟨#[]⟩, .int .i64 (3)]) (by simp [results, Try.results39, go_sem, *]) rfl ⟨rfl, (by repeat (first | exact BW.refl _ | assumption | apply BW.alloc | apply BW.drew | (refine BW.setCell ?_ (by first | omega | (simp; done) | (simp; omega)) _) | (refine BW.trans ?_ (by assumption))))⟩
set_option maxRecDepth 100000 in
set_option maxHeartbeats 400000 in
theorem ints_mul_ok_bm (a b : Int) (a0 : -9223372036854775808 ≤ a) (a1 : a ≤ 9223372036854775807) (b0 : -9223372036854775808 ≤ b) (b1 : b ≤ 9223372036854775807) (az : (a == 0) = false) (bz : (b == 0) = false) (ale : (a == -9223372036854775808) = false) (aln : (a != -9223372036854775808) = true) (ble : (b == -9223372036854775808) = false) (bln : (b != -9223372036854775808) = true) (ame : (a == -1) = false) (amn : (a != -1) = true) (bme : (b == -1) = true) (bmn : (b != -1) = false) (bz' : ¬ b = 0) (h : (wrap64 ((wrap64 (a * b)).tdiv b) != a) = false) (w : World) :
    Calls Try.prog 39 #[.string ⟨#[42]⟩, .int .i64 (a), .int .i64 (b)] w fun e w' => e = .returned (.tuple #[V 1 (wrap64 (a * b)) ⟨#[]⟩, .int .i64 (0)]) ∧ BW w w' := by
  go_enter Try.func39, Try.ntmps39
  go_wp2_with (first | (go_at_call 22; refine (int_any _ _).mono ?_; rintro e w1 ⟨rfl, hb⟩; have hz := hb.size; (try simp at hz); have hc0 := fun o => hb.cells (w.heap.size) o (by first | omega | (simp; done) | (simp; omega)); have hf0 := fun o => hb.froz (w.heap.size) o (by first | omega | (simp; done) | (simp; omega))))
  exact bodyPost_ret (v := .tuple #[V 1 (wrap64 (a * b)) ⟨#[]⟩, .int .i64 (0)]) (by simp [results, Try.results39, go_sem, *]) rfl ⟨rfl, (by repeat (first | exact BW.refl _ | assumption | apply BW.alloc | apply BW.drew | (refine BW.setCell ?_ (by first | omega | (simp; done) | (simp; omega)) _) | (refine BW.trans ?_ (by assumption))))⟩
set_option maxRecDepth 100000 in
set_option maxHeartbeats 400000 in
theorem ints_mul_no_bm (a b : Int) (a0 : -9223372036854775808 ≤ a) (a1 : a ≤ 9223372036854775807) (b0 : -9223372036854775808 ≤ b) (b1 : b ≤ 9223372036854775807) (az : (a == 0) = false) (bz : (b == 0) = false) (ale : (a == -9223372036854775808) = false) (aln : (a != -9223372036854775808) = true) (ble : (b == -9223372036854775808) = false) (bln : (b != -9223372036854775808) = true) (ame : (a == -1) = false) (amn : (a != -1) = true) (bme : (b == -1) = true) (bmn : (b != -1) = false) (bz' : ¬ b = 0) (h : (wrap64 ((wrap64 (a * b)).tdiv b) != a) = true) (w : World) :
    Calls Try.prog 39 #[.string ⟨#[42]⟩, .int .i64 (a), .int .i64 (b)] w fun e w' => e = .returned (.tuple #[V 0 0 ⟨#[]⟩, .int .i64 (3)]) ∧ BW w w' := by
  go_enter Try.func39, Try.ntmps39
  go_wp2_with (first | (go_at_call 22; refine (int_any _ _).mono ?_; rintro e w1 ⟨rfl, hb⟩; have hz := hb.size; (try simp at hz); have hc0 := fun o => hb.cells (w.heap.size) o (by first | omega | (simp; done) | (simp; omega)); have hf0 := fun o => hb.froz (w.heap.size) o (by first | omega | (simp; done) | (simp; omega))))
  exact bodyPost_ret (v := .tuple #[V 0 0 ⟨#[]⟩, .int .i64 (3)]) (by simp [results, Try.results39, go_sem, *]) rfl ⟨rfl, (by repeat (first | exact BW.refl _ | assumption | apply BW.alloc | apply BW.drew | (refine BW.setCell ?_ (by first | omega | (simp; done) | (simp; omega)) _) | (refine BW.trans ?_ (by assumption))))⟩
set_option maxRecDepth 100000 in
set_option maxHeartbeats 400000 in
theorem ints_quo_z (a : Int) (a0 : -9223372036854775808 ≤ a) (a1 : a ≤ 9223372036854775807)  (w : World) :
    Calls Try.prog 39 #[.string ⟨#[47]⟩, .int .i64 (a), .int .i64 (0)] w fun e w' => e = .returned (.tuple #[V 0 0 ⟨#[]⟩, .int .i64 (4)]) ∧ BW w w' := by
  go_enter Try.func39, Try.ntmps39
  go_wp2_with (first | (go_at_call 22; refine (int_any _ _).mono ?_; rintro e w1 ⟨rfl, hb⟩; have hz := hb.size; (try simp at hz); have hc0 := fun o => hb.cells (w.heap.size) o (by first | omega | (simp; done) | (simp; omega)); have hf0 := fun o => hb.froz (w.heap.size) o (by first | omega | (simp; done) | (simp; omega))))
  exact bodyPost_ret (v := .tuple #[V 0 0 ⟨#[]⟩, .int .i64 (4)]) (by simp [results, Try.results39, go_sem, *]) rfl ⟨rfl, (by repeat (first | exact BW.refl _ | assumption | apply BW.alloc | apply BW.drew | (refine BW.setCell ?_ (by first | omega | (simp; done) | (simp; omega)) _) | (refine BW.trans ?_ (by assumption))))⟩
set_option maxRecDepth 100000 in
set_option maxHeartbeats 400000 in
theorem ints_quo_no (a b : Int) (a0 : -9223372036854775808 ≤ a) (a1 : a ≤ 9223372036854775807) (b0 : -9223372036854775808 ≤ b) (b1 : b ≤ 9223372036854775807) (bz : (b == 0) = false) (bz' : ¬ b = 0) (bme : (b == -1) = true) (bmn : (b != -1) = false) (ale : (a == -9223372036854775808) = true) (aln : (a != -9223372036854775808) = false)  (w : World) :
    Calls Try.prog 39 #[.string ⟨#[47]⟩, .int .i64 (a), .int .i64 (b)] w fun e w' => e = .returned (.tuple #[V 0 0 ⟨#[]⟩, .int .i64 (3)]) ∧ BW w w' := by
  go_enter Try.func39, Try.ntmps39
  go_wp2_with (first | (go_at_call 22; refine (int_any _ _).mono ?_; rintro e w1 ⟨rfl, hb⟩; have hz := hb.size; (try simp at hz); have hc0 := fun o => hb.cells (w.heap.size) o (by first | omega | (simp; done) | (simp; omega)); have hf0 := fun o => hb.froz (w.heap.size) o (by first | omega | (simp; done) | (simp; omega))))
  exact bodyPost_ret (v := .tuple #[V 0 0 ⟨#[]⟩, .int .i64 (3)]) (by simp [results, Try.results39, go_sem, *]) rfl ⟨rfl, (by repeat (first | exact BW.refl _ | assumption | apply BW.alloc | apply BW.drew | (refine BW.setCell ?_ (by first | omega | (simp; done) | (simp; omega)) _) | (refine BW.trans ?_ (by assumption))))⟩
set_option maxRecDepth 100000 in
set_option maxHeartbeats 400000 in
theorem ints_quo_ok1 (a b : Int) (a0 : -9223372036854775808 ≤ a) (a1 : a ≤ 9223372036854775807) (b0 : -9223372036854775808 ≤ b) (b1 : b ≤ 9223372036854775807) (bz : (b == 0) = false) (bz' : ¬ b = 0) (bme : (b == -1) = true) (bmn : (b != -1) = false) (ale : (a == -9223372036854775808) = false) (aln : (a != -9223372036854775808) = true)  (w : World) :
    Calls Try.prog 39 #[.string ⟨#[47]⟩, .int .i64 (a), .int .i64 (b)] w fun e w' => e = .returned (.tuple #[V 1 (wrap64 (a.tdiv b)) ⟨#[]⟩, .int .i64 (0)]) ∧ BW w w' := by
  go_enter Try.func39, Try.ntmps39
  go_wp2_with (first | (go_at_call 22; refine (int_any _ _).mono ?_; rintro e w1 ⟨rfl, hb⟩; have hz := hb.size; (try simp at hz); have hc0 := fun o => hb.cells (w.heap.size) o (by first | omega | (simp; done) | (simp; omega)); have hf0 := fun o => hb.froz (w.heap.size) o (by first | omega | (simp; done) | (simp; omega))))
  exact bodyPost_ret (v := .tuple #[V 1 (wrap64 (a.tdiv b)) ⟨#[]⟩, .int .i64 (0)]) (by simp [results, Try.results39, go_sem, *]) rfl ⟨rfl, (by repeat (first | exact BW.refl _ | assumption | apply BW.alloc | apply BW.drew | (refine BW.setCell ?_ (by first | omega | (simp; done) | (simp; omega)) _) | (refine BW.trans ?_ (by assumption))))⟩
set_option maxRecDepth 100000 in
set_option maxHeartbeats 400000 in
theorem ints_quo_ok (a b : Int) (a0 : -9223372036854775808 ≤ a) (a1 : a ≤ 9223372036854775807) (b0 : -9223372036854775808 ≤ b) (b1 : b ≤ 9223372036854775807) (bz : (b == 0) = false) (bz' : ¬ b = 0) (bme : (b == -1) = false) (bmn : (b != -1) = true)  (w : World) :
    Calls Try.prog 39 #[.string ⟨#[47]⟩, .int .i64 (a), .int .i64 (b)] w fun e w' => e = .returned (.tuple #[V 1 (wrap64 (a.tdiv b)) ⟨#[]⟩, .int .i64 (0)]) ∧ BW w w' := by
  go_enter Try.func39, Try.ntmps39
  go_wp2_with (first | (go_at_call 22; refine (int_any _ _).mono ?_; rintro e w1 ⟨rfl, hb⟩; have hz := hb.size; (try simp at hz); have hc0 := fun o => hb.cells (w.heap.size) o (by first | omega | (simp; done) | (simp; omega)); have hf0 := fun o => hb.froz (w.heap.size) o (by first | omega | (simp; done) | (simp; omega))))
  exact bodyPost_ret (v := .tuple #[V 1 (wrap64 (a.tdiv b)) ⟨#[]⟩, .int .i64 (0)]) (by simp [results, Try.results39, go_sem, *]) rfl ⟨rfl, (by repeat (first | exact BW.refl _ | assumption | apply BW.alloc | apply BW.drew | (refine BW.setCell ?_ (by first | omega | (simp; done) | (simp; omega)) _) | (refine BW.trans ?_ (by assumption))))⟩
set_option maxRecDepth 100000 in
set_option maxHeartbeats 400000 in
theorem ints_rem_z (a : Int) (a0 : -9223372036854775808 ≤ a) (a1 : a ≤ 9223372036854775807)  (w : World) :
    Calls Try.prog 39 #[.string ⟨#[37]⟩, .int .i64 (a), .int .i64 (0)] w fun e w' => e = .returned (.tuple #[V 0 0 ⟨#[]⟩, .int .i64 (4)]) ∧ BW w w' := by
  go_enter Try.func39, Try.ntmps39
  go_wp2_with (first | (go_at_call 22; refine (int_any _ _).mono ?_; rintro e w1 ⟨rfl, hb⟩; have hz := hb.size; (try simp at hz); have hc0 := fun o => hb.cells (w.heap.size) o (by first | omega | (simp; done) | (simp; omega)); have hf0 := fun o => hb.froz (w.heap.size) o (by first | omega | (simp; done) | (simp; omega))))
  exact bodyPost_ret (v := .tuple #[V 0 0 ⟨#[]⟩, .int .i64 (4)]) (by simp [results, Try.results39, go_sem, *]) rfl ⟨rfl, (by repeat (first | exact BW.refl _ | assumption | apply BW.alloc | apply BW.drew | (refine BW.setCell ?_ (by first | omega | (simp; done) | (simp; omega)) _) | (refine BW.trans ?_ (by assumption))))⟩
set_option maxRecDepth 100000 in
set_option maxHeartbeats 400000 in
theorem ints_rem_m (a b : Int) (a0 : -9223372036854775808 ≤ a) (a1 : a ≤ 9223372036854775807) (b0 : -9223372036854775808 ≤ b) (b1 : b ≤ 9223372036854775807) (bz : (b == 0) = false) (bme : (b == -1) = true) (bmn : (b != -1) = false)  (w : World) :
    Calls Try.prog 39 #[.string ⟨#[37]⟩, .int .i64 (a), .int .i64 (b)] w fun e w' => e = .returned (.tuple #[V 1 (0) ⟨#[]⟩, .int .i64 (0)]) ∧ BW w w' := by
  go_enter Try.func39, Try.ntmps39
  go_wp2_with (first | (go_at_call 22; refine (int_any _ _).mono ?_; rintro e w1 ⟨rfl, hb⟩; have hz := hb.size; (try simp at hz); have hc0 := fun o => hb.cells (w.heap.size) o (by first | omega | (simp; done) | (simp; omega)); have hf0 := fun o => hb.froz (w.heap.size) o (by first | omega | (simp; done) | (simp; omega))))
  exact bodyPost_ret (v := .tuple #[V 1 (0) ⟨#[]⟩, .int .i64 (0)]) (by simp [results, Try.results39, go_sem, *]) rfl ⟨rfl, (by repeat (first | exact BW.refl _ | assumption | apply BW.alloc | apply BW.drew | (refine BW.setCell ?_ (by first | omega | (simp; done) | (simp; omega)) _) | (refine BW.trans ?_ (by assumption))))⟩
set_option maxRecDepth 100000 in
set_option maxHeartbeats 400000 in
theorem ints_rem_ok (a b : Int) (a0 : -9223372036854775808 ≤ a) (a1 : a ≤ 9223372036854775807) (b0 : -9223372036854775808 ≤ b) (b1 : b ≤ 9223372036854775807) (bz : (b == 0) = false) (bz' : ¬ b = 0) (bme : (b == -1) = false) (bmn : (b != -1) = true)  (w : World) :
    Calls Try.prog 39 #[.string ⟨#[37]⟩, .int .i64 (a), .int .i64 (b)] w fun e w' => e = .returned (.tuple #[V 1 (wrap64 (a - wrap64 (wrap64 (a.tdiv b) * b))) ⟨#[]⟩, .int .i64 (0)]) ∧ BW w w' := by
  go_enter Try.func39, Try.ntmps39
  go_wp2_with (first | (go_at_call 22; refine (int_any _ _).mono ?_; rintro e w1 ⟨rfl, hb⟩; have hz := hb.size; (try simp at hz); have hc0 := fun o => hb.cells (w.heap.size) o (by first | omega | (simp; done) | (simp; omega)); have hf0 := fun o => hb.froz (w.heap.size) o (by first | omega | (simp; done) | (simp; omega))))
  exact bodyPost_ret (v := .tuple #[V 1 (wrap64 (a - wrap64 (wrap64 (a.tdiv b) * b))) ⟨#[]⟩, .int .i64 (0)]) (by simp [results, Try.results39, go_sem, *]) rfl ⟨rfl, (by repeat (first | exact BW.refl _ | assumption | apply BW.alloc | apply BW.drew | (refine BW.setCell ?_ (by first | omega | (simp; done) | (simp; omega)) _) | (refine BW.trans ?_ (by assumption))))⟩
set_option maxRecDepth 100000 in
set_option maxHeartbeats 400000 in
theorem ints_and (a b : Int) (a0 : -9223372036854775808 ≤ a) (a1 : a ≤ 9223372036854775807) (b0 : -9223372036854775808 ≤ b) (b1 : b ≤ 9223372036854775807)  (w : World) :
    Calls Try.prog 39 #[.string ⟨#[97, 110, 100]⟩, .int .i64 (a), .int .i64 (b)] w fun e w' => e = .returned (.tuple #[V 1 (bits .and .i64 a b) ⟨#[]⟩, .int .i64 (0)]) ∧ BW w w' := by
  have hbw : ∀ w : World, Calls Try.prog 48 #[.string ⟨#[97, 110, 100]⟩, .int .i64 (a), .int .i64 (b)] w fun e w' => e = .returned (.int .i64 (bits .and .i64 a b)) ∧ BW w w' := fun w => by rw [← and_eq]; exact bitwise_and a b a0 a1 b0 b1 w
  have Hbw : Hid (∀ w : World, Calls Try.prog 48 #[.string ⟨#[97, 110, 100]⟩, .int .i64 (a), .int .i64 (b)] w fun e w' => e = .returned (.int .i64 (bits .and .i64 a b)) ∧ BW w w') := hbw
  clear hbw
  go_enter Try.func39, Try.ntmps39
  go_wp2_with (first | (go_at_call 48; refine (Hbw.out _).mono ?_; rintro e w1 ⟨rfl, hb⟩; have hz := hb.size; (try simp at hz); have hc0 := fun o => hb.cells (w.heap.size) o (by first | omega | (simp; done) | (simp; omega)); have hf0 := fun o => hb.froz (w.heap.size) o (by first | omega | (simp; done) | (simp; omega)); have hc1 := fun o => hb.cells (w.heap.size + 1) o (by first | omega | (simp; done) | (simp; omega)); have hf1 := fun o => hb.froz (w.heap.size + 1) o (by first | omega | (simp; done) | (simp; omega))) | (go_at_call 22; refine (int_any _ _).mono ?_; rintro e w1 ⟨rfl, hb⟩; have hz := hb.size; (try simp at hz); have hc0 := fun o => hb.cells (w.heap.size) o (by first | omega | (simp; done) | (simp; omega)); have hf0 := fun o => hb.froz (w.heap.size) o (by first | omega | (simp; done) | (simp; omega))))
  exact bodyPost_ret (v := .tuple #[V 1 (bits .and .i64 a b) ⟨#[]⟩, .int .i64 (0)]) (by simp [results, Try.results39, go_sem, *]) rfl ⟨rfl, (by repeat (first | exact BW.refl _ | assumption | apply BW.alloc | apply BW.drew | (refine BW.setCell ?_ (by first | omega | (simp; done) | (simp; omega)) _) | (refine BW.trans ?_ (by assumption))))⟩
set_option maxRecDepth 100000 in
set_option maxHeartbeats 400000 in
theorem ints_or (a b : Int) (a0 : -9223372036854775808 ≤ a) (a1 : a ≤ 9223372036854775807) (b0 : -9223372036854775808 ≤ b) (b1 : b ≤ 9223372036854775807)  (w : World) :
    Calls Try.prog 39 #[.string ⟨#[111, 114]⟩, .int .i64 (a), .int .i64 (b)] w fun e w' => e = .returned (.tuple #[V 1 (bits .or .i64 a b) ⟨#[]⟩, .int .i64 (0)]) ∧ BW w w' := by
  have hbw : ∀ w : World, Calls Try.prog 48 #[.string ⟨#[111, 114]⟩, .int .i64 (a), .int .i64 (b)] w fun e w' => e = .returned (.int .i64 (bits .or .i64 a b)) ∧ BW w w' := fun w => by rw [← or_eq]; exact bitwise_or a b a0 a1 b0 b1 w
  have Hbw : Hid (∀ w : World, Calls Try.prog 48 #[.string ⟨#[111, 114]⟩, .int .i64 (a), .int .i64 (b)] w fun e w' => e = .returned (.int .i64 (bits .or .i64 a b)) ∧ BW w w') := hbw
  clear hbw
  go_enter Try.func39, Try.ntmps39
  go_wp2_with (first | (go_at_call 48; refine (Hbw.out _).mono ?_; rintro e w1 ⟨rfl, hb⟩; have hz := hb.size; (try simp at hz); have hc0 := fun o => hb.cells (w.heap.size) o (by first | omega | (simp; done) | (simp; omega)); have hf0 := fun o => hb.froz (w.heap.size) o (by first | omega | (simp; done) | (simp; omega)); have hc1 := fun o => hb.cells (w.heap.size + 1) o (by first | omega | (simp; done) | (simp; omega)); have hf1 := fun o => hb.froz (w.heap.size + 1) o (by first | omega | (simp; done) | (simp; omega))) | (go_at_call 22; refine (int_any _ _).mono ?_; rintro e w1 ⟨rfl, hb⟩; have hz := hb.size; (try simp at hz); have hc0 := fun o => hb.cells (w.heap.size) o (by first | omega | (simp; done) | (simp; omega)); have hf0 := fun o => hb.froz (w.heap.size) o (by first | omega | (simp; done) | (simp; omega))))
  exact bodyPost_ret (v := .tuple #[V 1 (bits .or .i64 a b) ⟨#[]⟩, .int .i64 (0)]) (by simp [results, Try.results39, go_sem, *]) rfl ⟨rfl, (by repeat (first | exact BW.refl _ | assumption | apply BW.alloc | apply BW.drew | (refine BW.setCell ?_ (by first | omega | (simp; done) | (simp; omega)) _) | (refine BW.trans ?_ (by assumption))))⟩
set_option maxRecDepth 100000 in
set_option maxHeartbeats 400000 in
theorem ints_xor (a b : Int) (a0 : -9223372036854775808 ≤ a) (a1 : a ≤ 9223372036854775807) (b0 : -9223372036854775808 ≤ b) (b1 : b ≤ 9223372036854775807)  (w : World) :
    Calls Try.prog 39 #[.string ⟨#[120, 111, 114]⟩, .int .i64 (a), .int .i64 (b)] w fun e w' => e = .returned (.tuple #[V 1 (bits .xor .i64 a b) ⟨#[]⟩, .int .i64 (0)]) ∧ BW w w' := by
  have hbw : ∀ w : World, Calls Try.prog 48 #[.string ⟨#[120, 111, 114]⟩, .int .i64 (a), .int .i64 (b)] w fun e w' => e = .returned (.int .i64 (bits .xor .i64 a b)) ∧ BW w w' := fun w => by rw [← xor_eq]; exact bitwise_xor a b a0 a1 b0 b1 w
  have Hbw : Hid (∀ w : World, Calls Try.prog 48 #[.string ⟨#[120, 111, 114]⟩, .int .i64 (a), .int .i64 (b)] w fun e w' => e = .returned (.int .i64 (bits .xor .i64 a b)) ∧ BW w w') := hbw
  clear hbw
  go_enter Try.func39, Try.ntmps39
  go_wp2_with (first | (go_at_call 48; refine (Hbw.out _).mono ?_; rintro e w1 ⟨rfl, hb⟩; have hz := hb.size; (try simp at hz); have hc0 := fun o => hb.cells (w.heap.size) o (by first | omega | (simp; done) | (simp; omega)); have hf0 := fun o => hb.froz (w.heap.size) o (by first | omega | (simp; done) | (simp; omega)); have hc1 := fun o => hb.cells (w.heap.size + 1) o (by first | omega | (simp; done) | (simp; omega)); have hf1 := fun o => hb.froz (w.heap.size + 1) o (by first | omega | (simp; done) | (simp; omega))) | (go_at_call 22; refine (int_any _ _).mono ?_; rintro e w1 ⟨rfl, hb⟩; have hz := hb.size; (try simp at hz); have hc0 := fun o => hb.cells (w.heap.size) o (by first | omega | (simp; done) | (simp; omega)); have hf0 := fun o => hb.froz (w.heap.size) o (by first | omega | (simp; done) | (simp; omega))))
  exact bodyPost_ret (v := .tuple #[V 1 (bits .xor .i64 a b) ⟨#[]⟩, .int .i64 (0)]) (by simp [results, Try.results39, go_sem, *]) rfl ⟨rfl, (by repeat (first | exact BW.refl _ | assumption | apply BW.alloc | apply BW.drew | (refine BW.setCell ?_ (by first | omega | (simp; done) | (simp; omega)) _) | (refine BW.trans ?_ (by assumption))))⟩
set_option maxRecDepth 100000 in
set_option maxHeartbeats 400000 in
theorem ints_shl (a : Int) (bn : Nat) (hbn : bn ≤ 63) (a0 : -9223372036854775808 ≤ a) (a1 : a ≤ 9223372036854775807)  (w : World) :
    Calls Try.prog 39 #[.string ⟨#[115, 104, 108]⟩, .int .i64 (a), .int .i64 ((bn : Int))] w fun e w' => e = .returned (.tuple #[V 1 (wrap64 (a * 2 ^ bn)) ⟨#[]⟩, .int .i64 (0)]) ∧ BW w w' := by
  have Hbw : Hid (∀ w : World, Calls Try.prog 48 #[.string ⟨#[115, 104, 108]⟩, .int .i64 (a), .int .i64 ((bn : Int))] w fun e w' => e = .returned (.int .i64 (wrap64 (a * 2 ^ bn))) ∧ BW w w') := fun w => by rw [← shl_eq]; exact bitwise_shl a bn hbn a0 a1 w
  have hn0 : (0 : Int) ≤ (bn : Int) := by omega
  have hn1 : (bn : Int) ≤ 63 := by omega
  go_enter Try.func39, Try.ntmps39
  go_wp2_with (first | (go_at_call 48; refine (Hbw.out _).mono ?_; rintro e w1 ⟨rfl, hb⟩; have hz := hb.size; (try simp at hz); have hc0 := fun o => hb.cells (w.heap.size) o (by first | omega | (simp; done) | (simp; omega)); have hf0 := fun o => hb.froz (w.heap.size) o (by first | omega | (simp; done) | (simp; omega)); have hc1 := fun o => hb.cells (w.heap.size + 1) o (by first | omega | (simp; done) | (simp; omega)); have hf1 := fun o => hb.froz (w.heap.size + 1) o (by first | omega | (simp; done) | (simp; omega))) | (go_at_call 22; refine (int_any _ _).mono ?_; rintro e w1 ⟨rfl, hb⟩; have hz := hb.size; (try simp at hz); have hc0 := fun o => hb.cells (w.heap.size) o (by first | omega | (simp; done) | (simp; omega)); have hf0 := fun o => hb.froz (w.heap.size) o (by first | omega | (simp; done) | (simp; omega))))
  exact bodyPost_ret (v := .tuple #[V 1 (wrap64 (a * 2 ^ bn)) ⟨#[]⟩, .int .i64 (0)]) (by simp [results, Try.results39, go_sem, *]) rfl ⟨rfl, (by repeat (first | exact BW.refl _ | assumption | apply BW.alloc | apply BW.drew | (refine BW.setCell ?_ (by first | omega | (simp; done) | (simp; omega)) _) | (refine BW.trans ?_ (by assumption))))⟩
set_option maxRecDepth 100000 in
set_option maxHeartbeats 400000 in
theorem ints_shl_lo (a b : Int) (a0 : -9223372036854775808 ≤ a) (a1 : a ≤ 9223372036854775807) (b0 : -9223372036854775808 ≤ b) (b1 : b ≤ 9223372036854775807) (h : b < 0) (w : World) :
    Calls Try.prog 39 #[.string ⟨#[115, 104, 108]⟩, .int .i64 (a), .int .i64 (b)] w fun e w' => e = .returned (.tuple #[V 0 0 ⟨#[]⟩, .int .i64 (5)]) ∧ BW w w' := by
  go_enter Try.func39, Try.ntmps39
  go_wp2_with (first | (go_at_call 22; refine (int_any _ _).mono ?_; rintro e w1 ⟨rfl, hb⟩; have hz := hb.size; (try simp at hz); have hc0 := fun o => hb.cells (w.heap.size) o (by first | omega | (simp; done) | (simp; omega)); have hf0 := fun o => hb.froz (w.heap.size) o (by first | omega | (simp; done) | (simp; omega))))
  exact bodyPost_ret (v := .tuple #[V 0 0 ⟨#[]⟩, .int .i64 (5)]) (by simp [results, Try.results39, go_sem, *]) rfl ⟨rfl, (by repeat (first | exact BW.refl _ | assumption | apply BW.alloc | apply BW.drew | (refine BW.setCell ?_ (by first | omega | (simp; done) | (simp; omega)) _) | (refine BW.trans ?_ (by assumption))))⟩
set_option maxRecDepth 100000 in
set_option maxHeartbeats 400000 in
theorem ints_shl_hi (a b : Int) (a0 : -9223372036854775808 ≤ a) (a1 : a ≤ 9223372036854775807) (b0 : -9223372036854775808 ≤ b) (b1 : b ≤ 9223372036854775807) (h : 63 < b) (w : World) :
    Calls Try.prog 39 #[.string ⟨#[115, 104, 108]⟩, .int .i64 (a), .int .i64 (b)] w fun e w' => e = .returned (.tuple #[V 0 0 ⟨#[]⟩, .int .i64 (5)]) ∧ BW w w' := by
  go_enter Try.func39, Try.ntmps39
  go_wp2_with (first | (go_at_call 22; refine (int_any _ _).mono ?_; rintro e w1 ⟨rfl, hb⟩; have hz := hb.size; (try simp at hz); have hc0 := fun o => hb.cells (w.heap.size) o (by first | omega | (simp; done) | (simp; omega)); have hf0 := fun o => hb.froz (w.heap.size) o (by first | omega | (simp; done) | (simp; omega))))
  exact bodyPost_ret (v := .tuple #[V 0 0 ⟨#[]⟩, .int .i64 (5)]) (by simp [results, Try.results39, go_sem, *]) rfl ⟨rfl, (by repeat (first | exact BW.refl _ | assumption | apply BW.alloc | apply BW.drew | (refine BW.setCell ?_ (by first | omega | (simp; done) | (simp; omega)) _) | (refine BW.trans ?_ (by assumption))))⟩
set_option maxRecDepth 100000 in
set_option maxHeartbeats 400000 in
theorem ints_shr (a : Int) (bn : Nat) (hbn : bn ≤ 63) (a0 : -9223372036854775808 ≤ a) (a1 : a ≤ 9223372036854775807)  (w : World) :
    Calls Try.prog 39 #[.string ⟨#[115, 104, 114]⟩, .int .i64 (a), .int .i64 ((bn : Int))] w fun e w' => e = .returned (.tuple #[V 1 (a / 2 ^ bn) ⟨#[]⟩, .int .i64 (0)]) ∧ BW w w' := by
  have Hbw : Hid (∀ w : World, Calls Try.prog 48 #[.string ⟨#[115, 104, 114]⟩, .int .i64 (a), .int .i64 ((bn : Int))] w fun e w' => e = .returned (.int .i64 (a / 2 ^ bn)) ∧ BW w w') := fun w => by rw [← shr_eq a ⟨a0, a1⟩]; exact bitwise_shr a bn hbn a0 a1 w
  have hn0 : (0 : Int) ≤ (bn : Int) := by omega
  have hn1 : (bn : Int) ≤ 63 := by omega
  go_enter Try.func39, Try.ntmps39
  go_wp2_with (first | (go_at_call 48; refine (Hbw.out _).mono ?_; rintro e w1 ⟨rfl, hb⟩; have hz := hb.size; (try simp at hz); have hc0 := fun o => hb.cells (w.heap.size) o (by first | omega | (simp; done) | (simp; omega)); have hf0 := fun o => hb.froz (w.heap.size) o (by first | omega | (simp; done) | (simp; omega)); have hc1 := fun o => hb.cells (w.heap.size + 1) o (by first | omega | (simp; done) | (simp; omega)); have hf1 := fun o => hb.froz (w.heap.size + 1) o (by first | omega | (simp; done) | (simp; omega))) | (go_at_call 22; refine (int_any _ _).mono ?_; rintro e w1 ⟨rfl, hb⟩; have hz := hb.size; (try simp at hz); have hc0 := fun o => hb.cells (w.heap.size) o (by first | omega | (simp; done) | (simp; omega)); have hf0 := fun o => hb.froz (w.heap.size) o (by first | omega | (simp; done) | (simp; omega))))
  exact bodyPost_ret (v := .tuple #[V 1 (a / 2 ^ bn) ⟨#[]⟩, .int .i64 (0)]) (by simp [results, Try.results39, go_sem, *]) rfl ⟨rfl, (by repeat (first | exact BW.refl _ | assumption | apply BW.alloc | apply BW.drew | (refine BW.setCell ?_ (by first | omega | (simp; done) | (simp; omega)) _) | (refine BW.trans ?_ (by assumption))))⟩
set_option maxRecDepth 100000 in
set_option maxHeartbeats 400000 in
theorem ints_shr_lo (a b : Int) (a0 : -9223372036854775808 ≤ a) (a1 : a ≤ 9223372036854775807) (b0 : -9223372036854775808 ≤ b) (b1 : b ≤ 9223372036854775807) (h : b < 0) (w : World) :
    Calls Try.prog 39 #[.string ⟨#[115, 104, 114]⟩, .int .i64 (a), .int .i64 (b)] w fun e w' => e = .returned (.tuple #[V 0 0 ⟨#[]⟩, .int .i64 (5)]) ∧ BW w w' := by
  go_enter Try.func39, Try.ntmps39
  go_wp2_with (first | (go_at_call 22; refine (int_any _ _).mono ?_; rintro e w1 ⟨rfl, hb⟩; have hz := hb.size; (try simp at hz); have hc0 := fun o => hb.cells (w.heap.size) o (by first | omega | (simp; done) | (simp; omega)); have hf0 := fun o => hb.froz (w.heap.size) o (by first | omega | (simp; done) | (simp; omega))))
  exact bodyPost_ret (v := .tuple #[V 0 0 ⟨#[]⟩, .int .i64 (5)]) (by simp [results, Try.results39, go_sem, *]) rfl ⟨rfl, (by repeat (first | exact BW.refl _ | assumption | apply BW.alloc | apply BW.drew | (refine BW.setCell ?_ (by first | omega | (simp; done) | (simp; omega)) _) | (refine BW.trans ?_ (by assumption))))⟩
set_option maxRecDepth 100000 in
set_option maxHeartbeats 400000 in
theorem ints_shr_hi (a b : Int) (a0 : -9223372036854775808 ≤ a) (a1 : a ≤ 9223372036854775807) (b0 : -9223372036854775808 ≤ b) (b1 : b ≤ 9223372036854775807) (h : 63 < b) (w : World) :
    Calls Try.prog 39 #[.string ⟨#[115, 104, 114]⟩, .int .i64 (a), .int .i64 (b)] w fun e w' => e = .returned (.tuple #[V 0 0 ⟨#[]⟩, .int .i64 (5)]) ∧ BW w w' := by
  go_enter Try.func39, Try.ntmps39
  go_wp2_with (first | (go_at_call 22; refine (int_any _ _).mono ?_; rintro e w1 ⟨rfl, hb⟩; have hz := hb.size; (try simp at hz); have hc0 := fun o => hb.cells (w.heap.size) o (by first | omega | (simp; done) | (simp; omega)); have hf0 := fun o => hb.froz (w.heap.size) o (by first | omega | (simp; done) | (simp; omega))))
  exact bodyPost_ret (v := .tuple #[V 0 0 ⟨#[]⟩, .int .i64 (5)]) (by simp [results, Try.results39, go_sem, *]) rfl ⟨rfl, (by repeat (first | exact BW.refl _ | assumption | apply BW.alloc | apply BW.drew | (refine BW.setCell ?_ (by first | omega | (simp; done) | (simp; omega)) _) | (refine BW.trans ?_ (by assumption))))⟩
set_option maxRecDepth 100000 in
set_option maxHeartbeats 400000 in
theorem ints_ushr (a : Int) (bn : Nat) (hbn : bn ≤ 63) (a0 : -9223372036854775808 ≤ a) (a1 : a ≤ 9223372036854775807)  (w : World) :
    Calls Try.prog 39 #[.string ⟨#[117, 115, 104, 114]⟩, .int .i64 (a), .int .i64 ((bn : Int))] w fun e w' => e = .returned (.tuple #[V 1 (wrap64 (IntKind.u64.wrap a / 2 ^ bn)) ⟨#[]⟩, .int .i64 (0)]) ∧ BW w w' := by
  have Hbw : Hid (∀ w : World, Calls Try.prog 48 #[.string ⟨#[117, 115, 104, 114]⟩, .int .i64 (a), .int .i64 ((bn : Int))] w fun e w' => e = .returned (.int .i64 (wrap64 (IntKind.u64.wrap a / 2 ^ bn))) ∧ BW w w') := fun w => by rw [← ushr_eq]; exact bitwise_ushr a bn hbn a0 a1 w
  have hn0 : (0 : Int) ≤ (bn : Int) := by omega
  have hn1 : (bn : Int) ≤ 63 := by omega
  go_enter Try.func39, Try.ntmps39
  go_wp2_with (first | (go_at_call 48; refine (Hbw.out _).mono ?_; rintro e w1 ⟨rfl, hb⟩; have hz := hb.size; (try simp at hz); have hc0 := fun o => hb.cells (w.heap.size) o (by first | omega | (simp; done) | (simp; omega)); have hf0 := fun o => hb.froz (w.heap.size) o (by first | omega | (simp; done) | (simp; omega)); have hc1 := fun o => hb.cells (w.heap.size + 1) o (by first | omega | (simp; done) | (simp; omega)); have hf1 := fun o => hb.froz (w.heap.size + 1) o (by first | omega | (simp; done) | (simp; omega))) | (go_at_call 22; refine (int_any _ _).mono ?_; rintro e w1 ⟨rfl, hb⟩; have hz := hb.size; (try simp at hz); have hc0 := fun o => hb.cells (w.heap.size) o (by first | omega | (simp; done) | (simp; omega)); have hf0 := fun o => hb.froz (w.heap.size) o (by first | omega | (simp; done) | (simp; omega))))
  exact bodyPost_ret (v := .tuple #[V 1 (wrap64 (IntKind.u64.wrap a / 2 ^ bn)) ⟨#[]⟩, .int .i64 (0)]) (by simp [results, Try.results39, go_sem, *]) rfl ⟨rfl, (by repeat (first | exact BW.refl _ | assumption | apply BW.alloc | apply BW.drew | (refine BW.setCell ?_ (by first | omega | (simp; done) | (simp; omega)) _) | (refine BW.trans ?_ (by assumption))))⟩
set_option maxRecDepth 100000 in
set_option maxHeartbeats 400000 in
theorem ints_ushr_lo (a b : Int) (a0 : -9223372036854775808 ≤ a) (a1 : a ≤ 9223372036854775807) (b0 : -9223372036854775808 ≤ b) (b1 : b ≤ 9223372036854775807) (h : b < 0) (w : World) :
    Calls Try.prog 39 #[.string ⟨#[117, 115, 104, 114]⟩, .int .i64 (a), .int .i64 (b)] w fun e w' => e = .returned (.tuple #[V 0 0 ⟨#[]⟩, .int .i64 (5)]) ∧ BW w w' := by
  go_enter Try.func39, Try.ntmps39
  go_wp2_with (first | (go_at_call 22; refine (int_any _ _).mono ?_; rintro e w1 ⟨rfl, hb⟩; have hz := hb.size; (try simp at hz); have hc0 := fun o => hb.cells (w.heap.size) o (by first | omega | (simp; done) | (simp; omega)); have hf0 := fun o => hb.froz (w.heap.size) o (by first | omega | (simp; done) | (simp; omega))))
  exact bodyPost_ret (v := .tuple #[V 0 0 ⟨#[]⟩, .int .i64 (5)]) (by simp [results, Try.results39, go_sem, *]) rfl ⟨rfl, (by repeat (first | exact BW.refl _ | assumption | apply BW.alloc | apply BW.drew | (refine BW.setCell ?_ (by first | omega | (simp; done) | (simp; omega)) _) | (refine BW.trans ?_ (by assumption))))⟩
set_option maxRecDepth 100000 in
set_option maxHeartbeats 400000 in
theorem ints_ushr_hi (a b : Int) (a0 : -9223372036854775808 ≤ a) (a1 : a ≤ 9223372036854775807) (b0 : -9223372036854775808 ≤ b) (b1 : b ≤ 9223372036854775807) (h : 63 < b) (w : World) :
    Calls Try.prog 39 #[.string ⟨#[117, 115, 104, 114]⟩, .int .i64 (a), .int .i64 (b)] w fun e w' => e = .returned (.tuple #[V 0 0 ⟨#[]⟩, .int .i64 (5)]) ∧ BW w w' := by
  go_enter Try.func39, Try.ntmps39
  go_wp2_with (first | (go_at_call 22; refine (int_any _ _).mono ?_; rintro e w1 ⟨rfl, hb⟩; have hz := hb.size; (try simp at hz); have hc0 := fun o => hb.cells (w.heap.size) o (by first | omega | (simp; done) | (simp; omega)); have hf0 := fun o => hb.froz (w.heap.size) o (by first | omega | (simp; done) | (simp; omega))))
  exact bodyPost_ret (v := .tuple #[V 0 0 ⟨#[]⟩, .int .i64 (5)]) (by simp [results, Try.results39, go_sem, *]) rfl ⟨rfl, (by repeat (first | exact BW.refl _ | assumption | apply BW.alloc | apply BW.drew | (refine BW.setCell ?_ (by first | omega | (simp; done) | (simp; omega)) _) | (refine BW.trans ?_ (by assumption))))⟩
end Go.Proofs.Ytbiahgjlgojhdaa
