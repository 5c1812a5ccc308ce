import Derived.Test.YtbiahgjlgojhdaaB4
import Derived.Deep.RegionWith
import Derived.Deep.RegionHeld3
import Derived.Deep.DeepCutAuto
namespace Go.Proofs.Ytbiahgjlgojhdaa
open Go.RowKit
set_option linter.unusedVariables false
set_option maxRecDepth 100000 in
set_option maxHeartbeats 400000 in
theorem sized_i8 (n : Int)  (w : World) :
    Calls Try.prog 29 #[.string ⟨#[105, 56]⟩, .int .i64 n] w fun e w' => e = .returned (.tuple #[.int .i64 (wrap64 (n * 72057594037927936) / 72057594037927936), .bool true]) ∧ BW w w' := by
  go_enter Try.func29, Try.ntmps29
  go_wp2
  go_ret2
  exact ⟨rfl, (by repeat (first | exact BW.refl _ | assumption | apply BW.alloc | apply BW.drew | (refine BW.setCell ?_ (by first | omega | (simp; done) | (simp; omega)) _) | (refine BW.trans ?_ (by assumption))))⟩
set_option maxRecDepth 100000 in
set_option maxHeartbeats 400000 in
theorem sized_i16 (n : Int)  (w : World) :
    Calls Try.prog 29 #[.string ⟨#[105, 49, 54]⟩, .int .i64 n] w fun e w' => e = .returned (.tuple #[.int .i64 (wrap64 (n * 281474976710656) / 281474976710656), .bool true]) ∧ BW w w' := by
  go_enter Try.func29, Try.ntmps29
  go_wp2
  go_ret2
  exact ⟨rfl, (by repeat (first | exact BW.refl _ | assumption | apply BW.alloc | apply BW.drew | (refine BW.setCell ?_ (by first | omega | (simp; done) | (simp; omega)) _) | (refine BW.trans ?_ (by assumption))))⟩
set_option maxRecDepth 100000 in
set_option maxHeartbeats 400000 in
theorem sized_i32 (n : Int)  (w : World) :
    Calls Try.prog 29 #[.string ⟨#[105, 51, 50]⟩, .int .i64 n] w fun e w' => e = .returned (.tuple #[.int .i64 (wrap64 (n * 4294967296) / 4294967296), .bool true]) ∧ BW w w' := by
  go_enter Try.func29, Try.ntmps29
  go_wp2
  go_ret2
  exact ⟨rfl, (by repeat (first | exact BW.refl _ | assumption | apply BW.alloc | apply BW.drew | (refine BW.setCell ?_ (by first | omega | (simp; done) | (simp; omega)) _) | (refine BW.trans ?_ (by assumption))))⟩
set_option maxRecDepth 100000 in
set_option maxHeartbeats 400000 in
theorem sized_u8 (n : Int)  (w : World) :
    Calls Try.prog 29 #[.string ⟨#[117, 56]⟩, .int .i64 n] w fun e w' => e = .returned (.tuple #[.int .i64 (bits .and .i64 n 255), .bool true]) ∧ BW w w' := by
  go_enter Try.func29, Try.ntmps29
  go_wp2
  go_region_held3 (fun w' => w'.cell? ⟨w.heap.size, 0, none⟩ = some (.int .i64 n)) (go_keep) (fail)
  go_wp2
  go_ret2
  exact ⟨rfl, (by repeat (first | exact BW.refl _ | assumption | apply BW.alloc | apply BW.drew | (refine BW.setCell ?_ (by first | omega | (simp; done) | (simp; omega)) _) | (refine BW.trans ?_ (by assumption))))⟩
set_option maxRecDepth 100000 in
set_option maxHeartbeats 400000 in
theorem sized_u16 (n : Int)  (w : World) :
    Calls Try.prog 29 #[.string ⟨#[117, 49, 54]⟩, .int .i64 n] w fun e w' => e = .returned (.tuple #[.int .i64 (bits .and .i64 n 65535), .bool true]) ∧ BW w w' := by
  go_enter Try.func29, Try.ntmps29
  go_wp2
  go_region_held3 (fun w' => w'.cell? ⟨w.heap.size, 0, none⟩ = some (.int .i64 n)) (go_keep) (fail)
  go_wp2
  go_ret2
  exact ⟨rfl, (by repeat (first | exact BW.refl _ | assumption | apply BW.alloc | apply BW.drew | (refine BW.setCell ?_ (by first | omega | (simp; done) | (simp; omega)) _) | (refine BW.trans ?_ (by assumption))))⟩
set_option maxRecDepth 100000 in
set_option maxHeartbeats 400000 in
theorem sized_u32 (n : Int)  (w : World) :
    Calls Try.prog 29 #[.string ⟨#[117, 51, 50]⟩, .int .i64 n] w fun e w' => e = .returned (.tuple #[.int .i64 (bits .and .i64 n 4294967295), .bool true]) ∧ BW w w' := by
  go_enter Try.func29, Try.ntmps29
  go_wp2
  go_region_held3 (fun w' => w'.cell? ⟨w.heap.size, 0, none⟩ = some (.int .i64 n)) (go_keep) (fail)
  go_wp2
  go_ret2
  exact ⟨rfl, (by repeat (first | exact BW.refl _ | assumption | apply BW.alloc | apply BW.drew | (refine BW.setCell ?_ (by first | omega | (simp; done) | (simp; omega)) _) | (refine BW.trans ?_ (by assumption))))⟩
set_option maxRecDepth 100000 in
set_option maxHeartbeats 400000 in
theorem sized_no (wd : ByteArray) (n : Int) (n0 : (wd.toList == [105, 56]) = false) (n1 : (wd.toList == [105, 49, 54]) = false) (n2 : (wd.toList == [105, 51, 50]) = false) (n3 : (wd.toList == [117, 56]) = false) (n4 : (wd.toList == [117, 49, 54]) = false) (n5 : (wd.toList == [117, 51, 50]) = false) (w : World) :
    Calls Try.prog 29 #[.string wd, .int .i64 n] w fun e w' => e = .returned (.tuple #[.int .i64 (0), .bool false]) ∧ BW w w' := by
  go_enter Try.func29, Try.ntmps29
  go_wp2
  go_ret2
  exact ⟨rfl, (by repeat (first | exact BW.refl _ | assumption | apply BW.alloc | apply BW.drew | (refine BW.setCell ?_ (by first | omega | (simp; done) | (simp; omega)) _) | (refine BW.trans ?_ (by assumption))))⟩
set_option maxRecDepth 100000 in
set_option maxHeartbeats 400000 in
theorem negative_ok (n : Int) (s : ByteArray) (h : (!decide (wrap64 (0 - n) < 0) == decide (0 < n)) = false) (w : World) :
    Calls Try.prog 26 #[V 1 n s] w fun e w' => e = .returned (.tuple #[V 1 (wrap64 (0 - n)) ⟨#[]⟩, .int .i64 (0)]) ∧ BW w w' := by
  go_enter Try.func26, Try.ntmps26
  go_wp2_with (first | (go_at_call 40; refine (diff_ok 0 n h _).mono ?_; rintro e w1 ⟨rfl, hb⟩; have hz := hb.size; (try simp at hz); have hc0 := fun o => hb.cells (w.heap.size + 1) o (by first | omega | (simp; done) | (simp; omega)); have hf0 := fun o => hb.froz (w.heap.size + 1) o (by first | omega | (simp; done) | (simp; omega))) | (go_at_call 36; refine (number_ok _ _).mono ?_; rintro e w1 ⟨rfl, hb⟩; have hz := hb.size; (try simp at hz); have hc0 := fun o => hb.cells (w.heap.size + 1) o (by first | omega | (simp; done) | (simp; omega)); have hf0 := fun o => hb.froz (w.heap.size + 1) o (by first | omega | (simp; done) | (simp; omega))))
  exact bodyPost_ret (v := .tuple #[V 1 (wrap64 (0 - n)) ⟨#[]⟩, .int .i64 (0)]) (by simp [results, Try.results26, go_sem, *]) rfl ⟨rfl, (by repeat (first | exact BW.refl _ | assumption | apply BW.alloc | apply BW.drew | (refine BW.setCell ?_ (by first | omega | (simp; done) | (simp; omega)) _) | (refine BW.trans ?_ (by assumption))))⟩
set_option maxRecDepth 100000 in
set_option maxHeartbeats 400000 in
theorem negative_no (n : Int) (s : ByteArray) (h : (!decide (wrap64 (0 - n) < 0) == decide (0 < n)) = true) (w : World) :
    Calls Try.prog 26 #[V 1 n s] w fun e w' => e = .returned (.tuple #[V 0 0 ⟨#[]⟩, .int .i64 (3)]) ∧ BW w w' := by
  go_enter Try.func26, Try.ntmps26
  go_wp2_with (first | (go_at_call 40; refine (diff_no 0 n h _).mono ?_; rintro e w1 ⟨rfl, hb⟩; have hz := hb.size; (try simp at hz); have hc0 := fun o => hb.cells (w.heap.size + 1) o (by first | omega | (simp; done) | (simp; omega)); have hf0 := fun o => hb.froz (w.heap.size + 1) o (by first | omega | (simp; done) | (simp; omega))) | (go_at_call 36; refine (number_err _ _ (by decide) _).mono ?_; rintro e w1 ⟨rfl, hb⟩; have hz := hb.size; (try simp at hz); have hc0 := fun o => hb.cells (w.heap.size + 1) o (by first | omega | (simp; done) | (simp; omega)); have hf0 := fun o => hb.froz (w.heap.size + 1) o (by first | omega | (simp; done) | (simp; omega))))
  exact bodyPost_ret (v := .tuple #[V 0 0 ⟨#[]⟩, .int .i64 (3)]) (by simp [results, Try.results26, go_sem, *]) rfl ⟨rfl, (by repeat (first | exact BW.refl _ | assumption | apply BW.alloc | apply BW.drew | (refine BW.setCell ?_ (by first | omega | (simp; done) | (simp; omega)) _) | (refine BW.trans ?_ (by assumption))))⟩
set_option maxRecDepth 100000 in
set_option maxHeartbeats 400000 in
theorem negative_tag (t n : Int) (s : ByteArray) (h : (t != 1) = true) (w : World) :
    Calls Try.prog 26 #[V t n s] w fun e w' => e = .returned (.tuple #[V 0 0 ⟨#[]⟩, .int .i64 (2)]) ∧ BW w w' := by
  go_enter Try.func26, Try.ntmps26
  go_wp2
  exact bodyPost_ret (v := .tuple #[V 0 0 ⟨#[]⟩, .int .i64 (2)]) (by simp [results, Try.results26, go_sem, *]) rfl ⟨rfl, (by repeat (first | exact BW.refl _ | assumption | apply BW.alloc | apply BW.drew | (refine BW.setCell ?_ (by first | omega | (simp; done) | (simp; omega)) _) | (refine BW.trans ?_ (by assumption))))⟩
set_option maxRecDepth 100000 in
set_option maxHeartbeats 400000 in
theorem opposite_0  (w : World) :
    Calls Try.prog 27 #[V 2 0 ⟨#[]⟩] w fun e w' => e = .returned (.tuple #[V 2 (bN (true)) ⟨#[]⟩, .int .i64 (0)]) ∧ BW w w' := by
  go_enter Try.func27, Try.ntmps27
  have hbf : bN false = 0 := rfl
  go_wp2_with fail
  go_region_held3 (fun w' => w'.cell? ⟨w.heap.size, 0, none⟩ = some (.int .u8 2) ∧ w'.cell? ⟨w.heap.size, 1, none⟩ = some (.int .i64 0) ∧ w'.cell? ⟨w.heap.size, 2, none⟩ = some (.string ⟨#[]⟩)) (go_keep) (first | (go_at_call 23; refine (is_any _ _).mono ?_; rintro e w1 ⟨rfl, hb⟩; have hz := hb.size; (try simp at hz); have hc0 := fun o => hb.cells (w.heap.size) o (by first | omega | (simp; done) | (simp; omega)); have hf0 := fun o => hb.froz (w.heap.size) o (by first | omega | (simp; done) | (simp; omega)); have hc1 := fun o => hb.cells (w.heap.size + 1) o (by first | omega | (simp; done) | (simp; omega)); have hf1 := fun o => hb.froz (w.heap.size + 1) o (by first | omega | (simp; done) | (simp; omega))))
  all_goals go_wp2_with fail
  all_goals exact bodyPost_ret (v := .tuple #[V 2 (bN (true)) ⟨#[]⟩, .int .i64 (0)]) (by simp [results, Try.results27, go_sem, *]) rfl ⟨rfl, (by repeat (first | exact BW.refl _ | assumption | apply BW.alloc | apply BW.drew | (refine BW.setCell ?_ (by first | omega | (simp; done) | (simp; omega)) _) | (refine BW.trans ?_ (by assumption))))⟩
set_option maxRecDepth 100000 in
set_option maxHeartbeats 400000 in
theorem opposite_1  (w : World) :
    Calls Try.prog 27 #[V 2 1 ⟨#[]⟩] w fun e w' => e = .returned (.tuple #[V 2 (bN (false)) ⟨#[]⟩, .int .i64 (0)]) ∧ BW w w' := by
  go_enter Try.func27, Try.ntmps27
  have hbf : bN false = 0 := rfl
  go_wp2_with fail
  go_region_held3 (fun w' => w'.cell? ⟨w.heap.size, 0, none⟩ = some (.int .u8 2) ∧ w'.cell? ⟨w.heap.size, 1, none⟩ = some (.int .i64 1) ∧ w'.cell? ⟨w.heap.size, 2, none⟩ = some (.string ⟨#[]⟩)) (go_keep) (first | (go_at_call 23; refine (is_any _ _).mono ?_; rintro e w1 ⟨rfl, hb⟩; have hz := hb.size; (try simp at hz); have hc0 := fun o => hb.cells (w.heap.size) o (by first | omega | (simp; done) | (simp; omega)); have hf0 := fun o => hb.froz (w.heap.size) o (by first | omega | (simp; done) | (simp; omega)); have hc1 := fun o => hb.cells (w.heap.size + 1) o (by first | omega | (simp; done) | (simp; omega)); have hf1 := fun o => hb.froz (w.heap.size + 1) o (by first | omega | (simp; done) | (simp; omega))))
  all_goals go_wp2_with fail
  all_goals exact bodyPost_ret (v := .tuple #[V 2 (bN (false)) ⟨#[]⟩, .int .i64 (0)]) (by simp [results, Try.results27, go_sem, *]) rfl ⟨rfl, (by repeat (first | exact BW.refl _ | assumption | apply BW.alloc | apply BW.drew | (refine BW.setCell ?_ (by first | omega | (simp; done) | (simp; omega)) _) | (refine BW.trans ?_ (by assumption))))⟩
set_option maxRecDepth 100000 in
set_option maxHeartbeats 400000 in
theorem opposite_tag (t n : Int) (s : ByteArray) (h : (t != 2) = true) (w : World) :
    Calls Try.prog 27 #[V t n s] w fun e w' => e = .returned (.tuple #[V 0 0 ⟨#[]⟩, .int .i64 (2)]) ∧ BW w w' := by
  go_enter Try.func27, Try.ntmps27
  go_wp2
  exact bodyPost_ret (v := .tuple #[V 0 0 ⟨#[]⟩, .int .i64 (2)]) (by simp [results, Try.results27, go_sem, *]) rfl ⟨rfl, (by repeat (first | exact BW.refl _ | assumption | apply BW.alloc | apply BW.drew | (refine BW.setCell ?_ (by first | omega | (simp; done) | (simp; omega)) _) | (refine BW.trans ?_ (by assumption))))⟩
set_option maxRecDepth 100000 in
set_option maxHeartbeats 400000 in
theorem length_ok (n : Int) (s : ByteArray) (h : s.size ≤ 65536) (w : World) :
    Calls Try.prog 28 #[V 3 n s] w fun e w' => e = .returned (.tuple #[V 1 ((s.size : Int)) ⟨#[]⟩, .int .i64 (0)]) ∧ BW w w' := by
  go_enter Try.func28, Try.ntmps28
  go_wp2_with (first | (go_at_call 21; refine (of_any _ _).mono ?_; rintro e w1 ⟨rfl, hb⟩; have hz := hb.size; (try simp at hz); have hc0 := fun o => hb.cells (w.heap.size + 1) o (by first | omega | (simp; done) | (simp; omega)); have hf0 := fun o => hb.froz (w.heap.size + 1) o (by first | omega | (simp; done) | (simp; omega))))
  exact bodyPost_ret (v := .tuple #[V 1 ((s.size : Int)) ⟨#[]⟩, .int .i64 (0)]) (by simp [results, Try.results28, go_sem, *]) rfl ⟨rfl, (by repeat (first | exact BW.refl _ | assumption | apply BW.alloc | apply BW.drew | (refine BW.setCell ?_ (by first | omega | (simp; done) | (simp; omega)) _) | (refine BW.trans ?_ (by assumption))))⟩
set_option maxRecDepth 100000 in
set_option maxHeartbeats 400000 in
theorem length_tag (t n : Int) (s : ByteArray) (h : (t != 3) = true) (w : World) :
    Calls Try.prog 28 #[V t n s] w fun e w' => e = .returned (.tuple #[V 0 0 ⟨#[]⟩, .int .i64 (2)]) ∧ BW w w' := by
  go_enter Try.func28, Try.ntmps28
  go_wp2
  exact bodyPost_ret (v := .tuple #[V 0 0 ⟨#[]⟩, .int .i64 (2)]) (by simp [results, Try.results28, go_sem, *]) rfl ⟨rfl, (by repeat (first | exact BW.refl _ | assumption | apply BW.alloc | apply BW.drew | (refine BW.setCell ?_ (by first | omega | (simp; done) | (simp; omega)) _) | (refine BW.trans ?_ (by assumption))))⟩
def One1 (k : Nat) (ta a t n e : Int) (sa s : ByteArray) : Prop := ∀ w : World, Calls Try.prog k #[V ta a sa] w fun x w' => x = .returned (.tuple #[V t n s, .int .i64 e]) ∧ BW w w'
def Sz (wd : ByteArray) (a n : Int) (b : Bool) : Prop := ∀ w : World, Calls Try.prog 29 #[.string wd, .int .i64 a] w fun x w' => x = .returned (.tuple #[.int .i64 n, .bool b]) ∧ BW w w'
set_option maxRecDepth 100000 in
set_option maxHeartbeats 400000 in
theorem one_neg {ta a t n x : Int} {sa s : ByteArray} (h : One1 26 ta a t n x sa s) (w : World) :
    Calls Try.prog 16 #[.string ⟨#[110, 101, 103]⟩, V ta a sa] w fun e w' => e = .returned (.tuple #[V t n s, .int .i64 (x)]) ∧ BW w w' := by
  go_enter Try.func16, Try.ntmps16
  go_wp2_with (first | (go_at_call 26; refine (h _).mono ?_; rintro e w1 ⟨rfl, hb⟩; have hz := hb.size; (try simp at hz); have hc0 := fun o => hb.cells (w.heap.size + 1) o (by first | omega | (simp; done) | (simp; omega)); have hf0 := fun o => hb.froz (w.heap.size + 1) o (by first | omega | (simp; done) | (simp; omega))))
  exact bodyPost_ret (v := .tuple #[V t n s, .int .i64 (x)]) (by simp [results, Try.results16, go_sem, *]) rfl ⟨rfl, (by repeat (first | exact BW.refl _ | assumption | apply BW.alloc | apply BW.drew | (refine BW.setCell ?_ (by first | omega | (simp; done) | (simp; omega)) _) | (refine BW.trans ?_ (by assumption))))⟩
set_option maxRecDepth 100000 in
set_option maxHeartbeats 400000 in
theorem one_not {ta a t n x : Int} {sa s : ByteArray} (h : One1 27 ta a t n x sa s) (w : World) :
    Calls Try.prog 16 #[.string ⟨#[110, 111, 116]⟩, V ta a sa] w fun e w' => e = .returned (.tuple #[V t n s, .int .i64 (x)]) ∧ BW w w' := by
  go_enter Try.func16, Try.ntmps16
  go_wp2_with (first | (go_at_call 27; refine (h _).mono ?_; rintro e w1 ⟨rfl, hb⟩; have hz := hb.size; (try simp at hz); have hc0 := fun o => hb.cells (w.heap.size + 1) o (by first | omega | (simp; done) | (simp; omega)); have hf0 := fun o => hb.froz (w.heap.size + 1) o (by first | omega | (simp; done) | (simp; omega))))
  exact bodyPost_ret (v := .tuple #[V t n s, .int .i64 (x)]) (by simp [results, Try.results16, go_sem, *]) rfl ⟨rfl, (by repeat (first | exact BW.refl _ | assumption | apply BW.alloc | apply BW.drew | (refine BW.setCell ?_ (by first | omega | (simp; done) | (simp; omega)) _) | (refine BW.trans ?_ (by assumption))))⟩
set_option maxRecDepth 100000 in
set_option maxHeartbeats 400000 in
theorem one_len {ta a t n x : Int} {sa s : ByteArray} (h : One1 28 ta a t n x sa s) (w : World) :
    Calls Try.prog 16 #[.string ⟨#[108, 101, 110]⟩, V ta a sa] w fun e w' => e = .returned (.tuple #[V t n s, .int .i64 (x)]) ∧ BW w w' := by
  go_enter Try.func16, Try.ntmps16
  go_wp2_with (first | (go_at_call 28; refine (h _).mono ?_; rintro e w1 ⟨rfl, hb⟩; have hz := hb.size; (try simp at hz); have hc0 := fun o => hb.cells (w.heap.size + 1) o (by first | omega | (simp; done) | (simp; omega)); have hf0 := fun o => hb.froz (w.heap.size + 1) o (by first | omega | (simp; done) | (simp; omega))))
  exact bodyPost_ret (v := .tuple #[V t n s, .int .i64 (x)]) (by simp [results, Try.results16, go_sem, *]) rfl ⟨rfl, (by repeat (first | exact BW.refl _ | assumption | apply BW.alloc | apply BW.drew | (refine BW.setCell ?_ (by first | omega | (simp; done) | (simp; omega)) _) | (refine BW.trans ?_ (by assumption))))⟩
set_option maxRecDepth 100000 in
set_option maxHeartbeats 400000 in
theorem one_i8 (a n : Int) (sa : ByteArray) (h : Sz ⟨#[105, 56]⟩ a n true) (w : World) :
    Calls Try.prog 16 #[.string ⟨#[105, 56]⟩, V 1 a sa] w fun e w' => e = .returned (.tuple #[V 1 (n) ⟨#[]⟩, .int .i64 (0)]) ∧ BW w w' := by
  go_enter Try.func16, Try.ntmps16
  go_wp2_with (first | (go_at_call 29; refine (h _).mono ?_; rintro e w1 ⟨rfl, hb⟩; have hz := hb.size; (try simp at hz); have hc0 := fun o => hb.cells (w.heap.size) o (by first | omega | (simp; done) | (simp; omega)); have hf0 := fun o => hb.froz (w.heap.size) o (by first | omega | (simp; done) | (simp; omega)); have hc1 := fun o => hb.cells (w.heap.size + 1) o (by first | omega | (simp; done) | (simp; omega)); have hf1 := fun o => hb.froz (w.heap.size + 1) o (by first | omega | (simp; done) | (simp; omega))) | (go_at_call 21; refine (of_any _ _).mono ?_; rintro e w1 ⟨rfl, hb⟩; have hz := hb.size; (try simp at hz); have hc0 := fun o => hb.cells (w.heap.size + 1) o (by first | omega | (simp; done) | (simp; omega)); have hf0 := fun o => hb.froz (w.heap.size + 1) o (by first | omega | (simp; done) | (simp; omega))))
  exact bodyPost_ret (v := .tuple #[V 1 (n) ⟨#[]⟩, .int .i64 (0)]) (by simp [results, Try.results16, go_sem, *]) rfl ⟨rfl, (by repeat (first | exact BW.refl _ | assumption | apply BW.alloc | apply BW.drew | (refine BW.setCell ?_ (by first | omega | (simp; done) | (simp; omega)) _) | (refine BW.trans ?_ (by assumption))))⟩
set_option maxRecDepth 100000 in
set_option maxHeartbeats 400000 in
theorem one_i8_tag (t a n : Int) (sa : ByteArray) (h : Sz ⟨#[105, 56]⟩ a n true) (ht : (t != 1) = true) (w : World) :
    Calls Try.prog 16 #[.string ⟨#[105, 56]⟩, V t a sa] w fun e w' => e = .returned (.tuple #[V 0 0 ⟨#[]⟩, .int .i64 (2)]) ∧ BW w w' := by
  go_enter Try.func16, Try.ntmps16
  go_wp2_with (first | (go_at_call 29; refine (h _).mono ?_; rintro e w1 ⟨rfl, hb⟩; have hz := hb.size; (try simp at hz); have hc0 := fun o => hb.cells (w.heap.size) o (by first | omega | (simp; done) | (simp; omega)); have hf0 := fun o => hb.froz (w.heap.size) o (by first | omega | (simp; done) | (simp; omega)); have hc1 := fun o => hb.cells (w.heap.size + 1) o (by first | omega | (simp; done) | (simp; omega)); have hf1 := fun o => hb.froz (w.heap.size + 1) o (by first | omega | (simp; done) | (simp; omega))))
  exact bodyPost_ret (v := .tuple #[V 0 0 ⟨#[]⟩, .int .i64 (2)]) (by simp [results, Try.results16, go_sem, *]) rfl ⟨rfl, (by repeat (first | exact BW.refl _ | assumption | apply BW.alloc | apply BW.drew | (refine BW.setCell ?_ (by first | omega | (simp; done) | (simp; omega)) _) | (refine BW.trans ?_ (by assumption))))⟩
set_option maxRecDepth 100000 in
set_option maxHeartbeats 400000 in
theorem one_i16 (a n : Int) (sa : ByteArray) (h : Sz ⟨#[105, 49, 54]⟩ a n true) (w : World) :
    Calls Try.prog 16 #[.string ⟨#[105, 49, 54]⟩, V 1 a sa] w fun e w' => e = .returned (.tuple #[V 1 (n) ⟨#[]⟩, .int .i64 (0)]) ∧ BW w w' := by
  go_enter Try.func16, Try.ntmps16
  go_wp2_with (first | (go_at_call 29; refine (h _).mono ?_; rintro e w1 ⟨rfl, hb⟩; have hz := hb.size; (try simp at hz); have hc0 := fun o => hb.cells (w.heap.size) o (by first | omega | (simp; done) | (simp; omega)); have hf0 := fun o => hb.froz (w.heap.size) o (by first | omega | (simp; done) | (simp; omega)); have hc1 := fun o => hb.cells (w.heap.size + 1) o (by first | omega | (simp; done) | (simp; omega)); have hf1 := fun o => hb.froz (w.heap.size + 1) o (by first | omega | (simp; done) | (simp; omega))) | (go_at_call 21; refine (of_any _ _).mono ?_; rintro e w1 ⟨rfl, hb⟩; have hz := hb.size; (try simp at hz); have hc0 := fun o => hb.cells (w.heap.size + 1) o (by first | omega | (simp; done) | (simp; omega)); have hf0 := fun o => hb.froz (w.heap.size + 1) o (by first | omega | (simp; done) | (simp; omega))))
  exact bodyPost_ret (v := .tuple #[V 1 (n) ⟨#[]⟩, .int .i64 (0)]) (by simp [results, Try.results16, go_sem, *]) rfl ⟨rfl, (by repeat (first | exact BW.refl _ | assumption | apply BW.alloc | apply BW.drew | (refine BW.setCell ?_ (by first | omega | (simp; done) | (simp; omega)) _) | (refine BW.trans ?_ (by assumption))))⟩
set_option maxRecDepth 100000 in
set_option maxHeartbeats 400000 in
theorem one_i16_tag (t a n : Int) (sa : ByteArray) (h : Sz ⟨#[105, 49, 54]⟩ a n true) (ht : (t != 1) = true) (w : World) :
    Calls Try.prog 16 #[.string ⟨#[105, 49, 54]⟩, V t a sa] w fun e w' => e = .returned (.tuple #[V 0 0 ⟨#[]⟩, .int .i64 (2)]) ∧ BW w w' := by
  go_enter Try.func16, Try.ntmps16
  go_wp2_with (first | (go_at_call 29; refine (h _).mono ?_; rintro e w1 ⟨rfl, hb⟩; have hz := hb.size; (try simp at hz); have hc0 := fun o => hb.cells (w.heap.size) o (by first | omega | (simp; done) | (simp; omega)); have hf0 := fun o => hb.froz (w.heap.size) o (by first | omega | (simp; done) | (simp; omega)); have hc1 := fun o => hb.cells (w.heap.size + 1) o (by first | omega | (simp; done) | (simp; omega)); have hf1 := fun o => hb.froz (w.heap.size + 1) o (by first | omega | (simp; done) | (simp; omega))))
  exact bodyPost_ret (v := .tuple #[V 0 0 ⟨#[]⟩, .int .i64 (2)]) (by simp [results, Try.results16, go_sem, *]) rfl ⟨rfl, (by repeat (first | exact BW.refl _ | assumption | apply BW.alloc | apply BW.drew | (refine BW.setCell ?_ (by first | omega | (simp; done) | (simp; omega)) _) | (refine BW.trans ?_ (by assumption))))⟩
set_option maxRecDepth 100000 in
set_option maxHeartbeats 400000 in
theorem one_i32 (a n : Int) (sa : ByteArray) (h : Sz ⟨#[105, 51, 50]⟩ a n true) (w : World) :
    Calls Try.prog 16 #[.string ⟨#[105, 51, 50]⟩, V 1 a sa] w fun e w' => e = .returned (.tuple #[V 1 (n) ⟨#[]⟩, .int .i64 (0)]) ∧ BW w w' := by
  go_enter Try.func16, Try.ntmps16
  go_wp2_with (first | (go_at_call 29; refine (h _).mono ?_; rintro e w1 ⟨rfl, hb⟩; have hz := hb.size; (try simp at hz); have hc0 := fun o => hb.cells (w.heap.size) o (by first | omega | (simp; done) | (simp; omega)); have hf0 := fun o => hb.froz (w.heap.size) o (by first | omega | (simp; done) | (simp; omega)); have hc1 := fun o => hb.cells (w.heap.size + 1) o (by first | omega | (simp; done) | (simp; omega)); have hf1 := fun o => hb.froz (w.heap.size + 1) o (by first | omega | (simp; done) | (simp; omega))) | (go_at_call 21; refine (of_any _ _).mono ?_; rintro e w1 ⟨rfl, hb⟩; have hz := hb.size; (try simp at hz); have hc0 := fun o => hb.cells (w.heap.size + 1) o (by first | omega | (simp; done) | (simp; omega)); have hf0 := fun o => hb.froz (w.heap.size + 1) o (by first | omega | (simp; done) | (simp; omega))))
  exact bodyPost_ret (v := .tuple #[V 1 (n) ⟨#[]⟩, .int .i64 (0)]) (by simp [results, Try.results16, go_sem, *]) rfl ⟨rfl, (by repeat (first | exact BW.refl _ | assumption | apply BW.alloc | apply BW.drew | (refine BW.setCell ?_ (by first | omega | (simp; done) | (simp; omega)) _) | (refine BW.trans ?_ (by assumption))))⟩
set_option maxRecDepth 100000 in
set_option maxHeartbeats 400000 in
theorem one_i32_tag (t a n : Int) (sa : ByteArray) (h : Sz ⟨#[105, 51, 50]⟩ a n true) (ht : (t != 1) = true) (w : World) :
    Calls Try.prog 16 #[.string ⟨#[105, 51, 50]⟩, V t a sa] w fun e w' => e = .returned (.tuple #[V 0 0 ⟨#[]⟩, .int .i64 (2)]) ∧ BW w w' := by
  go_enter Try.func16, Try.ntmps16
  go_wp2_with (first | (go_at_call 29; refine (h _).mono ?_; rintro e w1 ⟨rfl, hb⟩; have hz := hb.size; (try simp at hz); have hc0 := fun o => hb.cells (w.heap.size) o (by first | omega | (simp; done) | (simp; omega)); have hf0 := fun o => hb.froz (w.heap.size) o (by first | omega | (simp; done) | (simp; omega)); have hc1 := fun o => hb.cells (w.heap.size + 1) o (by first | omega | (simp; done) | (simp; omega)); have hf1 := fun o => hb.froz (w.heap.size + 1) o (by first | omega | (simp; done) | (simp; omega))))
  exact bodyPost_ret (v := .tuple #[V 0 0 ⟨#[]⟩, .int .i64 (2)]) (by simp [results, Try.results16, go_sem, *]) rfl ⟨rfl, (by repeat (first | exact BW.refl _ | assumption | apply BW.alloc | apply BW.drew | (refine BW.setCell ?_ (by first | omega | (simp; done) | (simp; omega)) _) | (refine BW.trans ?_ (by assumption))))⟩
set_option maxRecDepth 100000 in
set_option maxHeartbeats 400000 in
theorem one_u8 (a n : Int) (sa : ByteArray) (h : Sz ⟨#[117, 56]⟩ a n true) (w : World) :
    Calls Try.prog 16 #[.string ⟨#[117, 56]⟩, V 1 a sa] w fun e w' => e = .returned (.tuple #[V 1 (n) ⟨#[]⟩, .int .i64 (0)]) ∧ BW w w' := by
  go_enter Try.func16, Try.ntmps16
  go_wp2_with (first | (go_at_call 29; refine (h _).mono ?_; rintro e w1 ⟨rfl, hb⟩; have hz := hb.size; (try simp at hz); have hc0 := fun o => hb.cells (w.heap.size) o (by first | omega | (simp; done) | (simp; omega)); have hf0 := fun o => hb.froz (w.heap.size) o (by first | omega | (simp; done) | (simp; omega)); have hc1 := fun o => hb.cells (w.heap.size + 1) o (by first | omega | (simp; done) | (simp; omega)); have hf1 := fun o => hb.froz (w.heap.size + 1) o (by first | omega | (simp; done) | (simp; omega))) | (go_at_call 21; refine (of_any _ _).mono ?_; rintro e w1 ⟨rfl, hb⟩; have hz := hb.size; (try simp at hz); have hc0 := fun o => hb.cells (w.heap.size + 1) o (by first | omega | (simp; done) | (simp; omega)); have hf0 := fun o => hb.froz (w.heap.size + 1) o (by first | omega | (simp; done) | (simp; omega))))
  exact bodyPost_ret (v := .tuple #[V 1 (n) ⟨#[]⟩, .int .i64 (0)]) (by simp [results, Try.results16, go_sem, *]) rfl ⟨rfl, (by repeat (first | exact BW.refl _ | assumption | apply BW.alloc | apply BW.drew | (refine BW.setCell ?_ (by first | omega | (simp; done) | (simp; omega)) _) | (refine BW.trans ?_ (by assumption))))⟩
set_option maxRecDepth 100000 in
set_option maxHeartbeats 400000 in
theorem one_u8_tag (t a n : Int) (sa : ByteArray) (h : Sz ⟨#[117, 56]⟩ a n true) (ht : (t != 1) = true) (w : World) :
    Calls Try.prog 16 #[.string ⟨#[117, 56]⟩, V t a sa] w fun e w' => e = .returned (.tuple #[V 0 0 ⟨#[]⟩, .int .i64 (2)]) ∧ BW w w' := by
  go_enter Try.func16, Try.ntmps16
  go_wp2_with (first | (go_at_call 29; refine (h _).mono ?_; rintro e w1 ⟨rfl, hb⟩; have hz := hb.size; (try simp at hz); have hc0 := fun o => hb.cells (w.heap.size) o (by first | omega | (simp; done) | (simp; omega)); have hf0 := fun o => hb.froz (w.heap.size) o (by first | omega | (simp; done) | (simp; omega)); have hc1 := fun o => hb.cells (w.heap.size + 1) o (by first | omega | (simp; done) | (simp; omega)); have hf1 := fun o => hb.froz (w.heap.size + 1) o (by first | omega | (simp; done) | (simp; omega))))
  exact bodyPost_ret (v := .tuple #[V 0 0 ⟨#[]⟩, .int .i64 (2)]) (by simp [results, Try.results16, go_sem, *]) rfl ⟨rfl, (by repeat (first | exact BW.refl _ | assumption | apply BW.alloc | apply BW.drew | (refine BW.setCell ?_ (by first | omega | (simp; done) | (simp; omega)) _) | (refine BW.trans ?_ (by assumption))))⟩
set_option maxRecDepth 100000 in
set_option maxHeartbeats 400000 in
theorem one_u16 (a n : Int) (sa : ByteArray) (h : Sz ⟨#[117, 49, 54]⟩ a n true) (w : World) :
    Calls Try.prog 16 #[.string ⟨#[117, 49, 54]⟩, V 1 a sa] w fun e w' => e = .returned (.tuple #[V 1 (n) ⟨#[]⟩, .int .i64 (0)]) ∧ BW w w' := by
  go_enter Try.func16, Try.ntmps16
  go_wp2_with (first | (go_at_call 29; refine (h _).mono ?_; rintro e w1 ⟨rfl, hb⟩; have hz := hb.size; (try simp at hz); have hc0 := fun o => hb.cells (w.heap.size) o (by first | omega | (simp; done) | (simp; omega)); have hf0 := fun o => hb.froz (w.heap.size) o (by first | omega | (simp; done) | (simp; omega)); have hc1 := fun o => hb.cells (w.heap.size + 1) o (by first | omega | (simp; done) | (simp; omega)); have hf1 := fun o => hb.froz (w.heap.size + 1) o (by first | omega | (simp; done) | (simp; omega))) | (go_at_call 21; refine (of_any _ _).mono ?_; rintro e w1 ⟨rfl, hb⟩; have hz := hb.size; (try simp at hz); have hc0 := fun o => hb.cells (w.heap.size + 1) o (by first | omega | (simp; done) | (simp; omega)); have hf0 := fun o => hb.froz (w.heap.size + 1) o (by first | omega | (simp; done) | (simp; omega))))
  exact bodyPost_ret (v := .tuple #[V 1 (n) ⟨#[]⟩, .int .i64 (0)]) (by simp [results, Try.results16, go_sem, *]) rfl ⟨rfl, (by repeat (first | exact BW.refl _ | assumption | apply BW.alloc | apply BW.drew | (refine BW.setCell ?_ (by first | omega | (simp; done) | (simp; omega)) _) | (refine BW.trans ?_ (by assumption))))⟩
set_option maxRecDepth 100000 in
set_option maxHeartbeats 400000 in
theorem one_u16_tag (t a n : Int) (sa : ByteArray) (h : Sz ⟨#[117, 49, 54]⟩ a n true) (ht : (t != 1) = true) (w : World) :
    Calls Try.prog 16 #[.string ⟨#[117, 49, 54]⟩, V t a sa] w fun e w' => e = .returned (.tuple #[V 0 0 ⟨#[]⟩, .int .i64 (2)]) ∧ BW w w' := by
  go_enter Try.func16, Try.ntmps16
  go_wp2_with (first | (go_at_call 29; refine (h _).mono ?_; rintro e w1 ⟨rfl, hb⟩; have hz := hb.size; (try simp at hz); have hc0 := fun o => hb.cells (w.heap.size) o (by first | omega | (simp; done) | (simp; omega)); have hf0 := fun o => hb.froz (w.heap.size) o (by first | omega | (simp; done) | (simp; omega)); have hc1 := fun o => hb.cells (w.heap.size + 1) o (by first | omega | (simp; done) | (simp; omega)); have hf1 := fun o => hb.froz (w.heap.size + 1) o (by first | omega | (simp; done) | (simp; omega))))
  exact bodyPost_ret (v := .tuple #[V 0 0 ⟨#[]⟩, .int .i64 (2)]) (by simp [results, Try.results16, go_sem, *]) rfl ⟨rfl, (by repeat (first | exact BW.refl _ | assumption | apply BW.alloc | apply BW.drew | (refine BW.setCell ?_ (by first | omega | (simp; done) | (simp; omega)) _) | (refine BW.trans ?_ (by assumption))))⟩
set_option maxRecDepth 100000 in
set_option maxHeartbeats 400000 in
theorem one_u32 (a n : Int) (sa : ByteArray) (h : Sz ⟨#[117, 51, 50]⟩ a n true) (w : World) :
    Calls Try.prog 16 #[.string ⟨#[117, 51, 50]⟩, V 1 a sa] w fun e w' => e = .returned (.tuple #[V 1 (n) ⟨#[]⟩, .int .i64 (0)]) ∧ BW w w' := by
  go_enter Try.func16, Try.ntmps16
  go_wp2_with (first | (go_at_call 29; refine (h _).mono ?_; rintro e w1 ⟨rfl, hb⟩; have hz := hb.size; (try simp at hz); have hc0 := fun o => hb.cells (w.heap.size) o (by first | omega | (simp; done) | (simp; omega)); have hf0 := fun o => hb.froz (w.heap.size) o (by first | omega | (simp; done) | (simp; omega)); have hc1 := fun o => hb.cells (w.heap.size + 1) o (by first | omega | (simp; done) | (simp; omega)); have hf1 := fun o => hb.froz (w.heap.size + 1) o (by first | omega | (simp; done) | (simp; omega))) | (go_at_call 21; refine (of_any _ _).mono ?_; rintro e w1 ⟨rfl, hb⟩; have hz := hb.size; (try simp at hz); have hc0 := fun o => hb.cells (w.heap.size + 1) o (by first | omega | (simp; done) | (simp; omega)); have hf0 := fun o => hb.froz (w.heap.size + 1) o (by first | omega | (simp; done) | (simp; omega))))
  exact bodyPost_ret (v := .tuple #[V 1 (n) ⟨#[]⟩, .int .i64 (0)]) (by simp [results, Try.results16, go_sem, *]) rfl ⟨rfl, (by repeat (first | exact BW.refl _ | assumption | apply BW.alloc | apply BW.drew | (refine BW.setCell ?_ (by first | omega | (simp; done) | (simp; omega)) _) | (refine BW.trans ?_ (by assumption))))⟩
set_option maxRecDepth 100000 in
set_option maxHeartbeats 400000 in
theorem one_u32_tag (t a n : Int) (sa : ByteArray) (h : Sz ⟨#[117, 51, 50]⟩ a n true) (ht : (t != 1) = true) (w : World) :
    Calls Try.prog 16 #[.string ⟨#[117, 51, 50]⟩, V t a sa] w fun e w' => e = .returned (.tuple #[V 0 0 ⟨#[]⟩, .int .i64 (2)]) ∧ BW w w' := by
  go_enter Try.func16, Try.ntmps16
  go_wp2_with (first | (go_at_call 29; refine (h _).mono ?_; rintro e w1 ⟨rfl, hb⟩; have hz := hb.size; (try simp at hz); have hc0 := fun o => hb.cells (w.heap.size) o (by first | omega | (simp; done) | (simp; omega)); have hf0 := fun o => hb.froz (w.heap.size) o (by first | omega | (simp; done) | (simp; omega)); have hc1 := fun o => hb.cells (w.heap.size + 1) o (by first | omega | (simp; done) | (simp; omega)); have hf1 := fun o => hb.froz (w.heap.size + 1) o (by first | omega | (simp; done) | (simp; omega))))
  exact bodyPost_ret (v := .tuple #[V 0 0 ⟨#[]⟩, .int .i64 (2)]) (by simp [results, Try.results16, go_sem, *]) rfl ⟨rfl, (by repeat (first | exact BW.refl _ | assumption | apply BW.alloc | apply BW.drew | (refine BW.setCell ?_ (by first | omega | (simp; done) | (simp; omega)) _) | (refine BW.trans ?_ (by assumption))))⟩
set_option maxRecDepth 100000 in
set_option maxHeartbeats 400000 in
theorem one_none (wd : ByteArray) (t a : Int) (sa : ByteArray) (h : Sz wd a 0 false) (n0 : (wd.toList == [110, 101, 103]) = false) (n1 : (wd.toList == [110, 111, 116]) = false) (n2 : (wd.toList == [108, 101, 110]) = false) (w : World) :
    Calls Try.prog 16 #[.string wd, V t a sa] w fun e w' => e = .returned (.tuple #[V 0 0 ⟨#[]⟩, .int .i64 (1)]) ∧ BW w w' := by
  go_enter Try.func16, Try.ntmps16
  go_wp2_with (first | (go_at_call 29; refine (h _).mono ?_; rintro e w1 ⟨rfl, hb⟩; have hz := hb.size; (try simp at hz); have hc0 := fun o => hb.cells (w.heap.size) o (by first | omega | (simp; done) | (simp; omega)); have hf0 := fun o => hb.froz (w.heap.size) o (by first | omega | (simp; done) | (simp; omega)); have hc1 := fun o => hb.cells (w.heap.size + 1) o (by first | omega | (simp; done) | (simp; omega)); have hf1 := fun o => hb.froz (w.heap.size + 1) o (by first | omega | (simp; done) | (simp; omega))))
  exact bodyPost_ret (v := .tuple #[V 0 0 ⟨#[]⟩, .int .i64 (1)]) (by simp [results, Try.results16, go_sem, *]) rfl ⟨rfl, (by repeat (first | exact BW.refl _ | assumption | apply BW.alloc | apply BW.drew | (refine BW.setCell ?_ (by first | omega | (simp; done) | (simp; omega)) _) | (refine BW.trans ?_ (by assumption))))⟩
end Go.Proofs.Ytbiahgjlgojhdaa
