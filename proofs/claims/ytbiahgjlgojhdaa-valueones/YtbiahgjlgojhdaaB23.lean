import Derived.Test.YtbiahgjlgojhdaaB21
import Derived.Deep.RegionWith
import Derived.Deep.RegionHeld3
import Derived.Deep.DeepCutAuto
namespace Go.Proofs.Ytbiahgjlgojhdaa
open Go.RowKit
set_option linter.unusedVariables false
set_option maxRecDepth 100000 in
set_option maxHeartbeats 400000 in
theorem vm_big (t n : Int) (s : ByteArray) (h : 7 < t) (w : World) :
    Calls Try.prog 11 #[V t (n) s] w fun e w' => e = .returned (.bool false) ∧ BW w w' := by
  go_enter Try.func11, Try.ntmps11
  go_wp2
  all_goals (go_ret; exact ⟨rfl, (by repeat (first | exact BW.refl _ | assumption | apply BW.alloc | apply BW.drew | (refine BW.setCell ?_ (by first | omega | (simp; done) | (simp; omega)) _) | (refine BW.trans ?_ (by assumption))))⟩)
set_option maxRecDepth 100000 in
set_option maxHeartbeats 400000 in
theorem vm_0y  (w : World) :
    Calls Try.prog 11 #[V 0 (0) ⟨#[]⟩] w fun e w' => e = .returned (.bool true) ∧ BW w w' := by
  go_enter Try.func11, Try.ntmps11
  go_wp2
  all_goals (go_ret; exact ⟨rfl, (by repeat (first | exact BW.refl _ | assumption | apply BW.alloc | apply BW.drew | (refine BW.setCell ?_ (by first | omega | (simp; done) | (simp; omega)) _) | (refine BW.trans ?_ (by assumption))))⟩)
set_option maxRecDepth 100000 in
set_option maxHeartbeats 400000 in
theorem vm_0n (n : Int) (h : (n == 0) = false) (w : World) :
    Calls Try.prog 11 #[V 0 (n) ⟨#[]⟩] w fun e w' => e = .returned (.bool false) ∧ BW w w' := by
  go_enter Try.func11, Try.ntmps11
  go_wp2
  all_goals (go_ret; exact ⟨rfl, (by repeat (first | exact BW.refl _ | assumption | apply BW.alloc | apply BW.drew | (refine BW.setCell ?_ (by first | omega | (simp; done) | (simp; omega)) _) | (refine BW.trans ?_ (by assumption))))⟩)
set_option maxRecDepth 100000 in
set_option maxHeartbeats 400000 in
theorem vm_0s (n : Int) (s : ByteArray) (h1 : s.toList.isEmpty = false) (h2 : ¬ s.toList = []) (h3 : (s.toList == []) = false) (w : World) :
    Calls Try.prog 11 #[V 0 (n) s] w fun e w' => e = .returned (.bool false) ∧ BW w w' := by
  go_enter Try.func11, Try.ntmps11
  go_wp2
  all_goals (go_ret; exact ⟨rfl, (by repeat (first | exact BW.refl _ | assumption | apply BW.alloc | apply BW.drew | (refine BW.setCell ?_ (by first | omega | (simp; done) | (simp; omega)) _) | (refine BW.trans ?_ (by assumption))))⟩)
set_option maxRecDepth 100000 in
set_option maxHeartbeats 400000 in
theorem vm_1y (n : Int) (w : World) :
    Calls Try.prog 11 #[V 1 (n) ⟨#[]⟩] w fun e w' => e = .returned (.bool true) ∧ BW w w' := by
  go_enter Try.func11, Try.ntmps11
  go_wp2_with fail
  go_region_held3 (fun w' => w'.cell? ⟨w.heap.size, 0, none⟩ = some (.int .u8 1) ∧ w'.cell? ⟨w.heap.size, 1, none⟩ = some (.int .i64 (n)) ∧ w'.cell? ⟨w.heap.size, 2, none⟩ = some (.string ⟨#[]⟩)) (go_keep) (first | (go_at_call 21; refine (of_any _ _).mono ?_; rintro e v1 ⟨rfl, hb⟩; have hz := hb.size; (try simp at hz); have hc0 := fun o => hb.cells w.heap.size o (by first | omega | (simp; done) | (simp; omega))))
  all_goals go_wp2_with fail
  all_goals (go_ret; exact ⟨rfl, (by repeat (first | exact BW.refl _ | assumption | apply BW.alloc | apply BW.drew | (refine BW.setCell ?_ (by first | omega | (simp; done) | (simp; omega)) _) | (refine BW.trans ?_ (by assumption))))⟩)
set_option maxRecDepth 100000 in
set_option maxHeartbeats 400000 in
theorem vm_1s (n : Int) (s : ByteArray) (h1 : s.toList.isEmpty = false) (h2 : ¬ s.toList = []) (h3 : (s.toList == []) = false) (w : World) :
    Calls Try.prog 11 #[V 1 (n) s] w fun e w' => e = .returned (.bool false) ∧ BW w w' := by
  go_enter Try.func11, Try.ntmps11
  go_wp2_with fail
  go_region_held3 (fun w' => w'.cell? ⟨w.heap.size, 0, none⟩ = some (.int .u8 1) ∧ w'.cell? ⟨w.heap.size, 1, none⟩ = some (.int .i64 (n)) ∧ w'.cell? ⟨w.heap.size, 2, none⟩ = some (.string s)) (go_keep) (first | (go_at_call 21; refine (of_any _ _).mono ?_; rintro e v1 ⟨rfl, hb⟩; have hz := hb.size; (try simp at hz); have hc0 := fun o => hb.cells w.heap.size o (by first | omega | (simp; done) | (simp; omega))))
  all_goals go_wp2_with fail
  all_goals (go_ret; exact ⟨rfl, (by repeat (first | exact BW.refl _ | assumption | apply BW.alloc | apply BW.drew | (refine BW.setCell ?_ (by first | omega | (simp; done) | (simp; omega)) _) | (refine BW.trans ?_ (by assumption))))⟩)
set_option maxRecDepth 100000 in
set_option maxHeartbeats 400000 in
theorem vm_2a  (w : World) :
    Calls Try.prog 11 #[V 2 (0) ⟨#[]⟩] w fun e w' => e = .returned (.bool true) ∧ BW w w' := by
  have hbf : bN false = 0 := rfl
  have hbt : bN true = 1 := rfl
  go_enter Try.func11, Try.ntmps11
  go_wp2_with fail
  first | (go_region_with (first | (go_at_call 23; refine (is_any _ _).mono ?_; rintro e v1 ⟨rfl, hb⟩; have hz := hb.size; (try simp at hz); have hc0 := fun o => hb.cells w.heap.size o (by first | omega | (simp; done) | (simp; omega))))) | fail
  all_goals go_wp2_with fail
  all_goals (go_ret; exact ⟨rfl, (by repeat (first | exact BW.refl _ | assumption | apply BW.alloc | apply BW.drew | (refine BW.setCell ?_ (by first | omega | (simp; done) | (simp; omega)) _) | (refine BW.trans ?_ (by assumption))))⟩)
set_option maxRecDepth 100000 in
set_option maxHeartbeats 400000 in
theorem vm_2b  (w : World) :
    Calls Try.prog 11 #[V 2 (1) ⟨#[]⟩] w fun e w' => e = .returned (.bool true) ∧ BW w w' := by
  have hbf : bN false = 0 := rfl
  have hbt : bN true = 1 := rfl
  go_enter Try.func11, Try.ntmps11
  go_wp2_with fail
  go_region_held3 (fun w' => w'.cell? ⟨w.heap.size, 0, none⟩ = some (.int .u8 2) ∧ w'.cell? ⟨w.heap.size, 1, none⟩ = some (.int .i64 (1)) ∧ w'.cell? ⟨w.heap.size, 2, none⟩ = some (.string ⟨#[]⟩)) (go_keep) (first | (go_at_call 23; refine (is_any _ _).mono ?_; rintro e v1 ⟨rfl, hb⟩; have hz := hb.size; (try simp at hz); have hc0 := fun o => hb.cells w.heap.size o (by first | omega | (simp; done) | (simp; omega))))
  all_goals go_wp2_with fail
  all_goals (go_ret; exact ⟨rfl, (by repeat (first | exact BW.refl _ | assumption | apply BW.alloc | apply BW.drew | (refine BW.setCell ?_ (by first | omega | (simp; done) | (simp; omega)) _) | (refine BW.trans ?_ (by assumption))))⟩)
set_option maxRecDepth 100000 in
set_option maxHeartbeats 400000 in
theorem vm_2n (n : Int) (h : (n == 0) = false) (h' : (n == 1) = false) (w : World) :
    Calls Try.prog 11 #[V 2 (n) ⟨#[]⟩] w fun e w' => e = .returned (.bool false) ∧ BW w w' := by
  have hbf : bN false = 0 := rfl
  have hbt : bN true = 1 := rfl
  go_enter Try.func11, Try.ntmps11
  go_wp2_with fail
  go_region_held3 (fun w' => w'.cell? ⟨w.heap.size, 0, none⟩ = some (.int .u8 2) ∧ w'.cell? ⟨w.heap.size, 1, none⟩ = some (.int .i64 (n)) ∧ w'.cell? ⟨w.heap.size, 2, none⟩ = some (.string ⟨#[]⟩)) (go_keep) (first | (go_at_call 23; refine (is_any _ _).mono ?_; rintro e v1 ⟨rfl, hb⟩; have hz := hb.size; (try simp at hz); have hc0 := fun o => hb.cells w.heap.size o (by first | omega | (simp; done) | (simp; omega))))
  all_goals go_wp2_with fail
  all_goals (go_ret; exact ⟨rfl, (by repeat (first | exact BW.refl _ | assumption | apply BW.alloc | apply BW.drew | (refine BW.setCell ?_ (by first | omega | (simp; done) | (simp; omega)) _) | (refine BW.trans ?_ (by assumption))))⟩)
set_option maxRecDepth 100000 in
set_option maxHeartbeats 400000 in
theorem vm_2s (n : Int) (s : ByteArray) (h1 : s.toList.isEmpty = false) (h2 : ¬ s.toList = []) (h3 : (s.toList == []) = false) (w : World) :
    Calls Try.prog 11 #[V 2 (n) s] w fun e w' => e = .returned (.bool false) ∧ BW w w' := by
  have hbf : bN false = 0 := rfl
  have hbt : bN true = 1 := rfl
  go_enter Try.func11, Try.ntmps11
  go_wp2_with fail
  go_region_held3 (fun w' => w'.cell? ⟨w.heap.size, 0, none⟩ = some (.int .u8 2) ∧ w'.cell? ⟨w.heap.size, 1, none⟩ = some (.int .i64 (n)) ∧ w'.cell? ⟨w.heap.size, 2, none⟩ = some (.string s)) (go_keep) (first | (go_at_call 23; refine (is_any _ _).mono ?_; rintro e v1 ⟨rfl, hb⟩; have hz := hb.size; (try simp at hz); have hc0 := fun o => hb.cells w.heap.size o (by first | omega | (simp; done) | (simp; omega))))
  all_goals go_wp2_with fail
  all_goals (go_ret; exact ⟨rfl, (by repeat (first | exact BW.refl _ | assumption | apply BW.alloc | apply BW.drew | (refine BW.setCell ?_ (by first | omega | (simp; done) | (simp; omega)) _) | (refine BW.trans ?_ (by assumption))))⟩)
set_option maxRecDepth 100000 in
set_option maxHeartbeats 400000 in
theorem vm_3y (s : ByteArray) (h' : (s.size : Int) ≤ 9223372036854775807) (w : World) :
    Calls Try.prog 11 #[V 3 (0) s] w fun e w' => e = .returned (.bool (decide ((s.size : Int) ≤ 65536))) ∧ BW w w' := by
  go_enter Try.func11, Try.ntmps11
  go_wp2_with fail
  go_region_held3 (fun w' => w'.cell? ⟨w.heap.size, 0, none⟩ = some (.int .u8 3) ∧ w'.cell? ⟨w.heap.size, 1, none⟩ = some (.int .i64 (0)) ∧ w'.cell? ⟨w.heap.size, 2, none⟩ = some (.string s)) (go_keep) (first | (go_at_call 24; refine (text_any _ _).mono ?_; rintro e v1 ⟨rfl, hb⟩; have hz := hb.size; (try simp at hz); have hc0 := fun o => hb.cells w.heap.size o (by first | omega | (simp; done) | (simp; omega))))
  all_goals go_wp2_with fail
  all_goals (go_ret; exact ⟨rfl, (by repeat (first | exact BW.refl _ | assumption | apply BW.alloc | apply BW.drew | (refine BW.setCell ?_ (by first | omega | (simp; done) | (simp; omega)) _) | (refine BW.trans ?_ (by assumption))))⟩)
set_option maxRecDepth 100000 in
set_option maxHeartbeats 400000 in
theorem vm_3n (n : Int) (s : ByteArray) (h : (n == 0) = false) (w : World) :
    Calls Try.prog 11 #[V 3 (n) s] w fun e w' => e = .returned (.bool false) ∧ BW w w' := by
  go_enter Try.func11, Try.ntmps11
  go_wp2_with fail
  first | (go_region_with (first | (go_at_call 24; refine (text_any _ _).mono ?_; rintro e v1 ⟨rfl, hb⟩; have hz := hb.size; (try simp at hz); have hc0 := fun o => hb.cells w.heap.size o (by first | omega | (simp; done) | (simp; omega))))) | fail
  all_goals go_wp2_with fail
  all_goals (go_ret; exact ⟨rfl, (by repeat (first | exact BW.refl _ | assumption | apply BW.alloc | apply BW.drew | (refine BW.setCell ?_ (by first | omega | (simp; done) | (simp; omega)) _) | (refine BW.trans ?_ (by assumption))))⟩)
set_option maxRecDepth 100000 in
set_option maxHeartbeats 400000 in
theorem vm_4y (n : Int) (w : World) :
    Calls Try.prog 11 #[V 4 (n) ⟨#[]⟩] w fun e w' => e = .returned (.bool (decide (0 ≤ n))) ∧ BW w w' := by
  go_enter Try.func11, Try.ntmps11
  go_wp2
  all_goals (go_ret; exact ⟨rfl, (by repeat (first | exact BW.refl _ | assumption | apply BW.alloc | apply BW.drew | (refine BW.setCell ?_ (by first | omega | (simp; done) | (simp; omega)) _) | (refine BW.trans ?_ (by assumption))))⟩)
set_option maxRecDepth 100000 in
set_option maxHeartbeats 400000 in
theorem vm_4s (n : Int) (s : ByteArray) (h1 : s.toList.isEmpty = false) (h2 : ¬ s.toList = []) (h3 : (s.toList == []) = false) (w : World) :
    Calls Try.prog 11 #[V 4 (n) s] w fun e w' => e = .returned (.bool false) ∧ BW w w' := by
  go_enter Try.func11, Try.ntmps11
  go_wp2
  all_goals (go_ret; exact ⟨rfl, (by repeat (first | exact BW.refl _ | assumption | apply BW.alloc | apply BW.drew | (refine BW.setCell ?_ (by first | omega | (simp; done) | (simp; omega)) _) | (refine BW.trans ?_ (by assumption))))⟩)
set_option maxRecDepth 100000 in
set_option maxHeartbeats 400000 in
theorem vm_5y (n : Int) (w : World) :
    Calls Try.prog 11 #[V 5 (n) ⟨#[]⟩] w fun e w' => e = .returned (.bool (decide (0 ≤ n))) ∧ BW w w' := by
  go_enter Try.func11, Try.ntmps11
  go_wp2
  all_goals (go_ret; exact ⟨rfl, (by repeat (first | exact BW.refl _ | assumption | apply BW.alloc | apply BW.drew | (refine BW.setCell ?_ (by first | omega | (simp; done) | (simp; omega)) _) | (refine BW.trans ?_ (by assumption))))⟩)
set_option maxRecDepth 100000 in
set_option maxHeartbeats 400000 in
theorem vm_5s (n : Int) (s : ByteArray) (h1 : s.toList.isEmpty = false) (h2 : ¬ s.toList = []) (h3 : (s.toList == []) = false) (w : World) :
    Calls Try.prog 11 #[V 5 (n) s] w fun e w' => e = .returned (.bool false) ∧ BW w w' := by
  go_enter Try.func11, Try.ntmps11
  go_wp2
  all_goals (go_ret; exact ⟨rfl, (by repeat (first | exact BW.refl _ | assumption | apply BW.alloc | apply BW.drew | (refine BW.setCell ?_ (by first | omega | (simp; done) | (simp; omega)) _) | (refine BW.trans ?_ (by assumption))))⟩)
set_option maxRecDepth 100000 in
set_option maxHeartbeats 400000 in
theorem vm_6y (n : Int) (w : World) :
    Calls Try.prog 11 #[V 6 (n) ⟨#[]⟩] w fun e w' => e = .returned (.bool (decide (0 ≤ n))) ∧ BW w w' := by
  go_enter Try.func11, Try.ntmps11
  go_wp2
  all_goals (go_ret; exact ⟨rfl, (by repeat (first | exact BW.refl _ | assumption | apply BW.alloc | apply BW.drew | (refine BW.setCell ?_ (by first | omega | (simp; done) | (simp; omega)) _) | (refine BW.trans ?_ (by assumption))))⟩)
set_option maxRecDepth 100000 in
set_option maxHeartbeats 400000 in
theorem vm_6s (n : Int) (s : ByteArray) (h1 : s.toList.isEmpty = false) (h2 : ¬ s.toList = []) (h3 : (s.toList == []) = false) (w : World) :
    Calls Try.prog 11 #[V 6 (n) s] w fun e w' => e = .returned (.bool false) ∧ BW w w' := by
  go_enter Try.func11, Try.ntmps11
  go_wp2
  all_goals (go_ret; exact ⟨rfl, (by repeat (first | exact BW.refl _ | assumption | apply BW.alloc | apply BW.drew | (refine BW.setCell ?_ (by first | omega | (simp; done) | (simp; omega)) _) | (refine BW.trans ?_ (by assumption))))⟩)
set_option maxRecDepth 100000 in
set_option maxHeartbeats 400000 in
theorem vm_7y (n : Int) (w : World) :
    Calls Try.prog 11 #[V 7 (n) ⟨#[]⟩] w fun e w' => e = .returned (.bool (decide (0 ≤ n))) ∧ BW w w' := by
  go_enter Try.func11, Try.ntmps11
  go_wp2
  all_goals (go_ret; exact ⟨rfl, (by repeat (first | exact BW.refl _ | assumption | apply BW.alloc | apply BW.drew | (refine BW.setCell ?_ (by first | omega | (simp; done) | (simp; omega)) _) | (refine BW.trans ?_ (by assumption))))⟩)
set_option maxRecDepth 100000 in
set_option maxHeartbeats 400000 in
theorem vm_7s (n : Int) (s : ByteArray) (h1 : s.toList.isEmpty = false) (h2 : ¬ s.toList = []) (h3 : (s.toList == []) = false) (w : World) :
    Calls Try.prog 11 #[V 7 (n) s] w fun e w' => e = .returned (.bool false) ∧ BW w w' := by
  go_enter Try.func11, Try.ntmps11
  go_wp2
  all_goals (go_ret; exact ⟨rfl, (by repeat (first | exact BW.refl _ | assumption | apply BW.alloc | apply BW.drew | (refine BW.setCell ?_ (by first | omega | (simp; done) | (simp; omega)) _) | (refine BW.trans ?_ (by assumption))))⟩)
set_option maxRecDepth 100000 in
set_option maxHeartbeats 400000 in
theorem low_n (n p : Int) (hp : 0 < p) (hp' : p ≤ 4294967296) (hpz : ¬ p = 0) (h : n.tmod p < 0) (h' : -4294967296 < n.tmod p) (w : World) :
    Calls Try.prog 31 #[.int .i64 n, .int .i64 p] w fun e w' => e = .returned (.int .i64 (n.tmod p + p)) ∧ BW w w' := by
  go_enter Try.func31, Try.ntmps31
  go_wp2
  go_ret
  exact ⟨rfl, (by repeat (first | exact BW.refl _ | assumption | apply BW.alloc | apply BW.drew | (refine BW.setCell ?_ (by first | omega | (simp; done) | (simp; omega)) _) | (refine BW.trans ?_ (by assumption))))⟩
set_option maxRecDepth 100000 in
set_option maxHeartbeats 400000 in
theorem low_p (n p : Int) (hp : 0 < p) (hpz : ¬ p = 0) (h : ¬ n.tmod p < 0) (w : World) :
    Calls Try.prog 31 #[.int .i64 n, .int .i64 p] w fun e w' => e = .returned (.int .i64 (n.tmod p)) ∧ BW w w' := by
  go_enter Try.func31, Try.ntmps31
  go_wp2
  go_ret
  exact ⟨rfl, (by repeat (first | exact BW.refl _ | assumption | apply BW.alloc | apply BW.drew | (refine BW.setCell ?_ (by first | omega | (simp; done) | (simp; omega)) _) | (refine BW.trans ?_ (by assumption))))⟩
theorem low_any (n p : Int) (hp : 0 < p) (hp' : p ≤ 4294967296) (w : World) :
    Calls Try.prog 31 #[.int .i64 n, .int .i64 p] w fun e w' => e = .returned (.int .i64 (n % p)) ∧ BW w w' := by
  have e := @Int.tmod_eq_emod n p
  have hl : (n.tmod p).natAbs < p.natAbs := by rw [Int.natAbs_tmod]; exact Nat.mod_lt _ (by omega)
  have h0 := Int.emod_nonneg n (show p ≠ 0 by omega)
  have h1 := Int.emod_lt_of_pos n hp
  by_cases h : n.tmod p < 0
  · have : n % p = n.tmod p + p := by split at e <;> omega
    rw [this]; exact low_n n p hp hp' (by omega) h (by omega) w
  · have : n % p = n.tmod p := by split at e <;> omega
    rw [this]; exact low_p n p hp (by omega) h w
set_option maxRecDepth 100000 in
set_option maxHeartbeats 400000 in
theorem sgn_hi8 (n : Int) (h : 128 ≤ n % 256) (h' : n % 256 < 256) (w : World) :
    Calls Try.prog 30 #[.int .i64 n, .int .i64 256] w fun e w' => e = .returned (.int .i64 (n % 256 - 256)) ∧ BW w w' := by
  go_enter Try.func30, Try.ntmps30
  go_wp2_with (first | (go_at_call 31; refine (low_any _ _ (by decide) (by decide) _).mono ?_; rintro e v1 ⟨rfl, hb⟩))
  go_ret
  exact ⟨rfl, (by repeat (first | exact BW.refl _ | assumption | apply BW.alloc | apply BW.drew | (refine BW.setCell ?_ (by first | omega | (simp; done) | (simp; omega)) _) | (refine BW.trans ?_ (by assumption))))⟩
set_option maxRecDepth 100000 in
set_option maxHeartbeats 400000 in
theorem sgn_lo8 (n : Int) (h : n % 256 < 128) (h' : 0 ≤ n % 256) (w : World) :
    Calls Try.prog 30 #[.int .i64 n, .int .i64 256] w fun e w' => e = .returned (.int .i64 (n % 256)) ∧ BW w w' := by
  go_enter Try.func30, Try.ntmps30
  go_wp2_with (first | (go_at_call 31; refine (low_any _ _ (by decide) (by decide) _).mono ?_; rintro e v1 ⟨rfl, hb⟩))
  go_ret
  exact ⟨rfl, (by repeat (first | exact BW.refl _ | assumption | apply BW.alloc | apply BW.drew | (refine BW.setCell ?_ (by first | omega | (simp; done) | (simp; omega)) _) | (refine BW.trans ?_ (by assumption))))⟩
theorem sgn8 (n : Int) (w : World) : Calls Try.prog 30 #[.int .i64 n, .int .i64 256] w fun e w' => e = .returned (.int .i64 (s8 n)) ∧ BW w w' := by
  rw [s8_eq]
  by_cases h : 128 ≤ n % 256
  · have e : (n + 128) % 256 - 128 = n % 256 - 256 := by omega
    rw [e]; exact sgn_hi8 n h (by omega) w
  · have e : (n + 128) % 256 - 128 = n % 256 := by omega
    rw [e]; exact sgn_lo8 n (by omega) (by omega) w
theorem lowz8 (n : Int) (w : World) : Calls Try.prog 31 #[.int .i64 n, .int .i64 256] w fun e w' => e = .returned (.int .i64 (z8 n)) ∧ BW w w' := by
  rw [z8_eq]; exact low_any n 256 (by decide) (by decide) w
set_option maxRecDepth 100000 in
set_option maxHeartbeats 400000 in
theorem sgn_hi16 (n : Int) (h : 32768 ≤ n % 65536) (h' : n % 65536 < 65536) (w : World) :
    Calls Try.prog 30 #[.int .i64 n, .int .i64 65536] w fun e w' => e = .returned (.int .i64 (n % 65536 - 65536)) ∧ BW w w' := by
  go_enter Try.func30, Try.ntmps30
  go_wp2_with (first | (go_at_call 31; refine (low_any _ _ (by decide) (by decide) _).mono ?_; rintro e v1 ⟨rfl, hb⟩))
  go_ret
  exact ⟨rfl, (by repeat (first | exact BW.refl _ | assumption | apply BW.alloc | apply BW.drew | (refine BW.setCell ?_ (by first | omega | (simp; done) | (simp; omega)) _) | (refine BW.trans ?_ (by assumption))))⟩
set_option maxRecDepth 100000 in
set_option maxHeartbeats 400000 in
theorem sgn_lo16 (n : Int) (h : n % 65536 < 32768) (h' : 0 ≤ n % 65536) (w : World) :
    Calls Try.prog 30 #[.int .i64 n, .int .i64 65536] w fun e w' => e = .returned (.int .i64 (n % 65536)) ∧ BW w w' := by
  go_enter Try.func30, Try.ntmps30
  go_wp2_with (first | (go_at_call 31; refine (low_any _ _ (by decide) (by decide) _).mono ?_; rintro e v1 ⟨rfl, hb⟩))
  go_ret
  exact ⟨rfl, (by repeat (first | exact BW.refl _ | assumption | apply BW.alloc | apply BW.drew | (refine BW.setCell ?_ (by first | omega | (simp; done) | (simp; omega)) _) | (refine BW.trans ?_ (by assumption))))⟩
theorem sgn16 (n : Int) (w : World) : Calls Try.prog 30 #[.int .i64 n, .int .i64 65536] w fun e w' => e = .returned (.int .i64 (s16 n)) ∧ BW w w' := by
  rw [s16_eq]
  by_cases h : 32768 ≤ n % 65536
  · have e : (n + 32768) % 65536 - 32768 = n % 65536 - 65536 := by omega
    rw [e]; exact sgn_hi16 n h (by omega) w
  · have e : (n + 32768) % 65536 - 32768 = n % 65536 := by omega
    rw [e]; exact sgn_lo16 n (by omega) (by omega) w
theorem lowz16 (n : Int) (w : World) : Calls Try.prog 31 #[.int .i64 n, .int .i64 65536] w fun e w' => e = .returned (.int .i64 (z16 n)) ∧ BW w w' := by
  rw [z16_eq]; exact low_any n 65536 (by decide) (by decide) w
set_option maxRecDepth 100000 in
set_option maxHeartbeats 400000 in
theorem sgn_hi32 (n : Int) (h : 2147483648 ≤ n % 4294967296) (h' : n % 4294967296 < 4294967296) (w : World) :
    Calls Try.prog 30 #[.int .i64 n, .int .i64 4294967296] w fun e w' => e = .returned (.int .i64 (n % 4294967296 - 4294967296)) ∧ BW w w' := by
  go_enter Try.func30, Try.ntmps30
  go_wp2_with (first | (go_at_call 31; refine (low_any _ _ (by decide) (by decide) _).mono ?_; rintro e v1 ⟨rfl, hb⟩))
  go_ret
  exact ⟨rfl, (by repeat (first | exact BW.refl _ | assumption | apply BW.alloc | apply BW.drew | (refine BW.setCell ?_ (by first | omega | (simp; done) | (simp; omega)) _) | (refine BW.trans ?_ (by assumption))))⟩
set_option maxRecDepth 100000 in
set_option maxHeartbeats 400000 in
theorem sgn_lo32 (n : Int) (h : n % 4294967296 < 2147483648) (h' : 0 ≤ n % 4294967296) (w : World) :
    Calls Try.prog 30 #[.int .i64 n, .int .i64 4294967296] w fun e w' => e = .returned (.int .i64 (n % 4294967296)) ∧ BW w w' := by
  go_enter Try.func30, Try.ntmps30
  go_wp2_with (first | (go_at_call 31; refine (low_any _ _ (by decide) (by decide) _).mono ?_; rintro e v1 ⟨rfl, hb⟩))
  go_ret
  exact ⟨rfl, (by repeat (first | exact BW.refl _ | assumption | apply BW.alloc | apply BW.drew | (refine BW.setCell ?_ (by first | omega | (simp; done) | (simp; omega)) _) | (refine BW.trans ?_ (by assumption))))⟩
theorem sgn32 (n : Int) (w : World) : Calls Try.prog 30 #[.int .i64 n, .int .i64 4294967296] w fun e w' => e = .returned (.int .i64 (s32 n)) ∧ BW w w' := by
  rw [s32_eq]
  by_cases h : 2147483648 ≤ n % 4294967296
  · have e : (n + 2147483648) % 4294967296 - 2147483648 = n % 4294967296 - 4294967296 := by omega
    rw [e]; exact sgn_hi32 n h (by omega) w
  · have e : (n + 2147483648) % 4294967296 - 2147483648 = n % 4294967296 := by omega
    rw [e]; exact sgn_lo32 n (by omega) (by omega) w
theorem lowz32 (n : Int) (w : World) : Calls Try.prog 31 #[.int .i64 n, .int .i64 4294967296] w fun e w' => e = .returned (.int .i64 (z32 n)) ∧ BW w w' := by
  rw [z32_eq]; exact low_any n 4294967296 (by decide) (by decide) w
end Go.Proofs.Ytbiahgjlgojhdaa
