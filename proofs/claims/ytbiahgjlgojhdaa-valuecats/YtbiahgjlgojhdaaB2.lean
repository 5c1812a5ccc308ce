import Derived.Test.YtbiahgjlgojhdaaB1
namespace Go.Proofs.Ytbiahgjlgojhdaa
open Go.RowKit
set_option linter.unusedVariables false
set_option maxHeartbeats 400000 in
theorem sum_ok (a b : Int) (h : (!decide (a < wrap64 (a + b)) == decide (0 < b)) = false) (w : World) :
    Calls Try.prog 43 #[.int .i64 (a), .int .i64 (b)] w fun e w' => e = .returned (.tuple #[.int .i64 (wrap64 (a + b)), .int .i64 (0)]) ∧ BW w w' := by
  go_enter Try.func43, Try.ntmps43
  go_wp2
  go_ret2
  exact ⟨rfl, (by repeat (first | exact BW.refl _ | assumption | apply BW.alloc | apply BW.drew | (refine BW.setCell ?_ (by simp <;> omega) _) | (refine BW.trans ?_ (by assumption))))⟩
set_option maxHeartbeats 400000 in
theorem sum_no (a b : Int) (h : (!decide (a < wrap64 (a + b)) == decide (0 < b)) = true) (w : World) :
    Calls Try.prog 43 #[.int .i64 (a), .int .i64 (b)] w fun e w' => e = .returned (.tuple #[.int .i64 (0), .int .i64 (3)]) ∧ BW w w' := by
  go_enter Try.func43, Try.ntmps43
  go_wp2
  go_ret2
  exact ⟨rfl, (by repeat (first | exact BW.refl _ | assumption | apply BW.alloc | apply BW.drew | (refine BW.setCell ?_ (by simp <;> omega) _) | (refine BW.trans ?_ (by assumption))))⟩
set_option maxHeartbeats 400000 in
theorem diff_ok (a b : Int) (h : (!decide (wrap64 (a - b) < a) == decide (0 < b)) = false) (w : World) :
    Calls Try.prog 40 #[.int .i64 (a), .int .i64 (b)] w fun e w' => e = .returned (.tuple #[.int .i64 (wrap64 (a - b)), .int .i64 (0)]) ∧ BW w w' := by
  go_enter Try.func40, Try.ntmps40
  go_wp2
  go_ret2
  exact ⟨rfl, (by repeat (first | exact BW.refl _ | assumption | apply BW.alloc | apply BW.drew | (refine BW.setCell ?_ (by simp <;> omega) _) | (refine BW.trans ?_ (by assumption))))⟩
set_option maxHeartbeats 400000 in
theorem diff_no (a b : Int) (h : (!decide (wrap64 (a - b) < a) == decide (0 < b)) = true) (w : World) :
    Calls Try.prog 40 #[.int .i64 (a), .int .i64 (b)] w fun e w' => e = .returned (.tuple #[.int .i64 (0), .int .i64 (3)]) ∧ BW w w' := by
  go_enter Try.func40, Try.ntmps40
  go_wp2
  go_ret2
  exact ⟨rfl, (by repeat (first | exact BW.refl _ | assumption | apply BW.alloc | apply BW.drew | (refine BW.setCell ?_ (by simp <;> omega) _) | (refine BW.trans ?_ (by assumption))))⟩
set_option maxHeartbeats 400000 in
theorem prod_zero (b : Int) (w : World) :
    Calls Try.prog 44 #[.int .i64 (0), .int .i64 (b)] w fun e w' => e = .returned (.tuple #[.int .i64 (0), .int .i64 (0)]) ∧ BW w w' := by
  go_enter Try.func44, Try.ntmps44
  go_wp2
  go_ret2
  exact ⟨rfl, (by repeat (first | exact BW.refl _ | assumption | apply BW.alloc | apply BW.drew | (refine BW.setCell ?_ (by simp <;> omega) _) | (refine BW.trans ?_ (by assumption))))⟩
set_option maxHeartbeats 400000 in
theorem prod_no (a b : Int) (h0 : (a == 0) = false) (_h0' : ¬ a = 0) (h : (wrap64 ((wrap64 (a * b)).tdiv a) != b) = true) (w : World) :
    Calls Try.prog 44 #[.int .i64 (a), .int .i64 (b)] w fun e w' => e = .returned (.tuple #[.int .i64 (0), .int .i64 (3)]) ∧ BW w w' := by
  go_enter Try.func44, Try.ntmps44
  go_wp2
  go_ret2
  exact ⟨rfl, (by repeat (first | exact BW.refl _ | assumption | apply BW.alloc | apply BW.drew | (refine BW.setCell ?_ (by simp <;> omega) _) | (refine BW.trans ?_ (by assumption))))⟩
set_option maxHeartbeats 400000 in
theorem prod_ok (a b : Int) (h0 : (a == 0) = false) (h0' : ¬ a = 0) (h : (wrap64 ((wrap64 (a * b)).tdiv a) != b) = false) (h2 : (a == -1) = false) (w : World) :
    Calls Try.prog 44 #[.int .i64 (a), .int .i64 (b)] w fun e w' => e = .returned (.tuple #[.int .i64 (wrap64 (a * b)), .int .i64 (0)]) ∧ BW w w' := by
  go_enter Try.func44, Try.ntmps44
  go_wp2
  go_ret2
  exact ⟨rfl, (by repeat (first | exact BW.refl _ | assumption | apply BW.alloc | apply BW.drew | (refine BW.setCell ?_ (by simp <;> omega) _) | (refine BW.trans ?_ (by assumption))))⟩
set_option maxHeartbeats 400000 in
theorem prod_ok1 (a b : Int) (h0 : (a == 0) = false) (h0' : ¬ a = 0) (h : (wrap64 ((wrap64 (a * b)).tdiv a) != b) = false) (h2 : (a == -1) = true) (h3 : (b == -9223372036854775808) = false) (w : World) :
    Calls Try.prog 44 #[.int .i64 (a), .int .i64 (b)] w fun e w' => e = .returned (.tuple #[.int .i64 (wrap64 (a * b)), .int .i64 (0)]) ∧ BW w w' := by
  go_enter Try.func44, Try.ntmps44
  go_wp2
  go_ret2
  exact ⟨rfl, (by repeat (first | exact BW.refl _ | assumption | apply BW.alloc | apply BW.drew | (refine BW.setCell ?_ (by simp <;> omega) _) | (refine BW.trans ?_ (by assumption))))⟩
set_option maxHeartbeats 400000 in
theorem prod_no1 (a b : Int) (h0 : (a == 0) = false) (h0' : ¬ a = 0) (h : (wrap64 ((wrap64 (a * b)).tdiv a) != b) = false) (h2 : (a == -1) = true) (h3 : (b == -9223372036854775808) = true) (w : World) :
    Calls Try.prog 44 #[.int .i64 (a), .int .i64 (b)] w fun e w' => e = .returned (.tuple #[.int .i64 (0), .int .i64 (3)]) ∧ BW w w' := by
  go_enter Try.func44, Try.ntmps44
  go_wp2
  go_ret2
  exact ⟨rfl, (by repeat (first | exact BW.refl _ | assumption | apply BW.alloc | apply BW.drew | (refine BW.setCell ?_ (by simp <;> omega) _) | (refine BW.trans ?_ (by assumption))))⟩
set_option maxHeartbeats 400000 in
theorem quot_zero (a : Int) (w : World) :
    Calls Try.prog 45 #[.int .i64 (a), .int .i64 (0)] w fun e w' => e = .returned (.tuple #[.int .i64 (0), .int .i64 (4)]) ∧ BW w w' := by
  go_enter Try.func45, Try.ntmps45
  go_wp2
  go_ret2
  exact ⟨rfl, (by repeat (first | exact BW.refl _ | assumption | apply BW.alloc | apply BW.drew | (refine BW.setCell ?_ (by simp <;> omega) _) | (refine BW.trans ?_ (by assumption))))⟩
set_option maxHeartbeats 400000 in
theorem quot_no (a b : Int) (h0 : (b == 0) = false) (h0' : ¬ b = 0) (h1 : (a == -9223372036854775808) = true) (h2 : (b == -1) = true) (w : World) :
    Calls Try.prog 45 #[.int .i64 (a), .int .i64 (b)] w fun e w' => e = .returned (.tuple #[.int .i64 (0), .int .i64 (3)]) ∧ BW w w' := by
  go_enter Try.func45, Try.ntmps45
  go_wp2
  go_ret2
  exact ⟨rfl, (by repeat (first | exact BW.refl _ | assumption | apply BW.alloc | apply BW.drew | (refine BW.setCell ?_ (by simp <;> omega) _) | (refine BW.trans ?_ (by assumption))))⟩
set_option maxHeartbeats 400000 in
theorem quot_ok1 (a b : Int) (h0 : (b == 0) = false) (h0' : ¬ b = 0) (h1 : (a == -9223372036854775808) = true) (h2 : (b == -1) = false) (w : World) :
    Calls Try.prog 45 #[.int .i64 (a), .int .i64 (b)] w fun e w' => e = .returned (.tuple #[.int .i64 (wrap64 (a.tdiv b)), .int .i64 (0)]) ∧ BW w w' := by
  go_enter Try.func45, Try.ntmps45
  go_wp2
  go_ret2
  exact ⟨rfl, (by repeat (first | exact BW.refl _ | assumption | apply BW.alloc | apply BW.drew | (refine BW.setCell ?_ (by simp <;> omega) _) | (refine BW.trans ?_ (by assumption))))⟩
set_option maxHeartbeats 400000 in
theorem quot_ok (a b : Int) (h0 : (b == 0) = false) (h0' : ¬ b = 0) (h1 : (a == -9223372036854775808) = false) (w : World) :
    Calls Try.prog 45 #[.int .i64 (a), .int .i64 (b)] w fun e w' => e = .returned (.tuple #[.int .i64 (wrap64 (a.tdiv b)), .int .i64 (0)]) ∧ BW w w' := by
  go_enter Try.func45, Try.ntmps45
  go_wp2
  go_ret2
  exact ⟨rfl, (by repeat (first | exact BW.refl _ | assumption | apply BW.alloc | apply BW.drew | (refine BW.setCell ?_ (by simp <;> omega) _) | (refine BW.trans ?_ (by assumption))))⟩
set_option maxHeartbeats 400000 in
theorem rem_zero (a : Int) (w : World) :
    Calls Try.prog 46 #[.int .i64 (a), .int .i64 (0)] w fun e w' => e = .returned (.tuple #[.int .i64 (0), .int .i64 (4)]) ∧ BW w w' := by
  go_enter Try.func46, Try.ntmps46
  go_wp2
  go_ret2
  exact ⟨rfl, (by repeat (first | exact BW.refl _ | assumption | apply BW.alloc | apply BW.drew | (refine BW.setCell ?_ (by simp <;> omega) _) | (refine BW.trans ?_ (by assumption))))⟩
set_option maxHeartbeats 400000 in
theorem rem_ok (a b : Int) (h0 : (b == 0) = false) (h0' : ¬ b = 0) (w : World) :
    Calls Try.prog 46 #[.int .i64 (a), .int .i64 (b)] w fun e w' => e = .returned (.tuple #[.int .i64 (a.tmod b), .int .i64 (0)]) ∧ BW w w' := by
  go_enter Try.func46, Try.ntmps46
  go_wp2
  go_ret2
  exact ⟨rfl, (by repeat (first | exact BW.refl _ | assumption | apply BW.alloc | apply BW.drew | (refine BW.setCell ?_ (by simp <;> omega) _) | (refine BW.trans ?_ (by assumption))))⟩
set_option maxHeartbeats 400000 in
theorem moved_shl (a b : Int) (h0 : 0 ≤ b) (h1 : b ≤ 63) (w : World) :
    Calls Try.prog 47 #[.string ⟨#[115, 104, 108]⟩, .int .i64 (a), .int .i64 (b)] w fun e w' => e = .returned (.tuple #[.int .i64 (wrap64 (a * 2 ^ b.toNat)), .int .i64 (0)]) ∧ BW w w' := by
  go_enter Try.func47, Try.ntmps47
  go_wp2
  go_ret2
  exact ⟨rfl, (by repeat (first | exact BW.refl _ | assumption | apply BW.alloc | apply BW.drew | (refine BW.setCell ?_ (by simp <;> omega) _) | (refine BW.trans ?_ (by assumption))))⟩
set_option maxHeartbeats 400000 in
theorem moved_shr (a b : Int) (h0 : 0 ≤ b) (h1 : b ≤ 63) (w : World) :
    Calls Try.prog 47 #[.string ⟨#[115, 104, 114]⟩, .int .i64 (a), .int .i64 (b)] w fun e w' => e = .returned (.tuple #[.int .i64 (a / 2 ^ b.toNat), .int .i64 (0)]) ∧ BW w w' := by
  go_enter Try.func47, Try.ntmps47
  go_wp2
  go_ret2
  exact ⟨rfl, (by repeat (first | exact BW.refl _ | assumption | apply BW.alloc | apply BW.drew | (refine BW.setCell ?_ (by simp <;> omega) _) | (refine BW.trans ?_ (by assumption))))⟩
set_option maxHeartbeats 400000 in
theorem moved_ushr (a b : Int) (h0 : 0 ≤ b) (h1 : b ≤ 63) (w : World) :
    Calls Try.prog 47 #[.string ⟨#[117, 115, 104, 114]⟩, .int .i64 (a), .int .i64 (b)] w fun e w' => e = .returned (.tuple #[.int .i64 (wrap64 (IntKind.u64.wrap a / 2 ^ b.toNat)), .int .i64 (0)]) ∧ BW w w' := by
  go_enter Try.func47, Try.ntmps47
  go_wp2
  go_ret2
  exact ⟨rfl, (by repeat (first | exact BW.refl _ | assumption | apply BW.alloc | apply BW.drew | (refine BW.setCell ?_ (by simp <;> omega) _) | (refine BW.trans ?_ (by assumption))))⟩
set_option maxHeartbeats 400000 in
theorem moved_lo (wd : ByteArray) (a b : Int) (h0 : b < 0) (w : World) :
    Calls Try.prog 47 #[.string wd, .int .i64 (a), .int .i64 (b)] w fun e w' => e = .returned (.tuple #[.int .i64 (0), .int .i64 (5)]) ∧ BW w w' := by
  go_enter Try.func47, Try.ntmps47
  go_wp2
  go_ret2
  exact ⟨rfl, (by repeat (first | exact BW.refl _ | assumption | apply BW.alloc | apply BW.drew | (refine BW.setCell ?_ (by simp <;> omega) _) | (refine BW.trans ?_ (by assumption))))⟩
set_option maxHeartbeats 400000 in
theorem moved_hi (wd : ByteArray) (a b : Int) (h0 : 63 < b) (w : World) :
    Calls Try.prog 47 #[.string wd, .int .i64 (a), .int .i64 (b)] w fun e w' => e = .returned (.tuple #[.int .i64 (0), .int .i64 (5)]) ∧ BW w w' := by
  go_enter Try.func47, Try.ntmps47
  go_wp2
  go_ret2
  exact ⟨rfl, (by repeat (first | exact BW.refl _ | assumption | apply BW.alloc | apply BW.drew | (refine BW.setCell ?_ (by simp <;> omega) _) | (refine BW.trans ?_ (by assumption))))⟩
set_option maxHeartbeats 400000 in
theorem below_int (a b : Int) (sa sb : ByteArray) (w : World) :
    Calls Try.prog 32 #[V 1 a sa, V 1 b sb] w fun e w' => e = .returned (.tuple #[V 2 (bN (decide (a < b))) ⟨#[]⟩, .int .i64 (0)]) ∧ BW w w' := by
  go_enter Try.func32, Try.ntmps32
  go_wp2_with (first | (go_at_call 23; refine (is_any _ _).mono ?_; rintro e w1 ⟨rfl, hb⟩; have hc := hb.cells; have hf := hb.froz; have hz := hb.size))
  exact bodyPost_ret (v := .tuple #[V 2 (bN (decide (a < b))) ⟨#[]⟩, .int .i64 (0)]) (by simp [results, Try.results32, go_sem, hc]) rfl ⟨rfl, (by repeat (first | exact BW.refl _ | assumption | apply BW.alloc | apply BW.drew | (refine BW.setCell ?_ (by simp <;> omega) _) | (refine BW.trans ?_ (by assumption))))⟩
set_option maxHeartbeats 400000 in
theorem below_str (a b : Int) (sa sb : ByteArray) (w : World) :
    Calls Try.prog 32 #[V 3 a sa, V 3 b sb] w fun e w' => e = .returned (.tuple #[V 2 (bN (Op.bytesLess sa.toList sb.toList)) ⟨#[]⟩, .int .i64 (0)]) ∧ BW w w' := by
  go_enter Try.func32, Try.ntmps32
  go_wp2_with (first | (go_at_call 23; refine (is_any _ _).mono ?_; rintro e w1 ⟨rfl, hb⟩; have hc := hb.cells; have hf := hb.froz; have hz := hb.size))
  exact bodyPost_ret (v := .tuple #[V 2 (bN (Op.bytesLess sa.toList sb.toList)) ⟨#[]⟩, .int .i64 (0)]) (by simp [results, Try.results32, go_sem, hc]) rfl ⟨rfl, (by repeat (first | exact BW.refl _ | assumption | apply BW.alloc | apply BW.drew | (refine BW.setCell ?_ (by simp <;> omega) _) | (refine BW.trans ?_ (by assumption))))⟩
set_option maxHeartbeats 400000 in
theorem below_no1 (ta a tb b : Int) (sa sb : ByteArray) (h1 : (ta == 1) = false) (h2 : (ta == 3) = false) (w : World) :
    Calls Try.prog 32 #[V ta a sa, V tb b sb] w fun e w' => e = .returned (.tuple #[V 0 0 ⟨#[]⟩, .int .i64 (2)]) ∧ BW w w' := by
  go_enter Try.func32, Try.ntmps32
  go_wp2
  exact bodyPost_ret (v := .tuple #[V 0 0 ⟨#[]⟩, .int .i64 (2)]) (by simp [results, Try.results32, go_sem]) rfl ⟨rfl, (by repeat (first | exact BW.refl _ | assumption | apply BW.alloc | apply BW.drew | (refine BW.setCell ?_ (by simp <;> omega) _) | (refine BW.trans ?_ (by assumption))))⟩
set_option maxHeartbeats 400000 in
theorem below_no2 (ta a tb b : Int) (sa sb : ByteArray) (h1 : (ta == 1) = true) (h2 : (tb == 1) = false) (h3 : (ta == 3) = false) (w : World) :
    Calls Try.prog 32 #[V ta a sa, V tb b sb] w fun e w' => e = .returned (.tuple #[V 0 0 ⟨#[]⟩, .int .i64 (2)]) ∧ BW w w' := by
  go_enter Try.func32, Try.ntmps32
  go_wp2
  exact bodyPost_ret (v := .tuple #[V 0 0 ⟨#[]⟩, .int .i64 (2)]) (by simp [results, Try.results32, go_sem]) rfl ⟨rfl, (by repeat (first | exact BW.refl _ | assumption | apply BW.alloc | apply BW.drew | (refine BW.setCell ?_ (by simp <;> omega) _) | (refine BW.trans ?_ (by assumption))))⟩
set_option maxHeartbeats 400000 in
theorem below_no3 (ta a tb b : Int) (sa sb : ByteArray) (h1 : (ta == 3) = true) (h2 : (tb == 3) = false) (h3 : (ta == 1) = false) (w : World) :
    Calls Try.prog 32 #[V ta a sa, V tb b sb] w fun e w' => e = .returned (.tuple #[V 0 0 ⟨#[]⟩, .int .i64 (2)]) ∧ BW w w' := by
  go_enter Try.func32, Try.ntmps32
  go_wp2
  exact bodyPost_ret (v := .tuple #[V 0 0 ⟨#[]⟩, .int .i64 (2)]) (by simp [results, Try.results32, go_sem]) rfl ⟨rfl, (by repeat (first | exact BW.refl _ | assumption | apply BW.alloc | apply BW.drew | (refine BW.setCell ?_ (by simp <;> omega) _) | (refine BW.trans ?_ (by assumption))))⟩
theorem toList_inj' {a b : ByteArray} (h : a.toList = b.toList) : a = b := by
  rw [ByteArray.toList_eq, ByteArray.toList_eq] at h
  exact Go.WideShapes.bytes_inj h
theorem toList_ne {a b : ByteArray} (h : ¬ a = b) : ¬ a.toList = b.toList := fun k => h (toList_inj' k)
set_option maxHeartbeats 400000 in
theorem same_yes (t a : Int) (sa : ByteArray) (h : t ≤ 3) (w : World) :
    Calls Try.prog 33 #[V t a sa, V t a sa] w fun e w' => e = .returned (.tuple #[V 2 (bN (true)) ⟨#[]⟩, .int .i64 (0)]) ∧ BW w w' := by
  go_enter Try.func33, Try.ntmps33
  go_wp2_with (first | (go_at_call 23; refine (is_any _ _).mono ?_; rintro e w1 ⟨rfl, hb⟩; have hc := hb.cells; have hf := hb.froz; have hz := hb.size))
  exact bodyPost_ret (v := .tuple #[V 2 (bN (true)) ⟨#[]⟩, .int .i64 (0)]) (by simp [results, Try.results33, go_sem, hc]) rfl ⟨rfl, (by repeat (first | exact BW.refl _ | assumption | apply BW.alloc | apply BW.drew | (refine BW.setCell ?_ (by simp <;> omega) _) | (refine BW.trans ?_ (by assumption))))⟩
set_option maxHeartbeats 400000 in
theorem same_not1 (t a b : Int) (sa sb : ByteArray) (h : t ≤ 3) (h' : ¬ a = b) (w : World) :
    Calls Try.prog 33 #[V t a sa, V t b sb] w fun e w' => e = .returned (.tuple #[V 2 (bN (false)) ⟨#[]⟩, .int .i64 (0)]) ∧ BW w w' := by
  go_enter Try.func33, Try.ntmps33
  go_wp2_with (first | (go_at_call 23; refine (is_any _ _).mono ?_; rintro e w1 ⟨rfl, hb⟩; have hc := hb.cells; have hf := hb.froz; have hz := hb.size))
  exact bodyPost_ret (v := .tuple #[V 2 (bN (false)) ⟨#[]⟩, .int .i64 (0)]) (by simp [results, Try.results33, go_sem, hc]) rfl ⟨rfl, (by repeat (first | exact BW.refl _ | assumption | apply BW.alloc | apply BW.drew | (refine BW.setCell ?_ (by simp <;> omega) _) | (refine BW.trans ?_ (by assumption))))⟩
set_option maxHeartbeats 400000 in
theorem same_not2 (t a : Int) (sa sb : ByteArray) (h : t ≤ 3) (h' : ¬ sa.toList = sb.toList) (w : World) :
    Calls Try.prog 33 #[V t a sa, V t a sb] w fun e w' => e = .returned (.tuple #[V 2 (bN (false)) ⟨#[]⟩, .int .i64 (0)]) ∧ BW w w' := by
  go_enter Try.func33, Try.ntmps33
  go_wp2_with (first | (go_at_call 23; refine (is_any _ _).mono ?_; rintro e w1 ⟨rfl, hb⟩; have hc := hb.cells; have hf := hb.froz; have hz := hb.size))
  exact bodyPost_ret (v := .tuple #[V 2 (bN (false)) ⟨#[]⟩, .int .i64 (0)]) (by simp [results, Try.results33, go_sem, hc]) rfl ⟨rfl, (by repeat (first | exact BW.refl _ | assumption | apply BW.alloc | apply BW.drew | (refine BW.setCell ?_ (by simp <;> omega) _) | (refine BW.trans ?_ (by assumption))))⟩
set_option maxHeartbeats 400000 in
theorem same_ok (t a b : Int) (sa sb : ByteArray) (h : t ≤ 3) (w : World) :
    Calls Try.prog 33 #[V t a sa, V t b sb] w fun e w' => e = .returned (.tuple #[V 2 (bN (decide (a = b ∧ sa = sb))) ⟨#[]⟩, .int .i64 (0)]) ∧ BW w w' := by
  by_cases h1 : a = b
  · by_cases h2 : sa = sb
    · subst h1 h2
      rw [decide_eq_true (And.intro rfl rfl)]
      exact same_yes _ _ _ h w
    · subst h1
      rw [decide_eq_false (fun x => h2 x.2)]
      exact same_not2 _ _ _ _ h (toList_ne h2) w
  · rw [decide_eq_false (fun x => h1 x.1)]
    exact same_not1 _ _ _ _ _ h h1 w
set_option maxHeartbeats 400000 in
theorem same_no1 (ta a tb b : Int) (sa sb : ByteArray) (h : (ta != tb) = true) (w : World) :
    Calls Try.prog 33 #[V ta a sa, V tb b sb] w fun e w' => e = .returned (.tuple #[V 0 0 ⟨#[]⟩, .int .i64 (2)]) ∧ BW w w' := by
  go_enter Try.func33, Try.ntmps33
  go_wp2
  exact bodyPost_ret (v := .tuple #[V 0 0 ⟨#[]⟩, .int .i64 (2)]) (by simp [results, Try.results33, go_sem]) rfl ⟨rfl, (by repeat (first | exact BW.refl _ | assumption | apply BW.alloc | apply BW.drew | (refine BW.setCell ?_ (by simp <;> omega) _) | (refine BW.trans ?_ (by assumption))))⟩
set_option maxHeartbeats 400000 in
theorem same_no2 (t a b : Int) (sa sb : ByteArray) (h : 3 < t) (w : World) :
    Calls Try.prog 33 #[V t a sa, V t b sb] w fun e w' => e = .returned (.tuple #[V 0 0 ⟨#[]⟩, .int .i64 (2)]) ∧ BW w w' := by
  go_enter Try.func33, Try.ntmps33
  go_wp2
  exact bodyPost_ret (v := .tuple #[V 0 0 ⟨#[]⟩, .int .i64 (2)]) (by simp [results, Try.results33, go_sem]) rfl ⟨rfl, (by repeat (first | exact BW.refl _ | assumption | apply BW.alloc | apply BW.drew | (refine BW.setCell ?_ (by simp <;> omega) _) | (refine BW.trans ?_ (by assumption))))⟩
set_option maxHeartbeats 400000 in
theorem joined_no1 (ta a tb b : Int) (sa sb : ByteArray) (h : (ta != 3) = true) (w : World) :
    Calls Try.prog 34 #[V ta a sa, V tb b sb] w fun e w' => e = .returned (.tuple #[V 0 0 ⟨#[]⟩, .int .i64 (2)]) ∧ BW w w' := by
  go_enter Try.func34, Try.ntmps34
  go_wp2
  exact bodyPost_ret (v := .tuple #[V 0 0 ⟨#[]⟩, .int .i64 (2)]) (by simp [results, Try.results34, go_sem]) rfl ⟨rfl, (by repeat (first | exact BW.refl _ | assumption | apply BW.alloc | apply BW.drew | (refine BW.setCell ?_ (by simp <;> omega) _) | (refine BW.trans ?_ (by assumption))))⟩
set_option maxHeartbeats 400000 in
theorem joined_no2 (ta a tb b : Int) (sa sb : ByteArray) (h : (ta != 3) = false) (h' : (tb != 3) = true) (w : World) :
    Calls Try.prog 34 #[V ta a sa, V tb b sb] w fun e w' => e = .returned (.tuple #[V 0 0 ⟨#[]⟩, .int .i64 (2)]) ∧ BW w w' := by
  go_enter Try.func34, Try.ntmps34
  go_wp2
  exact bodyPost_ret (v := .tuple #[V 0 0 ⟨#[]⟩, .int .i64 (2)]) (by simp [results, Try.results34, go_sem]) rfl ⟨rfl, (by repeat (first | exact BW.refl _ | assumption | apply BW.alloc | apply BW.drew | (refine BW.setCell ?_ (by simp <;> omega) _) | (refine BW.trans ?_ (by assumption))))⟩
set_option maxHeartbeats 400000 in
theorem joined_no3 (a b : Int) (sa sb : ByteArray) (ha : sa.size ≤ 65536) (hb : sb.size ≤ 65536) (h : 65536 < sa.size + sb.size) (w : World) :
    Calls Try.prog 34 #[V 3 a sa, V 3 b sb] w fun e w' => e = .returned (.tuple #[V 0 0 ⟨#[]⟩, .int .i64 (3)]) ∧ BW w w' := by
  go_enter Try.func34, Try.ntmps34
  go_wp2
  exact bodyPost_ret (v := .tuple #[V 0 0 ⟨#[]⟩, .int .i64 (3)]) (by simp [results, Try.results34, go_sem]) rfl ⟨rfl, (by repeat (first | exact BW.refl _ | assumption | apply BW.alloc | apply BW.drew | (refine BW.setCell ?_ (by simp <;> omega) _) | (refine BW.trans ?_ (by assumption))))⟩
set_option maxHeartbeats 400000 in
theorem joined_ok (a b : Int) (sa sb : ByteArray) (ha : sa.size ≤ 65536) (hb : sb.size ≤ 65536) (h : sa.size + sb.size ≤ 65536) (w : World) :
    Calls Try.prog 34 #[V 3 a sa, V 3 b sb] w fun e w' => e = .returned (.tuple #[V 3 0 (sa ++ sb), .int .i64 (0)]) ∧ BW w w' := by
  go_enter Try.func34, Try.ntmps34
  go_wp2_with (first | (go_at_call 24; refine (text_any _ _).mono ?_; rintro e w1 ⟨rfl, hb⟩; have hc := hb.cells; have hf := hb.froz; have hz := hb.size))
  exact bodyPost_ret (v := .tuple #[V 3 0 (sa ++ sb), .int .i64 (0)]) (by simp [results, Try.results34, go_sem, hc]) rfl ⟨rfl, (by repeat (first | exact BW.refl _ | assumption | apply BW.alloc | apply BW.drew | (refine BW.setCell ?_ (by simp <;> omega) _) | (refine BW.trans ?_ (by assumption))))⟩
set_option maxHeartbeats 400000 in
theorem byteAt_no1 (ta a tb b : Int) (sa sb : ByteArray) (h : (ta != 3) = true) (w : World) :
    Calls Try.prog 35 #[V ta a sa, V tb b sb] w fun e w' => e = .returned (.tuple #[V 0 0 ⟨#[]⟩, .int .i64 (2)]) ∧ BW w w' := by
  go_enter Try.func35, Try.ntmps35
  go_wp2
  exact bodyPost_ret (v := .tuple #[V 0 0 ⟨#[]⟩, .int .i64 (2)]) (by simp [results, Try.results35, go_sem]) rfl ⟨rfl, (by repeat (first | exact BW.refl _ | assumption | apply BW.alloc | apply BW.drew | (refine BW.setCell ?_ (by simp <;> omega) _) | (refine BW.trans ?_ (by assumption))))⟩
set_option maxHeartbeats 400000 in
theorem byteAt_no2 (ta a tb b : Int) (sa sb : ByteArray) (h : (ta != 3) = false) (h' : (tb != 1) = true) (w : World) :
    Calls Try.prog 35 #[V ta a sa, V tb b sb] w fun e w' => e = .returned (.tuple #[V 0 0 ⟨#[]⟩, .int .i64 (2)]) ∧ BW w w' := by
  go_enter Try.func35, Try.ntmps35
  go_wp2
  exact bodyPost_ret (v := .tuple #[V 0 0 ⟨#[]⟩, .int .i64 (2)]) (by simp [results, Try.results35, go_sem]) rfl ⟨rfl, (by repeat (first | exact BW.refl _ | assumption | apply BW.alloc | apply BW.drew | (refine BW.setCell ?_ (by simp <;> omega) _) | (refine BW.trans ?_ (by assumption))))⟩
set_option maxHeartbeats 400000 in
theorem byteAt_no3 (a b : Int) (sa sb : ByteArray) (h : b < 0) (w : World) :
    Calls Try.prog 35 #[V 3 a sa, V 1 b sb] w fun e w' => e = .returned (.tuple #[V 0 0 ⟨#[]⟩, .int .i64 (5)]) ∧ BW w w' := by
  go_enter Try.func35, Try.ntmps35
  go_wp2
  exact bodyPost_ret (v := .tuple #[V 0 0 ⟨#[]⟩, .int .i64 (5)]) (by simp [results, Try.results35, go_sem]) rfl ⟨rfl, (by repeat (first | exact BW.refl _ | assumption | apply BW.alloc | apply BW.drew | (refine BW.setCell ?_ (by simp <;> omega) _) | (refine BW.trans ?_ (by assumption))))⟩
set_option maxHeartbeats 400000 in
theorem byteAt_no4 (a b : Int) (sa sb : ByteArray) (_ha : sa.size ≤ 65536) (h : 0 ≤ b) (h' : (sa.size : Int) ≤ b) (w : World) :
    Calls Try.prog 35 #[V 3 a sa, V 1 b sb] w fun e w' => e = .returned (.tuple #[V 0 0 ⟨#[]⟩, .int .i64 (5)]) ∧ BW w w' := by
  go_enter Try.func35, Try.ntmps35
  go_wp2
  exact bodyPost_ret (v := .tuple #[V 0 0 ⟨#[]⟩, .int .i64 (5)]) (by simp [results, Try.results35, go_sem]) rfl ⟨rfl, (by repeat (first | exact BW.refl _ | assumption | apply BW.alloc | apply BW.drew | (refine BW.setCell ?_ (by simp <;> omega) _) | (refine BW.trans ?_ (by assumption))))⟩
theorem wrap64_byte (c : UInt8) : wrap64 (c.toNat : Int) = c.toNat := by
  have := c.toNat_lt
  unfold wrap64
  omega
set_option maxHeartbeats 400000 in
theorem byteAt_ok (a : Int) (b : Nat) (sa sb : ByteArray) (ha : sa.size ≤ 65536) (h' : b < sa.size) (w : World) :
    Calls Try.prog 35 #[V 3 a sa, V 1 (b : Int) sb] w fun e w' => e = .returned (.tuple #[V 1 (sa[b].toNat : Int) ⟨#[]⟩, .int .i64 (0)]) ∧ BW w w' := by
  go_enter Try.func35, Try.ntmps35
  go_wp2_with (first | (go_at_call 21; refine (of_any _ _).mono ?_; rintro e w1 ⟨rfl, hb⟩; have hc := hb.cells; have hf := hb.froz; have hz := hb.size))
  exact bodyPost_ret (v := .tuple #[V 1 (sa[b].toNat : Int) ⟨#[]⟩, .int .i64 (0)]) (by simp [results, Try.results35, go_sem, hc, wrap64_byte]) rfl ⟨rfl, (by repeat (first | exact BW.refl _ | assumption | apply BW.alloc | apply BW.drew | (refine BW.setCell ?_ (by simp <;> omega) _) | (refine BW.trans ?_ (by assumption))))⟩
end Go.Proofs.Ytbiahgjlgojhdaa
