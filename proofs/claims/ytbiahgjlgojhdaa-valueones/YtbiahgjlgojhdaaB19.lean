import Derived.Test.YtbiahgjlgojhdaaB17
import Derived.Test.YtbiahgjlgojhdaaB7
import Derived.Deep.RegionWith
import Derived.Deep.RegionHeld3
import Derived.Deep.DeepCutAuto
namespace Go.Proofs.Ytbiahgjlgojhdaa
open Go.RowKit
set_option linter.unusedVariables false
set_option maxRecDepth 100000 in
set_option maxHeartbeats 400000 in
theorem may_big (t n : Int) (s : ByteArray) (h : 7 < t) (w : World) :
    Calls Try.prog 12 #[V t n s] w fun e w' => e = .returned (.bool false) ∧ BW w w' := by
  go_enter Try.func12, Try.ntmps12
  go_wp2
  go_ret
  exact ⟨rfl, (by repeat (first | exact BW.refl _ | assumption | apply BW.alloc | apply BW.drew | (refine BW.setCell ?_ (by first | omega | (simp; done) | (simp; omega)) _) | (refine BW.trans ?_ (by assumption))))⟩
set_option maxRecDepth 100000 in
set_option maxHeartbeats 400000 in
theorem may_str (t n : Int) (s : ByteArray) (h : t ≤ 7) (h3 : (t != 3) = true) (hs : (s.toList.isEmpty) = false) (w : World) :
    Calls Try.prog 12 #[V t n s] w fun e w' => e = .returned (.bool false) ∧ BW w w' := by
  go_enter Try.func12, Try.ntmps12
  go_wp2
  go_ret
  exact ⟨rfl, (by repeat (first | exact BW.refl _ | assumption | apply BW.alloc | apply BW.drew | (refine BW.setCell ?_ (by first | omega | (simp; done) | (simp; omega)) _) | (refine BW.trans ?_ (by assumption))))⟩
set_option maxRecDepth 100000 in
set_option maxHeartbeats 400000 in
theorem may_long (n : Int) (s : ByteArray) (h : 65536 < s.size) (h' : s.size ≤ maxLen) (w : World) :
    Calls Try.prog 12 #[V 3 n s] w fun e w' => e = .returned (.bool false) ∧ BW w w' := by
  unfold maxLen at h'
  go_enter Try.func12, Try.ntmps12
  go_wp2
  go_ret
  exact ⟨rfl, (by repeat (first | exact BW.refl _ | assumption | apply BW.alloc | apply BW.drew | (refine BW.setCell ?_ (by first | omega | (simp; done) | (simp; omega)) _) | (refine BW.trans ?_ (by assumption))))⟩
set_option maxRecDepth 100000 in
set_option maxHeartbeats 400000 in
theorem may_0 (n : Int) (w : World) :
    Calls Try.prog 12 #[V 0 n ⟨#[]⟩] w fun e w' => e = .returned (.bool (n == 0)) ∧ BW w w' := by
  go_enter Try.func12, Try.ntmps12
  go_wp2
  go_ret
  exact ⟨rfl, (by repeat (first | exact BW.refl _ | assumption | apply BW.alloc | apply BW.drew | (refine BW.setCell ?_ (by first | omega | (simp; done) | (simp; omega)) _) | (refine BW.trans ?_ (by assumption))))⟩
set_option maxRecDepth 100000 in
set_option maxHeartbeats 400000 in
theorem may_3 (n : Int) (s : ByteArray) (h : s.size ≤ 65536) (w : World) :
    Calls Try.prog 12 #[V 3 n s] w fun e w' => e = .returned (.bool (n == 0)) ∧ BW w w' := by
  go_enter Try.func12, Try.ntmps12
  go_wp2
  go_ret
  exact ⟨rfl, (by repeat (first | exact BW.refl _ | assumption | apply BW.alloc | apply BW.drew | (refine BW.setCell ?_ (by first | omega | (simp; done) | (simp; omega)) _) | (refine BW.trans ?_ (by assumption))))⟩
set_option maxRecDepth 100000 in
set_option maxHeartbeats 400000 in
theorem may_2a (n : Int) (h : (n == 0) = true) (w : World) :
    Calls Try.prog 12 #[V 2 n ⟨#[]⟩] w fun e w' => e = .returned (.bool true) ∧ BW w w' := by
  go_enter Try.func12, Try.ntmps12
  go_wp2
  go_ret
  exact ⟨rfl, (by repeat (first | exact BW.refl _ | assumption | apply BW.alloc | apply BW.drew | (refine BW.setCell ?_ (by first | omega | (simp; done) | (simp; omega)) _) | (refine BW.trans ?_ (by assumption))))⟩
set_option maxRecDepth 100000 in
set_option maxHeartbeats 400000 in
theorem may_2b (n : Int) (h : (n == 0) = false) (w : World) :
    Calls Try.prog 12 #[V 2 n ⟨#[]⟩] w fun e w' => e = .returned (.bool (n == 1)) ∧ BW w w' := by
  go_enter Try.func12, Try.ntmps12
  go_wp2
  go_ret
  exact ⟨rfl, (by repeat (first | exact BW.refl _ | assumption | apply BW.alloc | apply BW.drew | (refine BW.setCell ?_ (by first | omega | (simp; done) | (simp; omega)) _) | (refine BW.trans ?_ (by assumption))))⟩
set_option maxRecDepth 100000 in
set_option maxHeartbeats 400000 in
theorem may_1 (n : Int) (w : World) :
    Calls Try.prog 12 #[V 1 n ⟨#[]⟩] w fun e w' => e = .returned (.bool true) ∧ BW w w' := by
  go_enter Try.func12, Try.ntmps12
  go_wp2
  go_ret
  exact ⟨rfl, (by repeat (first | exact BW.refl _ | assumption | apply BW.alloc | apply BW.drew | (refine BW.setCell ?_ (by first | omega | (simp; done) | (simp; omega)) _) | (refine BW.trans ?_ (by assumption))))⟩
set_option maxRecDepth 100000 in
set_option maxHeartbeats 400000 in
theorem may_4 (t n : Int) (h0 : (t == 0) = false) (h1 : (t == 1) = false) (h2 : (t == 2) = false) (h3 : (t == 3) = false) (h3' : (t != 3) = true) (h : t ≤ 7) (w : World) :
    Calls Try.prog 12 #[V t n ⟨#[]⟩] w fun e w' => e = .returned (.bool (decide (0 ≤ n))) ∧ BW w w' := by
  go_enter Try.func12, Try.ntmps12
  go_wp2
  go_ret
  exact ⟨rfl, (by repeat (first | exact BW.refl _ | assumption | apply BW.alloc | apply BW.drew | (refine BW.setCell ?_ (by first | omega | (simp; done) | (simp; omega)) _) | (refine BW.trans ?_ (by assumption))))⟩
end Go.Proofs.Ytbiahgjlgojhdaa
