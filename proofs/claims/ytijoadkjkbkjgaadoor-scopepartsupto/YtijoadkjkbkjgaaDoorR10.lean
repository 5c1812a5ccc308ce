import Derived.Test.YtijoadkjkbkjgaaDoorR5
namespace Go.Proofs.YtijoadkjkbkjgaaDoor
open Go.RowKit
set_option linter.unusedVariables false
set_option linter.unusedSimpArgs false

set_option maxRecDepth 100000 in
set_option maxHeartbeats 1000000 in
theorem right_deep (w : World) (tk tn : Int) (ts : ByteArray) (na : Option Addr) (nl nc : Nat) (ka : Option Addr) (kl kc : Nat) : Calls Tryd.prog 16 #[ndv tk tn ts na nl nc ka kl kc, .int .i64 61] w fun e w' => e = .returned (.bool false) ∧ BW w w' := by
  go_enter Tryd.func16, Tryd.ntmps16
  go_wp2_with (fail)
  go_ret
  exact ⟨rfl, (by repeat (first | exact BW.refl _ | assumption | apply BW.alloc | apply BW.drewN | apply BW.drew | (refine BW.setCell ?_ (by first | omega | (simp; done) | (simp; omega)) _) | (refine BW.trans ?_ (by assumption))))⟩
set_option maxRecDepth 100000 in
set_option maxHeartbeats 1000000 in
theorem right_n (w : World) (tk tn : Int) (ts : ByteArray) (na : Option Addr) (nl nc : Nat) (ka : Option Addr) (kl kc : Nat) (d : Nat) (hd : d ≤ 60) (h1 : ¬ tk = 1) (h2 : ¬ tk = 2) (h0 : ¬ tn = 0) : Calls Tryd.prog 16 #[ndv tk tn ts na nl nc ka kl kc, .int .i64 d] w fun e w' => e = .returned (.bool false) ∧ BW w w' := by
  have e60 : decide ((60 : Int) < d) = false := decide_eq_false (by omega)
  have e0 : (tn == 0) = false := by simpa using h0
  have e0' : (tn != 0) = true := by simpa using h0
  have e1 : (tk == 1) = false := by simpa using h1
  have e1' : (tk != 1) = true := by simpa using h1
  have e2 : (tk == 2) = false := by simpa using h2
  have e2' : (tk != 2) = true := by simpa using h2
  clear h0 h1 h2
  go_enter Tryd.func16, Tryd.ntmps16
  go_wp2_with (fail)
  go_ret
  exact ⟨rfl, (by repeat (first | exact BW.refl _ | assumption | apply BW.alloc | apply BW.drewN | apply BW.drew | (refine BW.setCell ?_ (by first | omega | (simp; done) | (simp; omega)) _) | (refine BW.trans ?_ (by assumption))))⟩
set_option maxRecDepth 100000 in
set_option maxHeartbeats 1000000 in
theorem right_out (w : World) (tk : Int) (ts : ByteArray) (na : Option Addr) (nl nc : Nat) (ka : Option Addr) (kl kc : Nat) (d : Nat) (hd : d ≤ 60) (h : ¬ (1 ≤ tk ∧ tk ≤ 16)) : Calls Tryd.prog 16 #[ndv tk 0 ts na nl nc ka kl kc, .int .i64 d] w fun e w' => e = .returned (.bool false) ∧ BW w w' := by
  have e60 : decide ((60 : Int) < d) = false := decide_eq_false (by omega)
  have e1 : (tk == 1) = false := by simp; omega
  have e2 : (tk == 2) = false := by simp; omega
  have e3 : (tk == 3) = false := by simp; omega
  have e4 : (tk == 4) = false := by simp; omega
  have e5 : (tk == 5) = false := by simp; omega
  have e6 : (tk == 6) = false := by simp; omega
  have e7 : (tk == 7) = false := by simp; omega
  have e8 : (tk == 8) = false := by simp; omega
  have e9 : (tk == 9) = false := by simp; omega
  have e10 : (tk == 10) = false := by simp; omega
  have e11 : (tk == 11) = false := by simp; omega
  have e12 : (tk == 12) = false := by simp; omega
  have e13 : (tk == 13) = false := by simp; omega
  have e14 : (tk == 14) = false := by simp; omega
  have e15 : (tk == 15) = false := by simp; omega
  have e16 : (tk == 16) = false := by simp; omega
  clear h
  go_enter Tryd.func16, Tryd.ntmps16
  go_wp2_with (fail)
  go_ret
  exact ⟨rfl, (by repeat (first | exact BW.refl _ | assumption | apply BW.alloc | apply BW.drewN | apply BW.drew | (refine BW.setCell ?_ (by first | omega | (simp; done) | (simp; omega)) _) | (refine BW.trans ?_ (by assumption))))⟩

end Go.Proofs.YtijoadkjkbkjgaaDoor
