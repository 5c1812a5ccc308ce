import Derived.Test.YtbiahgjlgojhdaaB3
import Derived.Deep.RegionWith
import Derived.Deep.RegionHeld
namespace Go.Proofs.Ytbiahgjlgojhdaa
open Go.RowKit
set_option linter.unusedVariables false
theorem shl_ok (a b : Int) (h0 : 0 ≤ b) (h1 : b ≤ 63) : Reck ⟨#[115, 104, 108]⟩ a b (wrap64 (a * 2 ^ b.toNat)) 0 := reck_shl fun w => moved_shl a b h0 h1 w
theorem shr_ok (a b : Int) (h0 : 0 ≤ b) (h1 : b ≤ 63) : Reck ⟨#[115, 104, 114]⟩ a b (a / 2 ^ b.toNat) 0 := reck_shr fun w => moved_shr a b h0 h1 w
theorem ushr_ok (a b : Int) (h0 : 0 ≤ b) (h1 : b ≤ 63) : Reck ⟨#[117, 115, 104, 114]⟩ a b (wrap64 (IntKind.u64.wrap a / 2 ^ b.toNat)) 0 := reck_ushr fun w => moved_ushr a b h0 h1 w
theorem awake_num : Reck ⟨#[115, 104, 108]⟩ 1 63 (-9223372036854775808) 0 := by
  have h := shl_ok 1 63 (by omega) (by omega)
  have e : wrap64 (1 * 2 ^ (63 : Int).toNat) = -9223372036854775808 := by simp [wrap64]
  rw [e] at h
  exact h
set_option maxHeartbeats 400000 in
theorem awake_any  (w : World) :
    Calls Try.prog 13 #[] w fun e w' => e = .returned (.bool true) ∧ BW w w' := by
  go_enter Try.func13, Try.ntmps13
  go_wp2_with (first | (go_at_call 21; refine (of_any _ _).mono ?_; rintro e w1 ⟨rfl, hb⟩; have hz := hb.size; (try simp at hz)) | (go_at_call 19; refine (two_shl _ _ awake_num _).mono ?_; rintro e w1 ⟨rfl, hb⟩; have hz := hb.size; (try simp at hz)))
  go_ret
  exact ⟨rfl, (by repeat (first | exact BW.refl _ | assumption | apply BW.alloc | apply BW.drew | (refine BW.setCell ?_ (by first | omega | (simp; done) | (simp; omega)) _) | (refine BW.trans ?_ (by assumption))))⟩
end Go.Proofs.Ytbiahgjlgojhdaa
