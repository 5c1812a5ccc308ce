import Derived.Test.YtbiahgjlgojhdaaM2
import Derived.Test.YtbiahgjlgojhdaaB4
import Derived.Deep.RegionWith
import Derived.Deep.RegionHeld3
import Derived.Deep.DeepCutAuto
namespace Go.Proofs.Ytbiahgjlgojhdaa
open Go.RowKit
set_option linter.unusedVariables false
/-- A row of strings that lies in memory. -/
def Row (w : World) (b : Nat) (ws : List ByteArray) : Prop := ∀ i, (h : i < ws.length) → w.cell? ⟨b, i, none⟩ = some (.string ws[i])
set_option maxRecDepth 100000 in
set_option maxHeartbeats 400000 in
theorem in_no (wd : ByteArray) (b : Nat) (ws : List ByteArray) (hl : ws.length ≤ 100) (w : World) (hr : Row w b ws) (hn : ∀ i, (h : i < ws.length) → (ws[i].toList == wd.toList) = false) :
    Calls Try.prog 38 #[.string wd, .slice (some ⟨b, 0, none⟩) ws.length ws.length] w fun e w' => e = .returned (.bool false) ∧ BW w w' := by
  have Hr : Hid (Row w b ws) := hr
  have Hn : Hid (∀ i, (h : i < ws.length) → (ws[i].toList == wd.toList) = false) := hn
  clear hr hn
  go_enter Try.func38, Try.ntmps38
  go_wp2
  go_loop [8] (fun i => ∃ k : Nat, k ≤ ws.length ∧ i = .int .i64 k) (fun i => ws.length - (intOf i).toNat)
  case atStart => exact ⟨0, Nat.zero_le _, rfl⟩
  case round =>
    obtain ⟨k, hk, rfl⟩ := hrel
    by_cases hlt : k < ws.length
    · have hc := Hr.out k hlt
      have hq := Hn.out k hlt
      have hlt' : (k : Int) < (ws.length : Int) := by omega
      go_wp2
      go_ways
      go_round
      case rel => exact ⟨k + 1, by omega, by go_num⟩
      case measure => simp [intOf]; omega
    · go_wp2
      go_ret
      exact ⟨rfl, BW.refl _⟩
set_option maxRecDepth 100000 in
set_option maxHeartbeats 400000 in
theorem in_yes (wd : ByteArray) (b : Nat) (ws : List ByteArray) (hl : ws.length ≤ 100) (w : World) (hr : Row w b ws) (m : Nat) (hm : m < ws.length) (he : (ws[m].toList == wd.toList) = true) :
    Calls Try.prog 38 #[.string wd, .slice (some ⟨b, 0, none⟩) ws.length ws.length] w fun e w' => e = .returned (.bool true) ∧ BW w w' := by
  have Hr : Hid (Row w b ws) := hr
  have He : Hid ((ws[m].toList == wd.toList) = true) := he
  clear hr he
  go_enter Try.func38, Try.ntmps38
  go_wp2
  go_loop [8] (fun i => ∃ k : Nat, k ≤ m ∧ i = .int .i64 k) (fun i => ws.length - (intOf i).toNat)
  case atStart => exact ⟨0, Nat.zero_le _, rfl⟩
  case round =>
    obtain ⟨k, hk, rfl⟩ := hrel
    have hlt : k < ws.length := by omega
    have hc := Hr.out k hlt
    have hlt' : (k : Int) < (ws.length : Int) := by omega
    by_cases hq : (ws[k].toList == wd.toList) = true
    · go_wp2
      go_ret
      exact ⟨rfl, BW.refl _⟩
    · have hq' : (ws[k].toList == wd.toList) = false := by simpa using hq
      clear hq
      have hne : ¬ k = m := fun x => by subst x; have := He.out; rw [hq'] at this; cases this
      go_wp2
      go_round
      case rel => exact ⟨k + 1, by omega, by go_num⟩
      case measure => simp [intOf]; omega
end Go.Proofs.Ytbiahgjlgojhdaa
