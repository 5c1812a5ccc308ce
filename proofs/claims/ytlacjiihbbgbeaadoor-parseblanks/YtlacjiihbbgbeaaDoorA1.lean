import Derived.Test.YtlacjiihbbgbeaaDoorShelf
import Derived.WalkKit
import Derived.WalkSpells
import Derived.WalkLawsBesides
import Derived.Deep.QuietTactic
import Derived.BigQuiet
import Derived.Deep.RegionLaw
import Derived.Lib.SmallJoins
import Derived.Deep.RegionHeld3
namespace Go.Proofs.YtlacjiihbbgbeaaDoor
open Go.RowKit
set_option linter.unusedVariables false
set_option linter.unusedSimpArgs false

/-- What a walk leaves of the world: nothing that was there has turned. -/
def BW (w w' : World) : Prop := Below w.heap.size w w'
theorem BW.refl (w : World) : BW w w := Below.refl _ _
theorem BW.size {w w' : World} (h : BW w w') : w.heap.size ≤ w'.heap.size := Below.size h
theorem BW.trans {a b c : World} (h : BW a b) (k : BW b c) : BW a c := Below.trans h (Below.mono k (BW.size h))
theorem BW.alloc {a b : World} (h : BW a b) (o : Obj) : BW a (b.alloc o) := Below.alloc h (BW.size h) o
theorem BW.drew {a b : World} (h : BW a b) : BW a b.drew := Below.drew h
theorem BW.drewN {a b : World} (h : BW a b) : (n : Nat) → BW a (b.drewN n) := fun n => ⟨h.os, h.tape, h.output, h.size, h.block⟩
theorem BW.setCell {a b : World} (h : BW a b) {p : Addr} (hp : a.heap.size ≤ p.block) (u : Value) : BW a (b.setCell p u) := Below.setCell h hp u
theorem BW.cells {W w1 : World} (hb : BW W w1) : ∀ b o, b < W.heap.size → w1.cell? ⟨b, o, none⟩ = W.cell? ⟨b, o, none⟩ := fun b o h => Below.cell hb (p := ⟨b, o, none⟩) h
def bl (n : Int) : Bool := n == 32 || n == 9 || n == 10 || n == 13
def en (n : Int) : Bool := bl n || n == 59 || n == 40 || n == 41 || n == 34
def pl (n : Int) : Bool := decide (33 ≤ n) && decide (n ≤ 126) && !en n
set_option maxRecDepth 100000 in
set_option maxHeartbeats 1000000 in
theorem blank_any (n : Int) (w : World) : Calls Tryd.prog 21 #[.int .u8 n] w fun e w' => e = .returned (.bool (bl n)) ∧ w' = w := by
  go_enter Tryd.func21, Tryd.ntmps21
  go_wp2_with (fail)
  all_goals (go_ret; exact ⟨by simp [bl, *], rfl⟩)
set_option maxRecDepth 100000 in
set_option maxHeartbeats 1000000 in
theorem ends_any (n : Int) (w : World) : Calls Tryd.prog 35 #[.int .u8 n] w fun e w' => e = .returned (.bool (en n)) ∧ w' = w := by
  go_enter Tryd.func35, Tryd.ntmps35
  go_wp2_with (go_at_call 21; refine (blank_any _ _).mono ?_; rintro e w' ⟨rfl, rfl⟩)
  all_goals (go_ret; exact ⟨by simp [en, *], rfl⟩)
set_option maxRecDepth 100000 in
set_option maxHeartbeats 1000000 in
theorem plain_any (n : Int) (w : World) : Calls Tryd.prog 36 #[.int .u8 n] w fun e w' => e = .returned (.bool (pl n)) ∧ w' = w := by
  go_enter Tryd.func36, Tryd.ntmps36
  go_wp2_with (go_at_call 35; refine (ends_any _ _).mono ?_; rintro e w' ⟨rfl, rfl⟩)
  all_goals (go_ret; exact ⟨by simp [pl, *] <;> (intros; omega), rfl⟩)
/-- What a hexadecimal digit is worth. -/
def hx (n : Int) : Option Int := if 48 ≤ n ∧ n ≤ 57 then some (n - 48) else if 97 ≤ n ∧ n ≤ 102 then some (n - 87) else if 65 ≤ n ∧ n ≤ 70 then some (n - 55) else none
theorem u8w (n : Int) (h0 : 0 ≤ n) (h : n < 256) : IntKind.u8.wrap n = n := by
  simp only [IntKind.wrap, show IntKind.u8.bits = 8 from rfl, show IntKind.u8.signed = false from rfl]; simp; omega
theorem i64w (n : Int) (h0 : -9223372036854775808 ≤ n) (h : n ≤ 9223372036854775807) : IntKind.i64.wrap n = n := by
  simp only [IntKind.wrap, show IntKind.i64.bits = 64 from rfl, show IntKind.i64.signed = true from rfl]; simp; omega

end Go.Proofs.YtlacjiihbbgbeaaDoor
