import Derived.Test.YtfgnlddfpemblaaDoorH2
import Derived.Test.YtfgnlddfpemblaaDoorS2
import Derived.Defers
import Derived.Recover
namespace Go.Proofs.YtfgnlddfpemblaaDoor
open Go.RowKit
set_option linter.unusedVariables false
set_option linter.unusedSimpArgs false

theorem catch_idle (w : World) : CallsD Tryd.prog 38 #[] .returning w fun e u' w' => e = .returned (.tuple #[]) ∧ u' = .returning ∧ w' = w := by
  refine callsD_of_wpS Tryd.func38 rfl fun c₀ cs hu => ?_
  apply wpS_region
  simp [wpOpsS, go_sem, recoverD, hu, Tryd.ntmps38, Exit.thenS, bodyPostS, results, Tryd.results38]
  cases c₀
  simp_all
def Asks (f : Nat) (p v r : Value) (w : World) : Prop := ∀ w1, BW w w1 → Calls Tryd.prog f #[p, v] w1 fun e w' => e = .returned r ∧ BW w1 w'
set_option maxRecDepth 100000 in
set_option maxHeartbeats 1000000 in
theorem parts_nil (b : Nat) (t m : Int) (s : ByteArray) (w : World) (hlt : b < w.heap.size) (hp : w.cell? ⟨b, 2, none⟩ = some .nilIface) :
    Calls Tryd.prog 32 #[.pointer (some ⟨b, 0, none⟩), V t m s] w fun e w' => e = .returned (.tuple #[Z, Z, .bool false]) ∧ BW w w' := by
  have hmf : ∀ (fn : Fn) (first cap : Array Value) (w : World), (Instr.makeFunc fn first cap).run Tryd.prog w = .ok (.func fn first cap) w := fun _ _ _ _ => rfl
  have hl1 : b < w.heap.size + 1 := by omega
  have hl2 : b < w.heap.size + 1 + 1 := by omega
  have hn0 : ¬ b = w.heap.size := by omega
  have hn1 : ¬ b = w.heap.size + 1 := by omega
  have hn2 : ¬ b = w.heap.size + 1 + 1 := by omega
  have hn3 : ¬ b = w.heap.size + 1 + 1 + 1 := by omega
  go_enter_defers Tryd.func32, Tryd.ntmps32
  go_wp2_with (fail)
  refine leaves_cons (f := 38) (args := #[]) (by simp) (by simp [go_sem]) ?_
  refine (catch_idle _).mono ?_
  rintro e u' w'' ⟨rfl, rfl, rfl⟩
  simp [Leaves, settle, results, Tryd.results32, go_sem]
  exact (by repeat (first | exact BW.refl _ | assumption | apply BW.alloc | apply BW.drewN | apply BW.drew | (refine BW.setCell ?_ (by first | omega | (simp; done) | (simp; omega)) _) | (refine BW.trans ?_ (by assumption))))

end Go.Proofs.YtfgnlddfpemblaaDoor
