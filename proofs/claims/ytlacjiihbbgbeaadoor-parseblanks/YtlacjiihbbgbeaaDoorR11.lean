import Derived.Test.YtlacjiihbbgbeaaDoorR10
import Derived.Defers
import Derived.Recover
namespace Go.Proofs.YtlacjiihbbgbeaaDoor
open Go.RowKit
set_option linter.unusedVariables false
set_option linter.unusedSimpArgs false

theorem set3c {w : World} {a2 a3 a4 : Nat} {x y z x0 y0 z0 : Value} (h23 : a2 < a3) (h34 : a3 < a4) (c2 : w.cell? ⟨a2, 0, none⟩ = some x0) (c3 : w.cell? ⟨a3, 0, none⟩ = some y0) (c4 : w.cell? ⟨a4, 0, none⟩ = some z0) :
    (((w.setCell ⟨a2, 0, none⟩ x).setCell ⟨a3, 0, none⟩ y).setCell ⟨a4, 0, none⟩ z).cell? ⟨a2, 0, none⟩ = some x ∧ (((w.setCell ⟨a2, 0, none⟩ x).setCell ⟨a3, 0, none⟩ y).setCell ⟨a4, 0, none⟩ z).cell? ⟨a3, 0, none⟩ = some y ∧ (((w.setCell ⟨a2, 0, none⟩ x).setCell ⟨a3, 0, none⟩ y).setCell ⟨a4, 0, none⟩ z).cell? ⟨a4, 0, none⟩ = some z ∧ Below a2 w (((w.setCell ⟨a2, 0, none⟩ x).setCell ⟨a3, 0, none⟩ y).setCell ⟨a4, 0, none⟩ z) := by
  have m1 : ¬ a2 = a3 := by omega
  have m2 : ¬ a2 = a4 := by omega
  have m3 : ¬ a3 = a4 := by omega
  have m4 : ¬ a3 = a2 := by omega
  have m5 : ¬ a4 = a2 := by omega
  have m6 : ¬ a4 = a3 := by omega
  refine ⟨by simp [go_sem, *], by simp [go_sem, *], by simp [go_sem, *], ?_⟩
  exact Below.setCell (p := ⟨a4, 0, none⟩) (Below.setCell (p := ⟨a3, 0, none⟩) (Below.setCell (p := ⟨a2, 0, none⟩) (Below.refl a2 w) (Nat.le_refl _) x) (Nat.le_of_lt h23) y) (by show a2 ≤ a4; omega) z
set_option maxRecDepth 100000 in
theorem catch_idle (a1 a2 a3 a4 : Nat) (w : World) : CallsD Tryd.prog 10 #[.pointer (some ⟨a1, 0, none⟩), .pointer (some ⟨a2, 0, none⟩), .pointer (some ⟨a3, 0, none⟩), .pointer (some ⟨a4, 0, none⟩)] .returning w fun e u' w' => e = .returned (.tuple #[]) ∧ u' = .returning ∧ w' = w := by
  have k1 : ∀ w : World, (Instr.typeAssert .nilIface 20 42 true).run Tryd.prog w = .ok (.tuple #[.agg #[], .bool false]) w := fun _ => by kernel_rfl
  have k2 : ∀ w : World, (Instr.typeAssert .nilIface 20 43 true).run Tryd.prog w = .ok (.tuple #[.int .i64 0, .bool false]) w := fun _ => by kernel_rfl
  refine callsD_of_wpS Tryd.func10 rfl fun c₀ cs hu => ?_
  apply wpS_seq
  apply wpS_region
  simp [wpOpsS, go_sem, recoverD, hu, Tryd.ntmps10, Exit.thenS, bodyPostS, results, Tryd.results10]
  have et : #[Value.pointer (some ⟨a1, 0, none⟩), Value.pointer (some ⟨a2, 0, none⟩), Value.pointer (some ⟨a3, 0, none⟩), Value.pointer (some ⟨a4, 0, none⟩)] ++ (Array.replicate 12 undef).setIfInBounds 2 (.nilIface) = #[.pointer (some ⟨a1, 0, none⟩), .pointer (some ⟨a2, 0, none⟩), .pointer (some ⟨a3, 0, none⟩), .pointer (some ⟨a4, 0, none⟩), undef, undef, .nilIface, undef, undef, undef, undef, undef, undef, undef, undef, undef] := rfl
  rw [et]
  clear et
  refine wpS_of_wp ?_
  go_wp2_with fail
  simp [bodyPostS, results, Tryd.results10]
  cases c₀
  simp_all
set_option maxRecDepth 100000 in
set_option maxHeartbeats 1000000 in
theorem catch_unend (a1 a2 a3 a4 : Nat) (s : ByteArray) (w : World) (h12 : a1 < a2) (h23 : a2 < a3) (h34 : a3 < a4) (c1 : w.cell? ⟨a1, 0, none⟩ = some (.string s)) (c2 : w.cell? ⟨a2, 0, none⟩ = some (.slice none 0 0)) (c3 : w.cell? ⟨a3, 0, none⟩ = some (.int .i64 0)) (c4 : w.cell? ⟨a4, 0, none⟩ = some (.int .i64 0)) (z2 : w.frozen? ⟨a2, 0, none⟩ = false) (z3 : w.frozen? ⟨a3, 0, none⟩ = false) (z4 : w.frozen? ⟨a4, 0, none⟩ = false) (hz : a4 < w.heap.size) : CallsD Tryd.prog 10 #[.pointer (some ⟨a1, 0, none⟩), .pointer (some ⟨a2, 0, none⟩), .pointer (some ⟨a3, 0, none⟩), .pointer (some ⟨a4, 0, none⟩)] (.panicking [{ v := .iface 42 (.agg #[]), recovered := false }]) w fun e u' w' =>
    e = .returned (.tuple #[]) ∧ u' = .panicking [{ v := .iface 42 (.agg #[]), recovered := true }] ∧ w'.cell? ⟨a2, 0, none⟩ = some (.slice none 0 0) ∧ w'.cell? ⟨a3, 0, none⟩ = some (.int .i64 s.size) ∧ w'.cell? ⟨a4, 0, none⟩ = some (.int .i64 11) ∧ Below a2 w w' := by
  have l1 : a1 < w.heap.size := by omega
  have l2 : a2 < w.heap.size := by omega
  have l3 : a3 < w.heap.size := by omega
  have n1 : ¬ a1 = w.heap.size := by omega
  have n2 : ¬ a2 = w.heap.size := by omega
  have n3 : ¬ a3 = w.heap.size := by omega
  have n4 : ¬ a4 = w.heap.size := by omega
  have m1 : ¬ a2 = a3 := by omega
  have m2 : ¬ a2 = a4 := by omega
  have m3 : ¬ a3 = a4 := by omega
  have m4 : ¬ a3 = a2 := by omega
  have m5 : ¬ a4 = a2 := by omega
  have m6 : ¬ a4 = a3 := by omega
  have m7 : ¬ a1 = a2 := by omega
  have k1 : ∀ w : World, (Instr.typeAssert (.iface 42 (.agg #[])) 20 42 true).run Tryd.prog w = .ok (.tuple #[.agg #[], .bool true]) w := fun _ => by kernel_rfl
  have k2 : ∀ w : World, (Instr.typeAssert (.iface 42 (.agg #[])) 20 43 true).run Tryd.prog w = .ok (.tuple #[.int .i64 0, .bool false]) w := fun _ => by kernel_rfl
  refine callsD_of_wpS Tryd.func10 rfl fun c₀ cs hu => ?_
  apply wpS_seq
  apply wpS_region
  simp [wpOpsS, go_sem, recoverD, hu, Tryd.ntmps10, Exit.thenS, bodyPostS, results, Tryd.results10]
  have et : #[Value.pointer (some ⟨a1, 0, none⟩), Value.pointer (some ⟨a2, 0, none⟩), Value.pointer (some ⟨a3, 0, none⟩), Value.pointer (some ⟨a4, 0, none⟩)] ++ (Array.replicate 12 undef).setIfInBounds 2 (.iface 42 (.agg #[])) = #[.pointer (some ⟨a1, 0, none⟩), .pointer (some ⟨a2, 0, none⟩), .pointer (some ⟨a3, 0, none⟩), .pointer (some ⟨a4, 0, none⟩), undef, undef, .iface 42 (.agg #[]), undef, undef, undef, undef, undef, undef, undef, undef, undef] := rfl
  rw [et]
  clear et
  refine wpS_of_wp ?_
  go_wp2_with fail
  simp [bodyPostS, results, Tryd.results10]
  obtain ⟨q1, q2, q3, q4⟩ := set3c (x := .slice none 0 0) (y := .int .i64 s.size) (z := .int .i64 11) h23 h34 c2 c3 c4
  have hsz : (((w.setCell ⟨a2, 0, none⟩ (.slice none 0 0)).setCell ⟨a3, 0, none⟩ (.int .i64 s.size)).setCell ⟨a4, 0, none⟩ (.int .i64 11)).heap.size = w.heap.size := by simp
  have qb := (BW.refl (((w.setCell ⟨a2, 0, none⟩ (.slice none 0 0)).setCell ⟨a3, 0, none⟩ (.int .i64 s.size)).setCell ⟨a4, 0, none⟩ (.int .i64 11))).alloc (.cells #[] 42)
  exact ⟨(qb.cells a2 0 (by omega)).trans q1, (qb.cells a3 0 (by omega)).trans q2, (qb.cells a4 0 (by omega)).trans q3, q4.trans (Below.mono qb (by omega))⟩
set_option maxRecDepth 100000 in
set_option maxHeartbeats 1000000 in
theorem catch_misf (a1 a2 a3 a4 : Nat) (s : ByteArray) (p : Int) (w : World) (h12 : a1 < a2) (h23 : a2 < a3) (h34 : a3 < a4) (c1 : w.cell? ⟨a1, 0, none⟩ = some (.string s)) (c2 : w.cell? ⟨a2, 0, none⟩ = some (.slice none 0 0)) (c3 : w.cell? ⟨a3, 0, none⟩ = some (.int .i64 0)) (c4 : w.cell? ⟨a4, 0, none⟩ = some (.int .i64 0)) (z2 : w.frozen? ⟨a2, 0, none⟩ = false) (z3 : w.frozen? ⟨a3, 0, none⟩ = false) (z4 : w.frozen? ⟨a4, 0, none⟩ = false) (hz : a4 < w.heap.size) : CallsD Tryd.prog 10 #[.pointer (some ⟨a1, 0, none⟩), .pointer (some ⟨a2, 0, none⟩), .pointer (some ⟨a3, 0, none⟩), .pointer (some ⟨a4, 0, none⟩)] (.panicking [{ v := .iface 43 (.int .i64 p), recovered := false }]) w fun e u' w' =>
    e = .returned (.tuple #[]) ∧ u' = .panicking [{ v := .iface 43 (.int .i64 p), recovered := true }] ∧ w'.cell? ⟨a2, 0, none⟩ = some (.slice none 0 0) ∧ w'.cell? ⟨a3, 0, none⟩ = some (.int .i64 p) ∧ w'.cell? ⟨a4, 0, none⟩ = some (.int .i64 10) ∧ Below a2 w w' := by
  have l1 : a1 < w.heap.size := by omega
  have l2 : a2 < w.heap.size := by omega
  have l3 : a3 < w.heap.size := by omega
  have n1 : ¬ a1 = w.heap.size := by omega
  have n2 : ¬ a2 = w.heap.size := by omega
  have n3 : ¬ a3 = w.heap.size := by omega
  have n4 : ¬ a4 = w.heap.size := by omega
  have m1 : ¬ a2 = a3 := by omega
  have m2 : ¬ a2 = a4 := by omega
  have m3 : ¬ a3 = a4 := by omega
  have m4 : ¬ a3 = a2 := by omega
  have m5 : ¬ a4 = a2 := by omega
  have m6 : ¬ a4 = a3 := by omega
  have m7 : ¬ a1 = a2 := by omega
  have k1 : ∀ w : World, (Instr.typeAssert (.iface 43 (.int .i64 p)) 20 42 true).run Tryd.prog w = .ok (.tuple #[.agg #[], .bool false]) w := fun _ => by kernel_rfl
  have k2 : ∀ w : World, (Instr.typeAssert (.iface 43 (.int .i64 p)) 20 43 true).run Tryd.prog w = .ok (.tuple #[.int .i64 p, .bool true]) w := fun _ => by kernel_rfl
  refine callsD_of_wpS Tryd.func10 rfl fun c₀ cs hu => ?_
  apply wpS_seq
  apply wpS_region
  simp [wpOpsS, go_sem, recoverD, hu, Tryd.ntmps10, Exit.thenS, bodyPostS, results, Tryd.results10]
  have et : #[Value.pointer (some ⟨a1, 0, none⟩), Value.pointer (some ⟨a2, 0, none⟩), Value.pointer (some ⟨a3, 0, none⟩), Value.pointer (some ⟨a4, 0, none⟩)] ++ (Array.replicate 12 undef).setIfInBounds 2 (.iface 43 (.int .i64 p)) = #[.pointer (some ⟨a1, 0, none⟩), .pointer (some ⟨a2, 0, none⟩), .pointer (some ⟨a3, 0, none⟩), .pointer (some ⟨a4, 0, none⟩), undef, undef, .iface 43 (.int .i64 p), undef, undef, undef, undef, undef, undef, undef, undef, undef] := rfl
  rw [et]
  clear et
  refine wpS_of_wp ?_
  go_wp2_with fail
  simp [bodyPostS, results, Tryd.results10]
  exact set3c h23 h34 c2 c3 c4

end Go.Proofs.YtlacjiihbbgbeaaDoor
