import Derived.Test.YtfgnlddfpemblaaDoorS14
import Derived.Test.YtfgnlddfpemblaaDoorS9
import Derived.Deep.RegionHeld3
namespace Go.Proofs.YtfgnlddfpemblaaDoor
open Go.RowKit
set_option linter.unusedVariables false
set_option linter.unusedSimpArgs false

theorem new2_a (w : World) (o1 o2 : Obj) : ((w.alloc o1).alloc o2).heap[w.heap.size]? = some o1 := by
  rw [Below.heap_alloc _ _ _ (by simp)]
  exact heap_alloc_new w o1
theorem new2_b (w : World) (o1 o2 : Obj) : ((w.alloc o1).alloc o2).heap[w.heap.size + 1]? = some o2 := by
  have := heap_alloc_new (w.alloc o1) o2
  simpa using this

set_option maxRecDepth 100000 in
set_option maxHeartbeats 2000000 in
theorem showPairs_no1 (ta na : Int) (sa : ByteArray) (tb nb : Int) (sb : ByteArray) (ma mb : Bool) (hA : Hid (∀ w1, Calls Tryd.prog 10 #[V ta na sa] w1 fun e w' => e = .returned (.bool ma) ∧ BW w1 w')) (hB : Hid (∀ w1, Calls Tryd.prog 10 #[V tb nb sb] w1 fun e w' => e = .returned (.bool mb) ∧ BW w1 w')) (e1 : ma = false) (w : World) (ht : Tab w) : Calls Tryd.prog 6 #[V ta na sa, V tb nb sb] w fun e w' => e = .returned (.bool true) ∧ BW w w' := by
  subst e1
  go_enter Tryd.func6, Tryd.ntmps6
  go_wp2_with (fail)
  refine (hA.out _).mono ?_
  rintro e w1 ⟨rfl, hb1⟩
  have hz := hb1.size
  simp at hz
  have B1 : w1.heap[w.heap.size]? = some (.cells #[.int .u8 ta, .int .i64 na, .string sa] 24 (0, 0)) := (hb1.block _ (by simp; omega)).trans (new2_a _ _ _)
  have B2 : w1.heap[w.heap.size + 1]? = some (.cells #[.int .u8 tb, .int .i64 nb, .string sb] 24 (0, 0)) := (hb1.block _ (by simp)).trans (new2_b _ _ _)
  have hb : BW w w1 := BW.trans (by repeat (first | exact BW.refl _ | apply BW.alloc | apply BW.drewN | apply BW.drew)) hb1
  clear hb1
  have B1c0 : w1.cell? ⟨w.heap.size, 0, none⟩ = some (.int .u8 ta) := (by simp only [World.cell?, B1]; rfl)
  have B1c1 : w1.cell? ⟨w.heap.size, 1, none⟩ = some (.int .i64 na) := (by simp only [World.cell?, B1]; rfl)
  have B1c2 : w1.cell? ⟨w.heap.size, 2, none⟩ = some (.string sa) := (by simp only [World.cell?, B1]; rfl)
  have B2c0 : w1.cell? ⟨w.heap.size + 1, 0, none⟩ = some (.int .u8 tb) := (by simp only [World.cell?, B2]; rfl)
  have B2c1 : w1.cell? ⟨w.heap.size + 1, 1, none⟩ = some (.int .i64 nb) := (by simp only [World.cell?, B2]; rfl)
  have B2c2 : w1.cell? ⟨w.heap.size + 1, 2, none⟩ = some (.string sb) := (by simp only [World.cell?, B2]; rfl)
  go_wp2_with (fail)
  refine (awake_any _ (ht.bw hb)).mono ?_
  rintro e w9 ⟨rfl, hb9⟩
  go_wp2_with (fail)
  go_ret
  exact ⟨rfl, hb.trans hb9⟩

set_option maxRecDepth 100000 in
set_option maxHeartbeats 2000000 in
theorem showPairs_no2 (ta na : Int) (sa : ByteArray) (tb nb : Int) (sb : ByteArray) (ma mb : Bool) (hA : Hid (∀ w1, Calls Tryd.prog 10 #[V ta na sa] w1 fun e w' => e = .returned (.bool ma) ∧ BW w1 w')) (hB : Hid (∀ w1, Calls Tryd.prog 10 #[V tb nb sb] w1 fun e w' => e = .returned (.bool mb) ∧ BW w1 w')) (e1 : ma = true) (e2 : mb = false) (w : World) (ht : Tab w) : Calls Tryd.prog 6 #[V ta na sa, V tb nb sb] w fun e w' => e = .returned (.bool true) ∧ BW w w' := by
  subst e1 e2
  go_enter Tryd.func6, Tryd.ntmps6
  go_wp2_with (fail)
  refine (hA.out _).mono ?_
  rintro e w1 ⟨rfl, hb1⟩
  have hz := hb1.size
  simp at hz
  have B1 : w1.heap[w.heap.size]? = some (.cells #[.int .u8 ta, .int .i64 na, .string sa] 24 (0, 0)) := (hb1.block _ (by simp; omega)).trans (new2_a _ _ _)
  have B2 : w1.heap[w.heap.size + 1]? = some (.cells #[.int .u8 tb, .int .i64 nb, .string sb] 24 (0, 0)) := (hb1.block _ (by simp)).trans (new2_b _ _ _)
  have hb : BW w w1 := BW.trans (by repeat (first | exact BW.refl _ | apply BW.alloc | apply BW.drewN | apply BW.drew)) hb1
  clear hb1
  have B1c0 : w1.cell? ⟨w.heap.size, 0, none⟩ = some (.int .u8 ta) := (by simp only [World.cell?, B1]; rfl)
  have B1c1 : w1.cell? ⟨w.heap.size, 1, none⟩ = some (.int .i64 na) := (by simp only [World.cell?, B1]; rfl)
  have B1c2 : w1.cell? ⟨w.heap.size, 2, none⟩ = some (.string sa) := (by simp only [World.cell?, B1]; rfl)
  have B2c0 : w1.cell? ⟨w.heap.size + 1, 0, none⟩ = some (.int .u8 tb) := (by simp only [World.cell?, B2]; rfl)
  have B2c1 : w1.cell? ⟨w.heap.size + 1, 1, none⟩ = some (.int .i64 nb) := (by simp only [World.cell?, B2]; rfl)
  have B2c2 : w1.cell? ⟨w.heap.size + 1, 2, none⟩ = some (.string sb) := (by simp only [World.cell?, B2]; rfl)
  go_wp2_with (fail)
  refine (hB.out _).mono ?_
  rintro e w2 ⟨rfl, hb2⟩
  have hz2 := hb2.size
  clear B1c0 B1c1 B1c2 B2c0 B2c1 B2c2
  replace B1 := (hb2.block _ (by omega)).trans B1
  replace B2 := (hb2.block _ (by omega)).trans B2
  replace hb := hb.trans hb2
  clear hb2
  have B1c0 : w2.cell? ⟨w.heap.size, 0, none⟩ = some (.int .u8 ta) := (by simp only [World.cell?, B1]; rfl)
  have B1c1 : w2.cell? ⟨w.heap.size, 1, none⟩ = some (.int .i64 na) := (by simp only [World.cell?, B1]; rfl)
  have B1c2 : w2.cell? ⟨w.heap.size, 2, none⟩ = some (.string sa) := (by simp only [World.cell?, B1]; rfl)
  have B2c0 : w2.cell? ⟨w.heap.size + 1, 0, none⟩ = some (.int .u8 tb) := (by simp only [World.cell?, B2]; rfl)
  have B2c1 : w2.cell? ⟨w.heap.size + 1, 1, none⟩ = some (.int .i64 nb) := (by simp only [World.cell?, B2]; rfl)
  have B2c2 : w2.cell? ⟨w.heap.size + 1, 2, none⟩ = some (.string sb) := (by simp only [World.cell?, B2]; rfl)
  go_wp2_with (fail)
  refine (awake_any _ (ht.bw hb)).mono ?_
  rintro e w9 ⟨rfl, hb9⟩
  go_wp2_with (fail)
  go_ret
  exact ⟨rfl, hb.trans hb9⟩

set_option maxRecDepth 100000 in
set_option maxHeartbeats 2000000 in
theorem showPairs_no3 (ta na : Int) (sa : ByteArray) (tb nb : Int) (sb : ByteArray) (ma mb : Bool) (hA : Hid (∀ w1, Calls Tryd.prog 10 #[V ta na sa] w1 fun e w' => e = .returned (.bool ma) ∧ BW w1 w')) (hB : Hid (∀ w1, Calls Tryd.prog 10 #[V tb nb sb] w1 fun e w' => e = .returned (.bool mb) ∧ BW w1 w')) (e1 : ma = true) (e2 : mb = true) (e3 : (ta == 4) = true) (w : World) (ht : Tab w) : Calls Tryd.prog 6 #[V ta na sa, V tb nb sb] w fun e w' => e = .returned (.bool true) ∧ BW w w' := by
  subst e1 e2
  go_enter Tryd.func6, Tryd.ntmps6
  go_wp2_with (fail)
  refine (hA.out _).mono ?_
  rintro e w1 ⟨rfl, hb1⟩
  have hz := hb1.size
  simp at hz
  have B1 : w1.heap[w.heap.size]? = some (.cells #[.int .u8 ta, .int .i64 na, .string sa] 24 (0, 0)) := (hb1.block _ (by simp; omega)).trans (new2_a _ _ _)
  have B2 : w1.heap[w.heap.size + 1]? = some (.cells #[.int .u8 tb, .int .i64 nb, .string sb] 24 (0, 0)) := (hb1.block _ (by simp)).trans (new2_b _ _ _)
  have hb : BW w w1 := BW.trans (by repeat (first | exact BW.refl _ | apply BW.alloc | apply BW.drewN | apply BW.drew)) hb1
  clear hb1
  have B1c0 : w1.cell? ⟨w.heap.size, 0, none⟩ = some (.int .u8 ta) := (by simp only [World.cell?, B1]; rfl)
  have B1c1 : w1.cell? ⟨w.heap.size, 1, none⟩ = some (.int .i64 na) := (by simp only [World.cell?, B1]; rfl)
  have B1c2 : w1.cell? ⟨w.heap.size, 2, none⟩ = some (.string sa) := (by simp only [World.cell?, B1]; rfl)
  have B2c0 : w1.cell? ⟨w.heap.size + 1, 0, none⟩ = some (.int .u8 tb) := (by simp only [World.cell?, B2]; rfl)
  have B2c1 : w1.cell? ⟨w.heap.size + 1, 1, none⟩ = some (.int .i64 nb) := (by simp only [World.cell?, B2]; rfl)
  have B2c2 : w1.cell? ⟨w.heap.size + 1, 2, none⟩ = some (.string sb) := (by simp only [World.cell?, B2]; rfl)
  go_wp2_with (fail)
  refine (hB.out _).mono ?_
  rintro e w2 ⟨rfl, hb2⟩
  have hz2 := hb2.size
  clear B1c0 B1c1 B1c2 B2c0 B2c1 B2c2
  replace B1 := (hb2.block _ (by omega)).trans B1
  replace B2 := (hb2.block _ (by omega)).trans B2
  replace hb := hb.trans hb2
  clear hb2
  have B1c0 : w2.cell? ⟨w.heap.size, 0, none⟩ = some (.int .u8 ta) := (by simp only [World.cell?, B1]; rfl)
  have B1c1 : w2.cell? ⟨w.heap.size, 1, none⟩ = some (.int .i64 na) := (by simp only [World.cell?, B1]; rfl)
  have B1c2 : w2.cell? ⟨w.heap.size, 2, none⟩ = some (.string sa) := (by simp only [World.cell?, B1]; rfl)
  have B2c0 : w2.cell? ⟨w.heap.size + 1, 0, none⟩ = some (.int .u8 tb) := (by simp only [World.cell?, B2]; rfl)
  have B2c1 : w2.cell? ⟨w.heap.size + 1, 1, none⟩ = some (.int .i64 nb) := (by simp only [World.cell?, B2]; rfl)
  have B2c2 : w2.cell? ⟨w.heap.size + 1, 2, none⟩ = some (.string sb) := (by simp only [World.cell?, B2]; rfl)
  go_wp2_with (fail)
  refine (awake_any _ (ht.bw hb)).mono ?_
  rintro e w9 ⟨rfl, hb9⟩
  go_wp2_with (fail)
  go_ret
  exact ⟨rfl, hb.trans hb9⟩

set_option maxRecDepth 100000 in
set_option maxHeartbeats 2000000 in
theorem showPairs_no4 (ta na : Int) (sa : ByteArray) (tb nb : Int) (sb : ByteArray) (ma mb : Bool) (hA : Hid (∀ w1, Calls Tryd.prog 10 #[V ta na sa] w1 fun e w' => e = .returned (.bool ma) ∧ BW w1 w')) (hB : Hid (∀ w1, Calls Tryd.prog 10 #[V tb nb sb] w1 fun e w' => e = .returned (.bool mb) ∧ BW w1 w')) (e1 : ma = true) (e2 : mb = true) (e3 : (ta == 4) = false) (e4 : (tb == 4) = true) (w : World) (ht : Tab w) : Calls Tryd.prog 6 #[V ta na sa, V tb nb sb] w fun e w' => e = .returned (.bool true) ∧ BW w w' := by
  subst e1 e2
  go_enter Tryd.func6, Tryd.ntmps6
  go_wp2_with (fail)
  refine (hA.out _).mono ?_
  rintro e w1 ⟨rfl, hb1⟩
  have hz := hb1.size
  simp at hz
  have B1 : w1.heap[w.heap.size]? = some (.cells #[.int .u8 ta, .int .i64 na, .string sa] 24 (0, 0)) := (hb1.block _ (by simp; omega)).trans (new2_a _ _ _)
  have B2 : w1.heap[w.heap.size + 1]? = some (.cells #[.int .u8 tb, .int .i64 nb, .string sb] 24 (0, 0)) := (hb1.block _ (by simp)).trans (new2_b _ _ _)
  have hb : BW w w1 := BW.trans (by repeat (first | exact BW.refl _ | apply BW.alloc | apply BW.drewN | apply BW.drew)) hb1
  clear hb1
  have B1c0 : w1.cell? ⟨w.heap.size, 0, none⟩ = some (.int .u8 ta) := (by simp only [World.cell?, B1]; rfl)
  have B1c1 : w1.cell? ⟨w.heap.size, 1, none⟩ = some (.int .i64 na) := (by simp only [World.cell?, B1]; rfl)
  have B1c2 : w1.cell? ⟨w.heap.size, 2, none⟩ = some (.string sa) := (by simp only [World.cell?, B1]; rfl)
  have B2c0 : w1.cell? ⟨w.heap.size + 1, 0, none⟩ = some (.int .u8 tb) := (by simp only [World.cell?, B2]; rfl)
  have B2c1 : w1.cell? ⟨w.heap.size + 1, 1, none⟩ = some (.int .i64 nb) := (by simp only [World.cell?, B2]; rfl)
  have B2c2 : w1.cell? ⟨w.heap.size + 1, 2, none⟩ = some (.string sb) := (by simp only [World.cell?, B2]; rfl)
  go_wp2_with (fail)
  refine (hB.out _).mono ?_
  rintro e w2 ⟨rfl, hb2⟩
  have hz2 := hb2.size
  clear B1c0 B1c1 B1c2 B2c0 B2c1 B2c2
  replace B1 := (hb2.block _ (by omega)).trans B1
  replace B2 := (hb2.block _ (by omega)).trans B2
  replace hb := hb.trans hb2
  clear hb2
  have B1c0 : w2.cell? ⟨w.heap.size, 0, none⟩ = some (.int .u8 ta) := (by simp only [World.cell?, B1]; rfl)
  have B1c1 : w2.cell? ⟨w.heap.size, 1, none⟩ = some (.int .i64 na) := (by simp only [World.cell?, B1]; rfl)
  have B1c2 : w2.cell? ⟨w.heap.size, 2, none⟩ = some (.string sa) := (by simp only [World.cell?, B1]; rfl)
  have B2c0 : w2.cell? ⟨w.heap.size + 1, 0, none⟩ = some (.int .u8 tb) := (by simp only [World.cell?, B2]; rfl)
  have B2c1 : w2.cell? ⟨w.heap.size + 1, 1, none⟩ = some (.int .i64 nb) := (by simp only [World.cell?, B2]; rfl)
  have B2c2 : w2.cell? ⟨w.heap.size + 1, 2, none⟩ = some (.string sb) := (by simp only [World.cell?, B2]; rfl)
  go_wp2_with (fail)
  refine (awake_any _ (ht.bw hb)).mono ?_
  rintro e w9 ⟨rfl, hb9⟩
  go_wp2_with (fail)
  go_ret
  exact ⟨rfl, hb.trans hb9⟩

set_option maxRecDepth 100000 in
set_option maxHeartbeats 2000000 in
theorem showPairs_no5 (ta na : Int) (sa : ByteArray) (tb nb : Int) (sb : ByteArray) (ma mb : Bool) (hA : Hid (∀ w1, Calls Tryd.prog 10 #[V ta na sa] w1 fun e w' => e = .returned (.bool ma) ∧ BW w1 w')) (hB : Hid (∀ w1, Calls Tryd.prog 10 #[V tb nb sb] w1 fun e w' => e = .returned (.bool mb) ∧ BW w1 w')) (e1 : ma = true) (e2 : mb = true) (e3 : (ta == 4) = false) (e4 : (tb == 4) = false) (hsa : sa.size ≤ 65536) (hsb : sb.size ≤ 65536) (e5 : 1000 < sa.size + sb.size) (w : World) (ht : Tab w) : Calls Tryd.prog 6 #[V ta na sa, V tb nb sb] w fun e w' => e = .returned (.bool true) ∧ BW w w' := by
  subst e1 e2
  have e6 : IntKind.i64.wrap ((sa.size : Int) + (sb.size : Int)) = (sa.size : Int) + (sb.size : Int) := i64w _ (by omega) (by omega)
  have e7 : decide ((1000 : Int) < (sa.size : Int) + (sb.size : Int)) = true := by simp; omega
  go_enter Tryd.func6, Tryd.ntmps6
  go_wp2_with (fail)
  refine (hA.out _).mono ?_
  rintro e w1 ⟨rfl, hb1⟩
  have hz := hb1.size
  simp at hz
  have B1 : w1.heap[w.heap.size]? = some (.cells #[.int .u8 ta, .int .i64 na, .string sa] 24 (0, 0)) := (hb1.block _ (by simp; omega)).trans (new2_a _ _ _)
  have B2 : w1.heap[w.heap.size + 1]? = some (.cells #[.int .u8 tb, .int .i64 nb, .string sb] 24 (0, 0)) := (hb1.block _ (by simp)).trans (new2_b _ _ _)
  have hb : BW w w1 := BW.trans (by repeat (first | exact BW.refl _ | apply BW.alloc | apply BW.drewN | apply BW.drew)) hb1
  clear hb1
  have B1c0 : w1.cell? ⟨w.heap.size, 0, none⟩ = some (.int .u8 ta) := (by simp only [World.cell?, B1]; rfl)
  have B1c1 : w1.cell? ⟨w.heap.size, 1, none⟩ = some (.int .i64 na) := (by simp only [World.cell?, B1]; rfl)
  have B1c2 : w1.cell? ⟨w.heap.size, 2, none⟩ = some (.string sa) := (by simp only [World.cell?, B1]; rfl)
  have B2c0 : w1.cell? ⟨w.heap.size + 1, 0, none⟩ = some (.int .u8 tb) := (by simp only [World.cell?, B2]; rfl)
  have B2c1 : w1.cell? ⟨w.heap.size + 1, 1, none⟩ = some (.int .i64 nb) := (by simp only [World.cell?, B2]; rfl)
  have B2c2 : w1.cell? ⟨w.heap.size + 1, 2, none⟩ = some (.string sb) := (by simp only [World.cell?, B2]; rfl)
  go_wp2_with (fail)
  refine (hB.out _).mono ?_
  rintro e w2 ⟨rfl, hb2⟩
  have hz2 := hb2.size
  clear B1c0 B1c1 B1c2 B2c0 B2c1 B2c2
  replace B1 := (hb2.block _ (by omega)).trans B1
  replace B2 := (hb2.block _ (by omega)).trans B2
  replace hb := hb.trans hb2
  clear hb2
  have B1c0 : w2.cell? ⟨w.heap.size, 0, none⟩ = some (.int .u8 ta) := (by simp only [World.cell?, B1]; rfl)
  have B1c1 : w2.cell? ⟨w.heap.size, 1, none⟩ = some (.int .i64 na) := (by simp only [World.cell?, B1]; rfl)
  have B1c2 : w2.cell? ⟨w.heap.size, 2, none⟩ = some (.string sa) := (by simp only [World.cell?, B1]; rfl)
  have B2c0 : w2.cell? ⟨w.heap.size + 1, 0, none⟩ = some (.int .u8 tb) := (by simp only [World.cell?, B2]; rfl)
  have B2c1 : w2.cell? ⟨w.heap.size + 1, 1, none⟩ = some (.int .i64 nb) := (by simp only [World.cell?, B2]; rfl)
  have B2c2 : w2.cell? ⟨w.heap.size + 1, 2, none⟩ = some (.string sb) := (by simp only [World.cell?, B2]; rfl)
  go_wp2_with (fail)
  refine (awake_any _ (ht.bw hb)).mono ?_
  rintro e w9 ⟨rfl, hb9⟩
  go_wp2_with (fail)
  go_ret
  exact ⟨rfl, hb.trans hb9⟩

set_option maxRecDepth 100000 in
set_option maxHeartbeats 2000000 in
theorem showPairs_main (ta na : Int) (sa : ByteArray) (tb nb : Int) (sb : ByteArray) (ma mb : Bool) (hA : Hid (∀ w1, Calls Tryd.prog 10 #[V ta na sa] w1 fun e w' => e = .returned (.bool ma) ∧ BW w1 w')) (hB : Hid (∀ w1, Calls Tryd.prog 10 #[V tb nb sb] w1 fun e w' => e = .returned (.bool mb) ∧ BW w1 w')) (e1 : ma = true) (e2 : mb = true) (e3 : (ta == 4) = false) (e4 : (tb == 4) = false) (hsa : sa.size ≤ 65536) (hsb : sb.size ≤ 65536) (e5 : ¬ 1000 < sa.size + sb.size) (fa : Fine ⟨ta, na, sa⟩) (fb : Fine ⟨tb, nb, sb⟩) (w : World) (ht : Tab w) : Calls Tryd.prog 6 #[V ta na sa, V tb nb sb] w fun e w' => e = .returned (.bool true) ∧ BW w w' := by
  subst e1 e2
  have e6 : IntKind.i64.wrap ((sa.size : Int) + (sb.size : Int)) = (sa.size : Int) + (sb.size : Int) := i64w _ (by omega) (by omega)
  have e7 : decide ((1000 : Int) < (sa.size : Int) + (sb.size : Int)) = false := by simp; omega
  go_enter Tryd.func6, Tryd.ntmps6
  go_wp2_with (fail)
  refine (hA.out _).mono ?_
  rintro e w1 ⟨rfl, hb1⟩
  have hz := hb1.size
  simp at hz
  have B1 : w1.heap[w.heap.size]? = some (.cells #[.int .u8 ta, .int .i64 na, .string sa] 24 (0, 0)) := (hb1.block _ (by simp; omega)).trans (new2_a _ _ _)
  have B2 : w1.heap[w.heap.size + 1]? = some (.cells #[.int .u8 tb, .int .i64 nb, .string sb] 24 (0, 0)) := (hb1.block _ (by simp)).trans (new2_b _ _ _)
  have hb : BW w w1 := BW.trans (by repeat (first | exact BW.refl _ | apply BW.alloc | apply BW.drewN | apply BW.drew)) hb1
  clear hb1
  have B1c0 : w1.cell? ⟨w.heap.size, 0, none⟩ = some (.int .u8 ta) := (by simp only [World.cell?, B1]; rfl)
  have B1c1 : w1.cell? ⟨w.heap.size, 1, none⟩ = some (.int .i64 na) := (by simp only [World.cell?, B1]; rfl)
  have B1c2 : w1.cell? ⟨w.heap.size, 2, none⟩ = some (.string sa) := (by simp only [World.cell?, B1]; rfl)
  have B2c0 : w1.cell? ⟨w.heap.size + 1, 0, none⟩ = some (.int .u8 tb) := (by simp only [World.cell?, B2]; rfl)
  have B2c1 : w1.cell? ⟨w.heap.size + 1, 1, none⟩ = some (.int .i64 nb) := (by simp only [World.cell?, B2]; rfl)
  have B2c2 : w1.cell? ⟨w.heap.size + 1, 2, none⟩ = some (.string sb) := (by simp only [World.cell?, B2]; rfl)
  go_wp2_with (fail)
  refine (hB.out _).mono ?_
  rintro e w2 ⟨rfl, hb2⟩
  have hz2 := hb2.size
  clear B1c0 B1c1 B1c2 B2c0 B2c1 B2c2
  replace B1 := (hb2.block _ (by omega)).trans B1
  replace B2 := (hb2.block _ (by omega)).trans B2
  replace hb := hb.trans hb2
  clear hb2
  have B1c0 : w2.cell? ⟨w.heap.size, 0, none⟩ = some (.int .u8 ta) := (by simp only [World.cell?, B1]; rfl)
  have B1c1 : w2.cell? ⟨w.heap.size, 1, none⟩ = some (.int .i64 na) := (by simp only [World.cell?, B1]; rfl)
  have B1c2 : w2.cell? ⟨w.heap.size, 2, none⟩ = some (.string sa) := (by simp only [World.cell?, B1]; rfl)
  have B2c0 : w2.cell? ⟨w.heap.size + 1, 0, none⟩ = some (.int .u8 tb) := (by simp only [World.cell?, B2]; rfl)
  have B2c1 : w2.cell? ⟨w.heap.size + 1, 1, none⟩ = some (.int .i64 nb) := (by simp only [World.cell?, B2]; rfl)
  have B2c2 : w2.cell? ⟨w.heap.size + 1, 2, none⟩ = some (.string sb) := (by simp only [World.cell?, B2]; rfl)
  go_wp2_with (fail)
  refine (new_any 5 5 (by decide) _).mono ?_
  rintro e w3 ⟨rfl, hw3⟩
  have hH : HeapIs w3 w2.heap.size w2.heap.size 5 0 [] := by rw [hw3]; exact HeapIs.new w2 5
  have hb3 : BW w2 w3 := by rw [hw3]; exact (by repeat (first | exact BW.refl _ | apply BW.alloc | apply BW.drewN | apply BW.drew))
  clear hw3
  have hz3 := hb3.size
  clear B1c0 B1c1 B1c2 B2c0 B2c1 B2c2
  replace B1 := (hb3.block _ (by omega)).trans B1
  replace B2 := (hb3.block _ (by omega)).trans B2
  have B1c0 : w3.cell? ⟨w.heap.size, 0, none⟩ = some (.int .u8 ta) := (by simp only [World.cell?, B1]; rfl)
  have B1c1 : w3.cell? ⟨w.heap.size, 1, none⟩ = some (.int .i64 na) := (by simp only [World.cell?, B1]; rfl)
  have B1c2 : w3.cell? ⟨w.heap.size, 2, none⟩ = some (.string sa) := (by simp only [World.cell?, B1]; rfl)
  have B2c0 : w3.cell? ⟨w.heap.size + 1, 0, none⟩ = some (.int .u8 tb) := (by simp only [World.cell?, B2]; rfl)
  have B2c1 : w3.cell? ⟨w.heap.size + 1, 1, none⟩ = some (.int .i64 nb) := (by simp only [World.cell?, B2]; rfl)
  have B2c2 : w3.cell? ⟨w.heap.size + 1, 2, none⟩ = some (.string sb) := (by simp only [World.cell?, B2]; rfl)
  go_wp2_with (fail)
  refine (pair_room w2.heap.size w2.heap.size 5 0 [] (by decide) (by decide) ta na sa tb nb sb _ hH).mono ?_
  rintro e w4 ⟨rfl, H4, F4⟩
  have hb4 : BW w w4 := hb.trans (Below.trans (B := w2.heap.size) hb3 F4.bel)
  clear B1c0 B1c1 B1c2 B2c0 B2c1 B2c2
  have hz4 := F4.size
  replace B1 := F4.at24 B1 (by omega)
  replace B2 := F4.at24 B2 (by omega)
  have hlt4 := H4.lt
  clear hH F4 hb3 hb
  have hz5 : w.heap.size + 1 + 1 ≤ w4.heap.size := by omega
  generalize w2.heap.size = hk at *
  clear hz hz2 hz3 hz4
  have B1c0 : w4.cell? ⟨w.heap.size, 0, none⟩ = some (.int .u8 ta) := (by simp only [World.cell?, B1]; rfl)
  have B1c1 : w4.cell? ⟨w.heap.size, 1, none⟩ = some (.int .i64 na) := (by simp only [World.cell?, B1]; rfl)
  have B1c2 : w4.cell? ⟨w.heap.size, 2, none⟩ = some (.string sa) := (by simp only [World.cell?, B1]; rfl)
  have B2c0 : w4.cell? ⟨w.heap.size + 1, 0, none⟩ = some (.int .u8 tb) := (by simp only [World.cell?, B2]; rfl)
  have B2c1 : w4.cell? ⟨w.heap.size + 1, 1, none⟩ = some (.int .i64 nb) := (by simp only [World.cell?, B2]; rfl)
  have B2c2 : w4.cell? ⟨w.heap.size + 1, 2, none⟩ = some (.string sb) := (by simp only [World.cell?, B2]; rfl)
  go_wp2_with (fail)
  obtain ⟨W, hW⟩ : ∃ W, W = w4.alloc (.cells #[.int .u8 4, .int .i64 0, .string ⟨#[]⟩] 24) := ⟨_, rfl⟩
  rw [← hW]
  have hbW : BW w W := by rw [hW]; exact hb4.trans (by repeat (first | exact BW.refl _ | apply BW.alloc | apply BW.drewN | apply BW.drew))
  have HW : HeapIs W hk hk 5 (0 + 1) ([] ++ thing 4 ta na sa tb nb sb 0) := by rw [hW]; exact H4.bw (by repeat (first | exact BW.refl _ | apply BW.alloc | apply BW.drewN | apply BW.drew))
  have B3 : W.heap[w4.heap.size]? = some (.cells #[.int .u8 4, .int .i64 0, .string ⟨#[]⟩] 24 (0, 0)) := by rw [hW]; exact heap_alloc_new _ _
  have hzW : w4.heap.size < W.heap.size := by rw [hW]; simp
  clear B1c0 B1c1 B1c2 B2c0 B2c1 B2c2
  have hb5 : BW w4 W := by rw [hW]; exact (by repeat (first | exact BW.refl _ | apply BW.alloc | apply BW.drewN | apply BW.drew))
  replace B1 := (hb5.block _ (by omega)).trans B1
  replace B2 := (hb5.block _ (by omega)).trans B2
  clear hb5
  clear hW hb4 H4
  have B1c0 : W.cell? ⟨w.heap.size, 0, none⟩ = some (.int .u8 ta) := (by simp only [World.cell?, B1]; rfl)
  have B1c1 : W.cell? ⟨w.heap.size, 1, none⟩ = some (.int .i64 na) := (by simp only [World.cell?, B1]; rfl)
  have B1c2 : W.cell? ⟨w.heap.size, 2, none⟩ = some (.string sa) := (by simp only [World.cell?, B1]; rfl)
  have B2c0 : W.cell? ⟨w.heap.size + 1, 0, none⟩ = some (.int .u8 tb) := (by simp only [World.cell?, B2]; rfl)
  have B2c1 : W.cell? ⟨w.heap.size + 1, 1, none⟩ = some (.int .i64 nb) := (by simp only [World.cell?, B2]; rfl)
  have B2c2 : W.cell? ⟨w.heap.size + 1, 2, none⟩ = some (.string sb) := (by simp only [World.cell?, B2]; rfl)
  have B3c0 : W.cell? ⟨w4.heap.size, 0, none⟩ = some (.int .u8 4) := (by simp only [World.cell?, B3]; rfl)
  have B3c1 : W.cell? ⟨w4.heap.size, 1, none⟩ = some (.int .i64 0) := (by simp only [World.cell?, B3]; rfl)
  have B3c2 : W.cell? ⟨w4.heap.size, 2, none⟩ = some (.string ⟨#[]⟩) := (by simp only [World.cell?, B3]; rfl)
  have hLk : Look W.heap.size (.iface 26 (.pointer (some ⟨hk, 0, none⟩))) (look [(⟨ta, na, sa⟩, ⟨tb, nb, sb⟩)]) W := Look.heap (ps := [(⟨ta, na, sa⟩, ⟨tb, nb, sb⟩)]) HW (by show 1 ≤ 1048576; omega)
  have hTW := ht.bw hbW
  have hlf := look_fine (ps := [(⟨ta, na, sa⟩, ⟨tb, nb, sb⟩)]) (by intro p hp; simp at hp; subst hp; exact ⟨fa, fb⟩)
  have ea : ∀ f d, sho f d ⟨ta, na, sa⟩ = flat ⟨ta, na, sa⟩ := fun f d => by cases d with | zero => rfl | succ d => rw [sho, if_neg (by simpa using e3)]
  have eb : ∀ f d, sho f d ⟨tb, nb, sb⟩ = flat ⟨tb, nb, sb⟩ := fun f d => by cases d with | zero => rfl | succ d => rw [sho, if_neg (by simpa using e4)]
  have hP : Hid (∀ v, BW W v → Calls Tryd.prog 12 #[.iface 26 (.pointer (some ⟨hk, 0, none⟩)), V 4 0 ⟨#[]⟩] v fun e w' => e = .returned (.string (⟨#[40]⟩ ++ ⟨(flat ⟨ta, na, sa⟩).toArray⟩ ++ ⟨#[32, 46, 32]⟩ ++ ⟨(flat ⟨tb, nb, sb⟩).toArray⟩ ++ ⟨#[41]⟩)) ∧ BW v w') := by
    intro v hv
    have := show_any _ _ hlf ⟨4, 0, ⟨#[]⟩⟩ (fine4 0 (by omega)) v (hLk.up hv.size hv) (hTW.bw hv)
    have e : sho (look [(⟨ta, na, sa⟩, ⟨tb, nb, sb⟩)]) 6 ⟨4, 0, ⟨#[]⟩⟩ = 40 :: (flat ⟨ta, na, sa⟩ ++ [32, 46, 32] ++ flat ⟨tb, nb, sb⟩ ++ [41]) := by
      rw [sho, if_pos rfl]
      simp [look, ea, eb]
    rw [e] at this
    have e9 : (⟨#[40]⟩ ++ ⟨(flat ⟨ta, na, sa⟩).toArray⟩ ++ ⟨#[32, 46, 32]⟩ ++ ⟨(flat ⟨tb, nb, sb⟩).toArray⟩ ++ ⟨#[41]⟩ : ByteArray) = ⟨(40 :: (flat ⟨ta, na, sa⟩ ++ [32, 46, 32] ++ flat ⟨tb, nb, sb⟩ ++ [41])).toArray⟩ := by
      apply ByteArray.ext
      simp [ByteArray.data_append]
    rw [e9]
    exact this
  have hSa : Hid (∀ v, BW W v → Calls Tryd.prog 12 #[.iface 26 (.pointer (some ⟨hk, 0, none⟩)), V ta na sa] v fun e w' => e = .returned (.string ⟨(flat ⟨ta, na, sa⟩).toArray⟩) ∧ BW v w') := by
    intro v hv
    have := show_any _ _ hlf ⟨ta, na, sa⟩ fa v (hLk.up hv.size hv) (hTW.bw hv)
    rw [ea] at this
    exact this
  have hSb : Hid (∀ v, BW W v → Calls Tryd.prog 12 #[.nilIface, V tb nb sb] v fun e w' => e = .returned (.string ⟨(flat ⟨tb, nb, sb⟩).toArray⟩) ∧ BW v w') := by
    intro v hv
    have := show_any .nilIface (fun _ => none) (fun _ _ _ h => by cases h) ⟨tb, nb, sb⟩ fb v (Look.none _ _) (hTW.bw hv)
    rw [eb] at this
    exact this
  have hAw : Hid (∀ v, BW W v → Calls Tryd.prog 8 #[] v fun e w' => e = .returned (.bool true) ∧ BW v w') := fun v hv => awake_any v (hTW.bw hv)
  have la : (⟨(flat ⟨ta, na, sa⟩).toArray⟩ : ByteArray).size ≤ 4002 := by
    show (flat ⟨ta, na, sa⟩).toArray.size ≤ _
    rw [List.size_toArray]; exact flat_len' _ fa
  have lb : (⟨(flat ⟨tb, nb, sb⟩).toArray⟩ : ByteArray).size ≤ 4002 := by
    show (flat ⟨tb, nb, sb⟩).toArray.size ≤ _
    rw [List.size_toArray]; exact flat_len' _ fb
  clear hLk hlf ea eb HW hTW ht fa fb hA hB B1 B2 B3 e5 e6 e7
  generalize (⟨(flat ⟨ta, na, sa⟩).toArray⟩ : ByteArray) = xa at *
  generalize (⟨(flat ⟨tb, nb, sb⟩).toArray⟩ : ByteArray) = xb at *
  have hc1 : ∀ v : World, (Op.stringOp .add ⟨#[40]⟩ xa).run Tryd.prog v = .ok (.string (⟨#[40]⟩ ++ xa)) v := fun v => run_string_add_sum v _ _ (by show 1 + xa.size ≤ _; omega)
  have hc2 : ∀ v : World, (Op.stringOp .add (⟨#[40]⟩ ++ xa) ⟨#[32, 46, 32]⟩).run Tryd.prog v = .ok (.string (⟨#[40]⟩ ++ xa ++ ⟨#[32, 46, 32]⟩)) v := fun v => run_string_add_sum v _ _ (by rw [ByteArray.size_append]; show 1 + xa.size + 3 ≤ _; omega)
  have hc3 : ∀ v : World, (Op.stringOp .add (⟨#[40]⟩ ++ xa ++ ⟨#[32, 46, 32]⟩) xb).run Tryd.prog v = .ok (.string (⟨#[40]⟩ ++ xa ++ ⟨#[32, 46, 32]⟩ ++ xb)) v := fun v => run_string_add_sum v _ _ (by rw [ByteArray.size_append, ByteArray.size_append]; show 1 + xa.size + 3 + xb.size ≤ _; omega)
  have hc4 : ∀ v : World, (Op.stringOp .add (⟨#[40]⟩ ++ xa ++ ⟨#[32, 46, 32]⟩ ++ xb) ⟨#[41]⟩).run Tryd.prog v = .ok (.string (⟨#[40]⟩ ++ xa ++ ⟨#[32, 46, 32]⟩ ++ xb ++ ⟨#[41]⟩)) v := fun v => run_string_add_sum v _ _ (by rw [ByteArray.size_append, ByteArray.size_append, ByteArray.size_append]; show 1 + xa.size + 3 + xb.size + 1 ≤ _; omega)
  have n0 : w.heap.size < W.heap.size := by omega
  have n1 : w.heap.size + 1 < W.heap.size := by omega
  go_region_held3 (fun w' => w'.cell? ⟨w.heap.size, 0, none⟩ = some (.int .u8 ta) ∧ w'.cell? ⟨w.heap.size, 1, none⟩ = some (.int .i64 na) ∧ w'.cell? ⟨w.heap.size, 2, none⟩ = some (.string sa) ∧ w'.cell? ⟨w.heap.size + 1, 0, none⟩ = some (.int .u8 tb) ∧ w'.cell? ⟨w.heap.size + 1, 1, none⟩ = some (.int .i64 nb) ∧ w'.cell? ⟨w.heap.size + 1, 2, none⟩ = some (.string sb) ∧ w'.cell? ⟨w4.heap.size, 0, none⟩ = some (.int .u8 4) ∧ w'.cell? ⟨w4.heap.size, 1, none⟩ = some (.int .i64 0) ∧ w'.cell? ⟨w4.heap.size, 2, none⟩ = some (.string ⟨#[]⟩)) (go_keep) (first | (go_at_call 8; refine (hAw.out _ (by repeat (first | exact BW.refl _ | assumption | apply BW.alloc | apply BW.drewN | apply BW.drew | (refine BW.setCell ?_ (by first | omega | (simp; done) | (simp; omega)) _) | (refine BW.trans ?_ (by assumption))))).mono ?_; rintro e v4 ⟨rfl, hbv4⟩; have hzv4 := hbv4.size; (try simp at hzv4); have v4q0 := fun o => hbv4.cells (w.heap.size) o (by first | omega | (simp; done) | (simp; omega)); have v4q1 := fun o => hbv4.cells (w.heap.size + 1) o (by first | omega | (simp; done) | (simp; omega)); have v4q2 := fun o => hbv4.cells (w4.heap.size) o (by first | omega | (simp; done) | (simp; omega)); have nv4 : w4.heap.size < v4.heap.size := (by omega)) | (go_at_call_of 12 Value.nilIface; refine (hSb.out _ (by repeat (first | exact BW.refl _ | assumption | apply BW.alloc | apply BW.drewN | apply BW.drew | (refine BW.setCell ?_ (by first | omega | (simp; done) | (simp; omega)) _) | (refine BW.trans ?_ (by assumption))))).mono ?_; rintro e v3 ⟨rfl, hbv3⟩; have hzv3 := hbv3.size; (try simp at hzv3); have v3q0 := fun o => hbv3.cells (w.heap.size) o (by first | omega | (simp; done) | (simp; omega)); have v3q1 := fun o => hbv3.cells (w.heap.size + 1) o (by first | omega | (simp; done) | (simp; omega)); have v3q2 := fun o => hbv3.cells (w4.heap.size) o (by first | omega | (simp; done) | (simp; omega)); have nv3 : w4.heap.size < v3.heap.size := (by omega)) | (go_at_call_of 12 (Value.agg #[Value.int .u8 ta, Value.int .i64 na, Value.string sa]); refine (hSa.out _ (by repeat (first | exact BW.refl _ | assumption | apply BW.alloc | apply BW.drewN | apply BW.drew | (refine BW.setCell ?_ (by first | omega | (simp; done) | (simp; omega)) _) | (refine BW.trans ?_ (by assumption))))).mono ?_; rintro e v2 ⟨rfl, hbv2⟩; have hzv2 := hbv2.size; (try simp at hzv2); have v2q0 := fun o => hbv2.cells (w.heap.size) o (by first | omega | (simp; done) | (simp; omega)); have v2q1 := fun o => hbv2.cells (w.heap.size + 1) o (by first | omega | (simp; done) | (simp; omega)); have v2q2 := fun o => hbv2.cells (w4.heap.size) o (by first | omega | (simp; done) | (simp; omega)); have nv2 : w4.heap.size < v2.heap.size := (by omega)) | (go_at_call 12; refine (hP.out _ (by repeat (first | exact BW.refl _ | assumption | apply BW.alloc | apply BW.drewN | apply BW.drew | (refine BW.setCell ?_ (by first | omega | (simp; done) | (simp; omega)) _) | (refine BW.trans ?_ (by assumption))))).mono ?_; rintro e v1 ⟨rfl, hbv1⟩; have hzv1 := hbv1.size; (try simp at hzv1); have v1q0 := fun o => hbv1.cells (w.heap.size) o (by first | omega | (simp; done) | (simp; omega)); have v1q1 := fun o => hbv1.cells (w.heap.size + 1) o (by first | omega | (simp; done) | (simp; omega)); have v1q2 := fun o => hbv1.cells (w4.heap.size) o (by first | omega | (simp; done) | (simp; omega)); have nv1 : w4.heap.size < v1.heap.size := (by omega)))
  all_goals
    go_wp2_with (fail)
    go_ret
    exact ⟨rfl, hbW.trans (by repeat (first | exact BW.refl _ | assumption | apply BW.alloc | apply BW.drewN | apply BW.drew | (refine BW.setCell ?_ (by first | omega | (simp; done) | (simp; omega)) _) | (refine BW.trans ?_ (by assumption))))⟩

theorem showPairs_any (ta na : Int) (sa : ByteArray) (tb nb : Int) (sb : ByteArray) (ta0 : 0 ≤ ta) (na0 : -9223372036854775808 ≤ na) (na1 : na ≤ 9223372036854775807) (la : sa.size ≤ maxLen) (tb0 : 0 ≤ tb) (nb0 : -9223372036854775808 ≤ nb) (nb1 : nb ≤ 9223372036854775807) (lb : sb.size ≤ maxLen) (w : World) (ht : Tab w) : Calls Tryd.prog 6 #[V ta na sa, V tb nb sb] w fun e w' => e = .returned (.bool true) ∧ BW w w' := by
  have hA : Hid (∀ w1, Calls Tryd.prog 10 #[V ta na sa] w1 fun e w' => e = .returned (.bool (mayB ta na sa)) ∧ BW w1 w') := may_any ta na sa ta0 la
  have hB : Hid (∀ w1, Calls Tryd.prog 10 #[V tb nb sb] w1 fun e w' => e = .returned (.bool (mayB tb nb sb)) ∧ BW w1 w') := may_any tb nb sb tb0 lb
  cases ea : mayB ta na sa with
  | false => exact showPairs_no1 ta na sa tb nb sb _ _ hA hB ea w ht
  | true =>
    cases eb : mayB tb nb sb with
    | false => exact showPairs_no2 ta na sa tb nb sb _ _ hA hB ea eb w ht
    | true =>
      have qa := (may_tells ea).2.1
      have qb := (may_tells eb).2.1
      by_cases h3 : ta = 4
      · exact showPairs_no3 ta na sa tb nb sb _ _ hA hB ea eb (beq_t h3) w ht
      · by_cases h4 : tb = 4
        · exact showPairs_no4 ta na sa tb nb sb _ _ hA hB ea eb (beq_f h3) (beq_t h4) w ht
        · by_cases h5 : 1000 < sa.size + sb.size
          · exact showPairs_no5 ta na sa tb nb sb _ _ hA hB ea eb (beq_f h3) (beq_f h4) qa qb h5 w ht
          · exact showPairs_main ta na sa tb nb sb _ _ hA hB ea eb (beq_f h3) (beq_f h4) qa qb h5 (may_fine ea ta0 na0 na1 (by omega)) (may_fine eb tb0 nb0 nb1 (by omega)) w ht

end Go.Proofs.YtfgnlddfpemblaaDoor
