import Derived.Test.YtfgnlddfpemblaaDoorS17
import Derived.Test.YtfgnlddfpemblaaDoorS12
import Derived.Deep.RegionHeld3
namespace Go.Proofs.YtfgnlddfpemblaaDoor
open Go.RowKit
set_option linter.unusedVariables false
set_option linter.unusedSimpArgs false

set_option maxRecDepth 100000 in
set_option maxHeartbeats 1000000 in
theorem rs_0 (v : Value) (n : Int) (s : ByteArray) (k : Int) (w : World) : Calls Tryd.prog 13 #[v, V 0 n s, .int .i64 k] w fun e w' => e = .returned (.string ⟨#[40, 41]⟩) ∧ BW w w' := by
  go_enter Tryd.func13, Tryd.ntmps13
  go_wp2_with (fail)
  go_ret
  exact ⟨rfl, (by repeat (first | exact BW.refl _ | assumption | apply BW.alloc | apply BW.drewN | apply BW.drew | (refine BW.setCell ?_ (by first | omega | (simp; done) | (simp; omega)) _) | (refine BW.trans ?_ (by assumption))))⟩

set_option maxRecDepth 100000 in
set_option maxHeartbeats 1000000 in
theorem rs_5 (v : Value) (n : Int) (s : ByteArray) (k : Int) (w : World) : Calls Tryd.prog 13 #[v, V 5 n s, .int .i64 k] w fun e w' => e = .returned (.string ⟨#[35, 99, 101, 108, 108]⟩) ∧ BW w w' := by
  go_enter Tryd.func13, Tryd.ntmps13
  go_wp2_with (fail)
  go_ret
  exact ⟨rfl, (by repeat (first | exact BW.refl _ | assumption | apply BW.alloc | apply BW.drewN | apply BW.drew | (refine BW.setCell ?_ (by first | omega | (simp; done) | (simp; omega)) _) | (refine BW.trans ?_ (by assumption))))⟩

set_option maxRecDepth 100000 in
set_option maxHeartbeats 1000000 in
theorem rs_6 (v : Value) (n : Int) (s : ByteArray) (k : Int) (w : World) : Calls Tryd.prog 13 #[v, V 6 n s, .int .i64 k] w fun e w' => e = .returned (.string ⟨#[35, 102, 117, 110]⟩) ∧ BW w w' := by
  go_enter Tryd.func13, Tryd.ntmps13
  go_wp2_with (fail)
  go_ret
  exact ⟨rfl, (by repeat (first | exact BW.refl _ | assumption | apply BW.alloc | apply BW.drewN | apply BW.drew | (refine BW.setCell ?_ (by first | omega | (simp; done) | (simp; omega)) _) | (refine BW.trans ?_ (by assumption))))⟩

set_option maxRecDepth 100000 in
set_option maxHeartbeats 1000000 in
theorem rs_7 (v : Value) (n : Int) (s : ByteArray) (k : Int) (w : World) : Calls Tryd.prog 13 #[v, V 7 n s, .int .i64 k] w fun e w' => e = .returned (.string ⟨#[35, 99, 111, 110, 116]⟩) ∧ BW w w' := by
  go_enter Tryd.func13, Tryd.ntmps13
  go_wp2_with (fail)
  go_ret
  exact ⟨rfl, (by repeat (first | exact BW.refl _ | assumption | apply BW.alloc | apply BW.drewN | apply BW.drew | (refine BW.setCell ?_ (by first | omega | (simp; done) | (simp; omega)) _) | (refine BW.trans ?_ (by assumption))))⟩

set_option maxRecDepth 100000 in
set_option maxHeartbeats 1000000 in
theorem rs_1 (v : Value) (n : Int) (s : ByteArray) (h0 : -9223372036854775808 ≤ n) (h1 : n ≤ 9223372036854775807) (k : Int) (w : World) : Calls Tryd.prog 13 #[v, V 1 n s, .int .i64 k] w fun e w' => e = .returned (.string ⟨(Lib.itoa n).toArray⟩) ∧ BW w w' := by
  go_enter Tryd.func13, Tryd.ntmps13
  go_wp2_with (fail)
  refine (number_any n h0 h1 _).mono ?_
  rintro e w1 ⟨rfl, hb1⟩
  go_wp2_with (fail)
  go_ret
  exact ⟨rfl, BW.trans (by repeat (first | exact BW.refl _ | apply BW.alloc | apply BW.drewN | apply BW.drew)) hb1⟩

set_option maxRecDepth 100000 in
set_option maxHeartbeats 1000000 in
theorem rs_3 (v : Value) (n : Int) (s : ByteArray) (hs : s.size ≤ 1000) (k : Int) (w : World) : Calls Tryd.prog 13 #[v, V 3 n s, .int .i64 k] w fun e w' => e = .returned (.string ⟨(quo s.data.toList).toArray⟩) ∧ BW w w' := by
  go_enter Tryd.func13, Tryd.ntmps13
  go_wp2_with (fail)
  refine (refQuote_any s hs _).mono ?_
  rintro e w1 ⟨rfl, hb1⟩
  go_wp2_with (fail)
  go_ret
  exact ⟨rfl, BW.trans (by repeat (first | exact BW.refl _ | apply BW.alloc | apply BW.drewN | apply BW.drew)) hb1⟩

set_option maxRecDepth 100000 in
set_option maxHeartbeats 1000000 in
theorem rs_2a (v : Value) (n : Int) (s : ByteArray) (h : (n == 1) = true) (k : Int) (w : World) : Calls Tryd.prog 13 #[v, V 2 n s, .int .i64 k] w fun e w' => e = .returned (.string ⟨#[116, 114, 117, 101]⟩) ∧ BW w w' := by
  go_enter Tryd.func13, Tryd.ntmps13
  go_wp2_with (fail)
  go_ret
  exact ⟨rfl, (by repeat (first | exact BW.refl _ | assumption | apply BW.alloc | apply BW.drewN | apply BW.drew | (refine BW.setCell ?_ (by first | omega | (simp; done) | (simp; omega)) _) | (refine BW.trans ?_ (by assumption))))⟩

set_option maxRecDepth 100000 in
set_option maxHeartbeats 1000000 in
theorem rs_2b (v : Value) (n : Int) (s : ByteArray) (h : (n == 1) = false) (k : Int) (w : World) : Calls Tryd.prog 13 #[v, V 2 n s, .int .i64 k] w fun e w' => e = .returned (.string ⟨#[102, 97, 108, 115, 101]⟩) ∧ BW w w' := by
  go_enter Tryd.func13, Tryd.ntmps13
  go_wp2_with (fail)
  go_ret
  exact ⟨rfl, (by repeat (first | exact BW.refl _ | assumption | apply BW.alloc | apply BW.drewN | apply BW.drew | (refine BW.setCell ?_ (by first | omega | (simp; done) | (simp; omega)) _) | (refine BW.trans ?_ (by assumption))))⟩

set_option maxRecDepth 100000 in
set_option maxHeartbeats 1000000 in
theorem rs_none (v : Value) (n : Int) (s : ByteArray) (k : Int) (w : World) (hA : Hid (∀ w1, BW w w1 → Calls Tryd.prog 20 #[v, V 4 n s] w1 fun e w' => e = .returned (.tuple #[.agg #[.int .u8 0, .int .u8 0, .int .i64 0, .string ⟨#[]⟩, .int .u8 0, .int .i64 0, .string ⟨#[]⟩, .int .i64 0], .bool false]) ∧ BW w1 w')) : Calls Tryd.prog 13 #[v, V 4 n s, .int .i64 k] w fun e w' => e = .returned (.string ⟨#[46, 46]⟩) ∧ BW w w' := by
  go_enter Tryd.func13, Tryd.ntmps13
  go_wp2_with (fail)
  refine (hA.out _ (by repeat (first | exact BW.refl _ | apply BW.alloc | apply BW.drewN | apply BW.drew))).mono ?_
  rintro e w1 ⟨rfl, hb1⟩
  go_wp2_with (fail)
  go_ret
  exact ⟨rfl, BW.trans (by repeat (first | exact BW.refl _ | apply BW.alloc | apply BW.drewN | apply BW.drew)) (hb1.trans (by repeat (first | exact BW.refl _ | apply BW.alloc | apply BW.drewN | apply BW.drew)))⟩
set_option maxRecDepth 100000 in
set_option maxHeartbeats 1000000 in
theorem rs_deep (v : Value) (n : Int) (s : ByteArray) (ty ny : Int) (sy : ByteArray) (tz nz : Int) (sz : ByteArray) (w : World) (hA : Hid (∀ w1, BW w w1 → Calls Tryd.prog 20 #[v, V 4 n s] w1 fun e w' => e = .returned (.tuple #[.agg #[.int .u8 4, .int .u8 ty, .int .i64 ny, .string sy, .int .u8 tz, .int .i64 nz, .string sz, .int .i64 0], .bool true]) ∧ BW w1 w')) : Calls Tryd.prog 13 #[v, V 4 n s, .int .i64 6] w fun e w' => e = .returned (.string ⟨#[46, 46]⟩) ∧ BW w w' := by
  go_enter Tryd.func13, Tryd.ntmps13
  go_wp2_with (fail)
  refine (hA.out _ (by repeat (first | exact BW.refl _ | apply BW.alloc | apply BW.drewN | apply BW.drew))).mono ?_
  rintro e w1 ⟨rfl, hb1⟩
  go_wp2_with (fail)
  go_ret
  exact ⟨rfl, BW.trans (by repeat (first | exact BW.refl _ | apply BW.alloc | apply BW.drewN | apply BW.drew)) (hb1.trans (by repeat (first | exact BW.refl _ | apply BW.alloc | apply BW.drewN | apply BW.drew)))⟩
set_option maxRecDepth 100000 in
set_option maxHeartbeats 2000000 in
theorem rs_some (v : Value) (n : Int) (s : ByteArray) (ty ny : Int) (sy : ByteArray) (tz nz : Int) (sz : ByteArray) (k : Int) (hk : k < 6) (hw : IntKind.i64.wrap (k + 1) = k + 1) (xa xb : ByteArray) (la : xa.size ≤ 10000000) (lb : xb.size ≤ 10000000) (w : World) (hA : Hid (∀ w1, BW w w1 → Calls Tryd.prog 20 #[v, V 4 n s] w1 fun e w' => e = .returned (.tuple #[.agg #[.int .u8 4, .int .u8 ty, .int .i64 ny, .string sy, .int .u8 tz, .int .i64 nz, .string sz, .int .i64 0], .bool true]) ∧ BW w1 w'))
    (hY : Hid (∀ w1, BW w w1 → Calls Tryd.prog 13 #[v, V ty ny sy, .int .i64 (k + 1)] w1 fun e w' => e = .returned (.string xa) ∧ BW w1 w')) (hZ : Hid (∀ w1, BW w w1 → Calls Tryd.prog 13 #[v, V tz nz sz, .int .i64 (k + 1)] w1 fun e w' => e = .returned (.string xb) ∧ BW w1 w')) :
    Calls Tryd.prog 13 #[v, V 4 n s, .int .i64 k] w fun e w' => e = .returned (.string (⟨#[40]⟩ ++ xa ++ ⟨#[32, 46, 32]⟩ ++ xb ++ ⟨#[41]⟩)) ∧ BW w w' := by
  have e1 : decide ((6 : Int) ≤ k) = false := by simpa using hk
  have hc1 : ∀ v : World, (Op.stringOp .add ⟨#[40]⟩ xa).run Tryd.prog v = .ok (.string (⟨#[40]⟩ ++ xa)) v := fun v => run_string_add_sum v _ _ (by show 1 + xa.size ≤ _; omega)
  have hc2 : ∀ v : World, (Op.stringOp .add (⟨#[40]⟩ ++ xa) ⟨#[32, 46, 32]⟩).run Tryd.prog v = .ok (.string (⟨#[40]⟩ ++ xa ++ ⟨#[32, 46, 32]⟩)) v := fun v => run_string_add_sum v _ _ (by rw [ByteArray.size_append]; show 1 + xa.size + 3 ≤ _; omega)
  have hc3 : ∀ v : World, (Op.stringOp .add (⟨#[40]⟩ ++ xa ++ ⟨#[32, 46, 32]⟩) xb).run Tryd.prog v = .ok (.string (⟨#[40]⟩ ++ xa ++ ⟨#[32, 46, 32]⟩ ++ xb)) v := fun v => run_string_add_sum v _ _ (by rw [ByteArray.size_append, ByteArray.size_append]; show 1 + xa.size + 3 + xb.size ≤ _; omega)
  have hc4 : ∀ v : World, (Op.stringOp .add (⟨#[40]⟩ ++ xa ++ ⟨#[32, 46, 32]⟩ ++ xb) ⟨#[41]⟩).run Tryd.prog v = .ok (.string (⟨#[40]⟩ ++ xa ++ ⟨#[32, 46, 32]⟩ ++ xb ++ ⟨#[41]⟩)) v := fun v => run_string_add_sum v _ _ (by rw [ByteArray.size_append, ByteArray.size_append, ByteArray.size_append]; show 1 + xa.size + 3 + xb.size + 1 ≤ _; omega)
  go_enter Tryd.func13, Tryd.ntmps13
  go_wp2_with (fail)
  refine (hA.out _ (by repeat (first | exact BW.refl _ | apply BW.alloc | apply BW.drewN | apply BW.drew))).mono ?_
  rintro e w1 ⟨rfl, hb1⟩
  have hb : BW w w1 := BW.trans (by repeat (first | exact BW.refl _ | apply BW.alloc | apply BW.drewN | apply BW.drew)) hb1
  clear hb1
  go_wp2_with (fail)
  obtain ⟨W, hW⟩ : ∃ W, W = w1.alloc (.cells #[.int .u8 4, .int .u8 ty, .int .i64 ny, .string sy, .int .u8 tz, .int .i64 nz, .string sz, .int .i64 0] 34) := ⟨_, rfl⟩
  rw [← hW]
  have hbW : BW w W := by rw [hW]; exact hb.trans (by repeat (first | exact BW.refl _ | apply BW.alloc | apply BW.drewN | apply BW.drew))
  have A1 : W.heap[w1.heap.size]? = some (.cells #[.int .u8 4, .int .u8 ty, .int .i64 ny, .string sy, .int .u8 tz, .int .i64 nz, .string sz, .int .i64 0] 34 (0, 0)) := by rw [hW]; exact heap_alloc_new _ _
  have hlt : w1.heap.size < W.heap.size := by rw [hW]; simp
  clear hW hb
  have c1 : W.cell? ⟨w1.heap.size, 1, none⟩ = some (.int .u8 ty) := by simp only [World.cell?, A1]; rfl
  have c2 : W.cell? ⟨w1.heap.size, 2, none⟩ = some (.int .i64 ny) := by simp only [World.cell?, A1]; rfl
  have c3 : W.cell? ⟨w1.heap.size, 3, none⟩ = some (.string sy) := by simp only [World.cell?, A1]; rfl
  have c4 : W.cell? ⟨w1.heap.size, 4, none⟩ = some (.int .u8 tz) := by simp only [World.cell?, A1]; rfl
  have c5 : W.cell? ⟨w1.heap.size, 5, none⟩ = some (.int .i64 nz) := by simp only [World.cell?, A1]; rfl
  have c6 : W.cell? ⟨w1.heap.size, 6, none⟩ = some (.string sz) := by simp only [World.cell?, A1]; rfl
  clear A1 hA
  go_region_held3 (fun w' => w'.cell? ⟨w1.heap.size, 1, none⟩ = some (.int .u8 ty) ∧ w'.cell? ⟨w1.heap.size, 2, none⟩ = some (.int .i64 ny) ∧ w'.cell? ⟨w1.heap.size, 3, none⟩ = some (.string sy) ∧ w'.cell? ⟨w1.heap.size, 4, none⟩ = some (.int .u8 tz) ∧ w'.cell? ⟨w1.heap.size, 5, none⟩ = some (.int .i64 nz) ∧ w'.cell? ⟨w1.heap.size, 6, none⟩ = some (.string sz)) (go_keep) (first | (go_at_call_of 13 (Value.agg #[Value.int .u8 ty, Value.int .i64 ny, Value.string sy]); refine (hY.out _ (BW.trans hbW (by repeat (first | exact BW.refl _ | assumption | apply BW.alloc | apply BW.drewN | apply BW.drew | (refine BW.setCell ?_ (by first | omega | (simp; done) | (simp; omega)) _) | (refine BW.trans ?_ (by assumption)))))).mono ?_; rintro e v1 ⟨rfl, hbv1⟩; have hz1 := hbv1.size; (try simp at hz1); have q1 := fun o => hbv1.cells w1.heap.size o (by first | omega | (simp; done) | (simp; omega)); have m1 : w1.heap.size < v1.heap.size := (by omega)) | (go_at_call 13; refine (hZ.out _ (BW.trans hbW (by repeat (first | exact BW.refl _ | assumption | apply BW.alloc | apply BW.drewN | apply BW.drew | (refine BW.setCell ?_ (by first | omega | (simp; done) | (simp; omega)) _) | (refine BW.trans ?_ (by assumption)))))).mono ?_; rintro e v2 ⟨rfl, hbv2⟩; have hz2 := hbv2.size; (try simp at hz2); have q2 := fun o => hbv2.cells w1.heap.size o (by first | omega | (simp; done) | (simp; omega)); have m2 : w1.heap.size < v2.heap.size := (by omega)))
  all_goals
    go_wp2_with (fail)
    go_ret
    exact ⟨rfl, BW.trans hbW (by repeat (first | exact BW.refl _ | assumption | apply BW.alloc | apply BW.drewN | apply BW.drew | (refine BW.setCell ?_ (by first | omega | (simp; done) | (simp; omega)) _) | (refine BW.trans ?_ (by assumption))))⟩

end Go.Proofs.YtfgnlddfpemblaaDoor
