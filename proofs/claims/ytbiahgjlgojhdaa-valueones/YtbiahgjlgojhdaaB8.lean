import Derived.Test.YtbiahgjlgojhdaaM2
import Derived.Test.YtbiahgjlgojhdaaB5
import Derived.Test.YtbiahgjlgojhdaaB7
import Derived.Deep.RegionWith
import Derived.Deep.RegionHeld3
import Derived.Deep.DeepCutAuto
namespace Go.Proofs.Ytbiahgjlgojhdaa
open Go.RowKit
set_option linter.unusedVariables false
theorem one_s8 (a : Int) (w : World) : Calls Try.prog 16 #[.string ⟨#[105, 56]⟩, V 1 a ⟨#[]⟩] w fun e w' => e = .returned (.tuple #[V 1 (s8 a) ⟨#[]⟩, .int .i64 0]) ∧ BW w w' := one_i8 a (s8 a) _ (fun w => sized_i8 a w) w
theorem one_z8 (a : Int) (w : World) : Calls Try.prog 16 #[.string ⟨#[117, 56]⟩, V 1 a ⟨#[]⟩] w fun e w' => e = .returned (.tuple #[V 1 (z8 a) ⟨#[]⟩, .int .i64 0]) ∧ BW w w' := one_u8 a (z8 a) _ (fun w => sized_u8 a w) w
theorem one_s16 (a : Int) (w : World) : Calls Try.prog 16 #[.string ⟨#[105, 49, 54]⟩, V 1 a ⟨#[]⟩] w fun e w' => e = .returned (.tuple #[V 1 (s16 a) ⟨#[]⟩, .int .i64 0]) ∧ BW w w' := one_i16 a (s16 a) _ (fun w => sized_i16 a w) w
theorem one_z16 (a : Int) (w : World) : Calls Try.prog 16 #[.string ⟨#[117, 49, 54]⟩, V 1 a ⟨#[]⟩] w fun e w' => e = .returned (.tuple #[V 1 (z16 a) ⟨#[]⟩, .int .i64 0]) ∧ BW w w' := one_u16 a (z16 a) _ (fun w => sized_u16 a w) w
theorem one_s32 (a : Int) (w : World) : Calls Try.prog 16 #[.string ⟨#[105, 51, 50]⟩, V 1 a ⟨#[]⟩] w fun e w' => e = .returned (.tuple #[V 1 (s32 a) ⟨#[]⟩, .int .i64 0]) ∧ BW w w' := one_i32 a (s32 a) _ (fun w => sized_i32 a w) w
theorem one_z32 (a : Int) (w : World) : Calls Try.prog 16 #[.string ⟨#[117, 51, 50]⟩, V 1 a ⟨#[]⟩] w fun e w' => e = .returned (.tuple #[V 1 (z32 a) ⟨#[]⟩, .int .i64 0]) ∧ BW w w' := one_u32 a (z32 a) _ (fun w => sized_u32 a w) w
set_option maxRecDepth 100000 in
set_option maxHeartbeats 400000 in
theorem narrow_w8 (n a : Int) (h0 : 0 ≤ n) (h1 : n ≤ 255) (hr : n % 3 = 0) (w : World) :
    Calls Try.prog 6 #[.int .u8 n, .int .i64 a] w fun e w' => e = .returned (.bool true) ∧ BW w w' := by
  have hi : (⟨#[105]⟩ : ByteArray) ++ ⟨#[56]⟩ = ⟨#[105, 56]⟩ := rfl
  have hu : (⟨#[117]⟩ : ByteArray) ++ ⟨#[56]⟩ = ⟨#[117, 56]⟩ := rfl
  go_enter Try.func6, Try.ntmps6
  go_upto_region 3 with fail
  go_cut [7, 8] (fun p0 e0 wx => ∃ b0, p0 = .pointer (some ⟨b0, 0, none⟩) ∧ e0 = .int .i64 (0) ∧ BW w wx ∧ H3 wx b0 (1) (s8 a) ⟨#[]⟩)
  case first =>
    go_wp2_with (first | (go_at_call 21; refine (of_any _ _).mono ?_; rintro e v1 ⟨rfl, hb⟩; have hz := hb.size; (try simp at hz); (try have hq0 := fun o => hb.cells (w.heap.size) o (by first | omega | (simp; done) | (simp; omega))); (try have hr0 := fun o => hb.froz (w.heap.size) o (by first | omega | (simp; done) | (simp; omega)))) | (go_at_call_of 16 (Value.string ⟨#[105, 56]⟩); refine (one_s8 _ _).mono ?_; rintro e v2 ⟨rfl, hb⟩; have hz := hb.size; (try simp at hz); (try have hq0 := fun o => hb.cells (w.heap.size) o (by first | omega | (simp; done) | (simp; omega))); (try have hr0 := fun o => hb.froz (w.heap.size) o (by first | omega | (simp; done) | (simp; omega))); (try have hq1 := fun o => hb.cells (v1.heap.size) o (by first | omega | (simp; done) | (simp; omega))); (try have hr1 := fun o => hb.froz (v1.heap.size) o (by first | omega | (simp; done) | (simp; omega)))))
    all_goals (go_meet; case rel => exact ⟨_, rfl, rfl, (by repeat (first | exact BW.refl _ | assumption | apply BW.alloc | apply BW.drew | (refine BW.setCell ?_ (by first | omega | (simp; done) | (simp; omega)) _) | (refine BW.trans ?_ (by assumption)))), (by refine ⟨?_, ?_, ?_⟩ <;> simp [go_sem, *])⟩)
  case rest =>
  obtain ⟨bx, rfl, rfl, hB0, Hbx⟩ := hcut
  have Lbx := Hbx.lt
  have cbx0 := Hbx.1
  have cbx1 := Hbx.2.1
  have cbx2 := Hbx.2.2
  go_upto_region 4 with fail
  go_cut [9, 10] (fun p0 e0 wx => ∃ b0, p0 = .pointer (some ⟨b0, 0, none⟩) ∧ e0 = .int .i64 (0) ∧ BW wc wx ∧ H3 wx b0 (1) (z8 a) ⟨#[]⟩)
  case first =>
    go_wp2_with (first | (go_at_call 21; refine (of_any _ _).mono ?_; rintro e v1 ⟨rfl, hb⟩; have hz := hb.size; (try simp at hz); have hc0 := fun o => hb.cells bx o (by first | omega | (simp; done) | (simp; omega)); have hd00 : ¬ bx = wc.heap.size := (by omega); have he00 : ¬ wc.heap.size = bx := (by omega); have hd01 : ¬ bx = v1.heap.size := (by omega); have he01 : ¬ v1.heap.size = bx := (by omega); (try have hq0 := fun o => hb.cells (wc.heap.size) o (by first | omega | (simp; done) | (simp; omega))); (try have hr0 := fun o => hb.froz (wc.heap.size) o (by first | omega | (simp; done) | (simp; omega)))) | (go_at_call_of 16 (Value.string ⟨#[117, 56]⟩); refine (one_z8 _ _).mono ?_; rintro e v2 ⟨rfl, hb⟩; have hz := hb.size; (try simp at hz); have hc0 := fun o => hb.cells bx o (by first | omega | (simp; done) | (simp; omega)); have hd00 : ¬ bx = wc.heap.size := (by omega); have he00 : ¬ wc.heap.size = bx := (by omega); have hd01 : ¬ bx = v2.heap.size := (by omega); have he01 : ¬ v2.heap.size = bx := (by omega); (try have hq0 := fun o => hb.cells (wc.heap.size) o (by first | omega | (simp; done) | (simp; omega))); (try have hr0 := fun o => hb.froz (wc.heap.size) o (by first | omega | (simp; done) | (simp; omega))); (try have hq1 := fun o => hb.cells (v1.heap.size) o (by first | omega | (simp; done) | (simp; omega))); (try have hr1 := fun o => hb.froz (v1.heap.size) o (by first | omega | (simp; done) | (simp; omega)))))
    all_goals (go_meet; case rel => exact ⟨_, rfl, rfl, (by repeat (first | exact BW.refl _ | assumption | apply BW.alloc | apply BW.drew | (refine BW.setCell ?_ (by first | omega | (simp; done) | (simp; omega)) _) | (refine BW.trans ?_ (by assumption)))), (by refine ⟨?_, ?_, ?_⟩ <;> simp [go_sem, *])⟩)
  case rest =>
  obtain ⟨by_, rfl, rfl, hB1, Hby_⟩ := hcut
  replace Hbx := Hbx.bw hB1
  replace Lbx := Hbx.lt
  replace cbx0 := Hbx.1
  replace cbx1 := Hbx.2.1
  replace cbx2 := Hbx.2.2
  have Lby_ := Hby_.lt
  have cby_0 := Hby_.1
  have cby_1 := Hby_.2.1
  have cby_2 := Hby_.2.2
  replace hB1 := hB0.trans hB1
  clear hB0
  go_upto_region 7 with fail
  go_cut [11, 12] (fun p0 e0 wx => ∃ b0, p0 = .pointer (some ⟨b0, 0, none⟩) ∧ e0 = .int .i64 (0) ∧ BW wc wx ∧ H3 wx b0 (1) (s8 (s8 a)) ⟨#[]⟩)
  case first =>
    go_wp2_with (first | (go_at_call_of 16 (Value.string ⟨#[105, 56]⟩); refine (one_s8 _ _).mono ?_; rintro e v1 ⟨rfl, hb⟩; have hz := hb.size; (try simp at hz); have hc0 := fun o => hb.cells bx o (by first | omega | (simp; done) | (simp; omega)); have hc1 := fun o => hb.cells by_ o (by first | omega | (simp; done) | (simp; omega)); have hd00 : ¬ bx = wc.heap.size := (by omega); have he00 : ¬ wc.heap.size = bx := (by omega); have hd01 : ¬ bx = v1.heap.size := (by omega); have he01 : ¬ v1.heap.size = bx := (by omega); have hd10 : ¬ by_ = wc.heap.size := (by omega); have he10 : ¬ wc.heap.size = by_ := (by omega); have hd11 : ¬ by_ = v1.heap.size := (by omega); have he11 : ¬ v1.heap.size = by_ := (by omega); (try have hq0 := fun o => hb.cells (wc.heap.size) o (by first | omega | (simp; done) | (simp; omega))); (try have hr0 := fun o => hb.froz (wc.heap.size) o (by first | omega | (simp; done) | (simp; omega)))))
    all_goals (go_meet; case rel => exact ⟨_, rfl, rfl, (by repeat (first | exact BW.refl _ | assumption | apply BW.alloc | apply BW.drew | (refine BW.setCell ?_ (by first | omega | (simp; done) | (simp; omega)) _) | (refine BW.trans ?_ (by assumption)))), (by refine ⟨?_, ?_, ?_⟩ <;> simp [go_sem, *])⟩)
  case rest =>
  obtain ⟨bu, rfl, rfl, hB2, Hbu⟩ := hcut
  replace Hbx := Hbx.bw hB2
  replace Lbx := Hbx.lt
  replace cbx0 := Hbx.1
  replace cbx1 := Hbx.2.1
  replace cbx2 := Hbx.2.2
  replace Hby_ := Hby_.bw hB2
  replace Lby_ := Hby_.lt
  replace cby_0 := Hby_.1
  replace cby_1 := Hby_.2.1
  replace cby_2 := Hby_.2.2
  have Lbu := Hbu.lt
  have cbu0 := Hbu.1
  have cbu1 := Hbu.2.1
  have cbu2 := Hbu.2.2
  replace hB2 := hB1.trans hB2
  clear hB1
  go_upto_region 8 with fail
  go_cut [13, 14] (fun p0 e0 wx => ∃ b0, p0 = .pointer (some ⟨b0, 0, none⟩) ∧ e0 = .int .i64 (0) ∧ BW wc wx ∧ H3 wx b0 (1) (z8 (z8 a)) ⟨#[]⟩)
  case first =>
    go_wp2_with (first | (go_at_call_of 16 (Value.string ⟨#[117, 56]⟩); refine (one_z8 _ _).mono ?_; rintro e v1 ⟨rfl, hb⟩; have hz := hb.size; (try simp at hz); have hc0 := fun o => hb.cells bx o (by first | omega | (simp; done) | (simp; omega)); have hc1 := fun o => hb.cells by_ o (by first | omega | (simp; done) | (simp; omega)); have hc2 := fun o => hb.cells bu o (by first | omega | (simp; done) | (simp; omega)); have hd00 : ¬ bx = wc.heap.size := (by omega); have he00 : ¬ wc.heap.size = bx := (by omega); have hd01 : ¬ bx = v1.heap.size := (by omega); have he01 : ¬ v1.heap.size = bx := (by omega); have hd10 : ¬ by_ = wc.heap.size := (by omega); have he10 : ¬ wc.heap.size = by_ := (by omega); have hd11 : ¬ by_ = v1.heap.size := (by omega); have he11 : ¬ v1.heap.size = by_ := (by omega); have hd20 : ¬ bu = wc.heap.size := (by omega); have he20 : ¬ wc.heap.size = bu := (by omega); have hd21 : ¬ bu = v1.heap.size := (by omega); have he21 : ¬ v1.heap.size = bu := (by omega); (try have hq0 := fun o => hb.cells (wc.heap.size) o (by first | omega | (simp; done) | (simp; omega))); (try have hr0 := fun o => hb.froz (wc.heap.size) o (by first | omega | (simp; done) | (simp; omega)))))
    all_goals (go_meet; case rel => exact ⟨_, rfl, rfl, (by repeat (first | exact BW.refl _ | assumption | apply BW.alloc | apply BW.drew | (refine BW.setCell ?_ (by first | omega | (simp; done) | (simp; omega)) _) | (refine BW.trans ?_ (by assumption)))), (by refine ⟨?_, ?_, ?_⟩ <;> simp [go_sem, *])⟩)
  case rest =>
  obtain ⟨bv, rfl, rfl, hB3, Hbv⟩ := hcut
  replace Hbx := Hbx.bw hB3
  replace Lbx := Hbx.lt
  replace cbx0 := Hbx.1
  replace cbx1 := Hbx.2.1
  replace cbx2 := Hbx.2.2
  replace Hby_ := Hby_.bw hB3
  replace Lby_ := Hby_.lt
  replace cby_0 := Hby_.1
  replace cby_1 := Hby_.2.1
  replace cby_2 := Hby_.2.2
  replace Hbu := Hbu.bw hB3
  replace Lbu := Hbu.lt
  replace cbu0 := Hbu.1
  replace cbu1 := Hbu.2.1
  replace cbu2 := Hbu.2.2
  have Lbv := Hbv.lt
  have cbv0 := Hbv.1
  have cbv1 := Hbv.2.1
  have cbv2 := Hbv.2.2
  replace hB3 := hB2.trans hB3
  clear hB2
  go_upto_region 9 with fail
  go_cut [15, 16] (fun p0 e0 wx => ∃ b0, p0 = .pointer (some ⟨b0, 0, none⟩) ∧ e0 = .int .i64 (0) ∧ BW wc wx ∧ H3 wx b0 (1) (z8 (s8 a)) ⟨#[]⟩)
  case first =>
    go_wp2_with (first | (go_at_call_of 16 (Value.string ⟨#[117, 56]⟩); refine (one_z8 _ _).mono ?_; rintro e v1 ⟨rfl, hb⟩; have hz := hb.size; (try simp at hz); have hc0 := fun o => hb.cells bx o (by first | omega | (simp; done) | (simp; omega)); have hc1 := fun o => hb.cells by_ o (by first | omega | (simp; done) | (simp; omega)); have hc2 := fun o => hb.cells bu o (by first | omega | (simp; done) | (simp; omega)); have hc3 := fun o => hb.cells bv o (by first | omega | (simp; done) | (simp; omega)); have hd00 : ¬ bx = wc.heap.size := (by omega); have he00 : ¬ wc.heap.size = bx := (by omega); have hd01 : ¬ bx = v1.heap.size := (by omega); have he01 : ¬ v1.heap.size = bx := (by omega); have hd10 : ¬ by_ = wc.heap.size := (by omega); have he10 : ¬ wc.heap.size = by_ := (by omega); have hd11 : ¬ by_ = v1.heap.size := (by omega); have he11 : ¬ v1.heap.size = by_ := (by omega); have hd20 : ¬ bu = wc.heap.size := (by omega); have he20 : ¬ wc.heap.size = bu := (by omega); have hd21 : ¬ bu = v1.heap.size := (by omega); have he21 : ¬ v1.heap.size = bu := (by omega); have hd30 : ¬ bv = wc.heap.size := (by omega); have he30 : ¬ wc.heap.size = bv := (by omega); have hd31 : ¬ bv = v1.heap.size := (by omega); have he31 : ¬ v1.heap.size = bv := (by omega); (try have hq0 := fun o => hb.cells (wc.heap.size) o (by first | omega | (simp; done) | (simp; omega))); (try have hr0 := fun o => hb.froz (wc.heap.size) o (by first | omega | (simp; done) | (simp; omega)))))
    all_goals (go_meet; case rel => exact ⟨_, rfl, rfl, (by repeat (first | exact BW.refl _ | assumption | apply BW.alloc | apply BW.drew | (refine BW.setCell ?_ (by first | omega | (simp; done) | (simp; omega)) _) | (refine BW.trans ?_ (by assumption)))), (by refine ⟨?_, ?_, ?_⟩ <;> simp [go_sem, *])⟩)
  case rest =>
  obtain ⟨bw, rfl, rfl, hB4, Hbw⟩ := hcut
  replace Hbx := Hbx.bw hB4
  replace Lbx := Hbx.lt
  replace cbx0 := Hbx.1
  replace cbx1 := Hbx.2.1
  replace cbx2 := Hbx.2.2
  replace Hby_ := Hby_.bw hB4
  replace Lby_ := Hby_.lt
  replace cby_0 := Hby_.1
  replace cby_1 := Hby_.2.1
  replace cby_2 := Hby_.2.2
  replace Hbu := Hbu.bw hB4
  replace Lbu := Hbu.lt
  replace cbu0 := Hbu.1
  replace cbu1 := Hbu.2.1
  replace cbu2 := Hbu.2.2
  replace Hbv := Hbv.bw hB4
  replace Lbv := Hbv.lt
  replace cbv0 := Hbv.1
  replace cbv1 := Hbv.2.1
  replace cbv2 := Hbv.2.2
  have Lbw := Hbw.lt
  have cbw0 := Hbw.1
  have cbw1 := Hbw.2.1
  have cbw2 := Hbw.2.2
  replace hB4 := hB3.trans hB4
  clear hB3
  go_upto_region 10 with fail
  go_cut [17, 18] (fun p0 e0 wx => ∃ b0, p0 = .pointer (some ⟨b0, 0, none⟩) ∧ e0 = .int .i64 (0) ∧ BW wc wx ∧ H3 wx b0 (1) (s8 (z8 a)) ⟨#[]⟩)
  case first =>
    go_wp2_with (first | (go_at_call_of 16 (Value.string ⟨#[105, 56]⟩); refine (one_s8 _ _).mono ?_; rintro e v1 ⟨rfl, hb⟩; have hz := hb.size; (try simp at hz); have hc0 := fun o => hb.cells bx o (by first | omega | (simp; done) | (simp; omega)); have hc1 := fun o => hb.cells by_ o (by first | omega | (simp; done) | (simp; omega)); have hc2 := fun o => hb.cells bu o (by first | omega | (simp; done) | (simp; omega)); have hc3 := fun o => hb.cells bv o (by first | omega | (simp; done) | (simp; omega)); have hc4 := fun o => hb.cells bw o (by first | omega | (simp; done) | (simp; omega)); have hd00 : ¬ bx = wc.heap.size := (by omega); have he00 : ¬ wc.heap.size = bx := (by omega); have hd01 : ¬ bx = v1.heap.size := (by omega); have he01 : ¬ v1.heap.size = bx := (by omega); have hd10 : ¬ by_ = wc.heap.size := (by omega); have he10 : ¬ wc.heap.size = by_ := (by omega); have hd11 : ¬ by_ = v1.heap.size := (by omega); have he11 : ¬ v1.heap.size = by_ := (by omega); have hd20 : ¬ bu = wc.heap.size := (by omega); have he20 : ¬ wc.heap.size = bu := (by omega); have hd21 : ¬ bu = v1.heap.size := (by omega); have he21 : ¬ v1.heap.size = bu := (by omega); have hd30 : ¬ bv = wc.heap.size := (by omega); have he30 : ¬ wc.heap.size = bv := (by omega); have hd31 : ¬ bv = v1.heap.size := (by omega); have he31 : ¬ v1.heap.size = bv := (by omega); have hd40 : ¬ bw = wc.heap.size := (by omega); have he40 : ¬ wc.heap.size = bw := (by omega); have hd41 : ¬ bw = v1.heap.size := (by omega); have he41 : ¬ v1.heap.size = bw := (by omega); (try have hq0 := fun o => hb.cells (wc.heap.size) o (by first | omega | (simp; done) | (simp; omega))); (try have hr0 := fun o => hb.froz (wc.heap.size) o (by first | omega | (simp; done) | (simp; omega)))))
    all_goals (go_meet; case rel => exact ⟨_, rfl, rfl, (by repeat (first | exact BW.refl _ | assumption | apply BW.alloc | apply BW.drew | (refine BW.setCell ?_ (by first | omega | (simp; done) | (simp; omega)) _) | (refine BW.trans ?_ (by assumption)))), (by refine ⟨?_, ?_, ?_⟩ <;> simp [go_sem, *])⟩)
  case rest =>
  obtain ⟨bz, rfl, rfl, hB5, Hbz⟩ := hcut
  replace Hbx := Hbx.bw hB5
  replace Lbx := Hbx.lt
  replace cbx0 := Hbx.1
  replace cbx1 := Hbx.2.1
  replace cbx2 := Hbx.2.2
  replace Hby_ := Hby_.bw hB5
  replace Lby_ := Hby_.lt
  replace cby_0 := Hby_.1
  replace cby_1 := Hby_.2.1
  replace cby_2 := Hby_.2.2
  replace Hbu := Hbu.bw hB5
  replace Lbu := Hbu.lt
  replace cbu0 := Hbu.1
  replace cbu1 := Hbu.2.1
  replace cbu2 := Hbu.2.2
  replace Hbv := Hbv.bw hB5
  replace Lbv := Hbv.lt
  replace cbv0 := Hbv.1
  replace cbv1 := Hbv.2.1
  replace cbv2 := Hbv.2.2
  replace Hbw := Hbw.bw hB5
  replace Lbw := Hbw.lt
  replace cbw0 := Hbw.1
  replace cbw1 := Hbw.2.1
  replace cbw2 := Hbw.2.2
  have Lbz := Hbz.lt
  have cbz0 := Hbz.1
  have cbz1 := Hbz.2.1
  have cbz2 := Hbz.2.2
  replace hB5 := hB4.trans hB5
  clear hB4
  obtain ⟨q1, q2, q3, q4, q5⟩ := narrow8 a
  go_wp2_with (first | (go_at_call 13; refine (awake_any _).mono ?_; rintro e v1 ⟨rfl, hb⟩; have hz := hb.size; (try simp at hz); have hc0 := fun o => hb.cells bx o (by first | omega | (simp; done) | (simp; omega)); have hc1 := fun o => hb.cells by_ o (by first | omega | (simp; done) | (simp; omega)); have hc2 := fun o => hb.cells bu o (by first | omega | (simp; done) | (simp; omega)); have hc3 := fun o => hb.cells bv o (by first | omega | (simp; done) | (simp; omega)); have hc4 := fun o => hb.cells bw o (by first | omega | (simp; done) | (simp; omega)); have hc5 := fun o => hb.cells bz o (by first | omega | (simp; done) | (simp; omega)); have hd00 : ¬ bx = wc.heap.size := (by omega); have he00 : ¬ wc.heap.size = bx := (by omega); have hd01 : ¬ bx = v1.heap.size := (by omega); have he01 : ¬ v1.heap.size = bx := (by omega); have hd10 : ¬ by_ = wc.heap.size := (by omega); have he10 : ¬ wc.heap.size = by_ := (by omega); have hd11 : ¬ by_ = v1.heap.size := (by omega); have he11 : ¬ v1.heap.size = by_ := (by omega); have hd20 : ¬ bu = wc.heap.size := (by omega); have he20 : ¬ wc.heap.size = bu := (by omega); have hd21 : ¬ bu = v1.heap.size := (by omega); have he21 : ¬ v1.heap.size = bu := (by omega); have hd30 : ¬ bv = wc.heap.size := (by omega); have he30 : ¬ wc.heap.size = bv := (by omega); have hd31 : ¬ bv = v1.heap.size := (by omega); have he31 : ¬ v1.heap.size = bv := (by omega); have hd40 : ¬ bw = wc.heap.size := (by omega); have he40 : ¬ wc.heap.size = bw := (by omega); have hd41 : ¬ bw = v1.heap.size := (by omega); have he41 : ¬ v1.heap.size = bw := (by omega); have hd50 : ¬ bz = wc.heap.size := (by omega); have he50 : ¬ wc.heap.size = bz := (by omega); have hd51 : ¬ bz = v1.heap.size := (by omega); have he51 : ¬ v1.heap.size = bz := (by omega); (try have hq0 := fun o => hb.cells (wc.heap.size) o (by first | omega | (simp; done) | (simp; omega))); (try have hr0 := fun o => hb.froz (wc.heap.size) o (by first | omega | (simp; done) | (simp; omega)))))
  go_ret
  exact ⟨rfl, (by repeat (first | exact BW.refl _ | assumption | apply BW.alloc | apply BW.drew | (refine BW.setCell ?_ (by first | omega | (simp; done) | (simp; omega)) _) | (refine BW.trans ?_ (by assumption))))⟩
set_option maxRecDepth 100000 in
set_option maxHeartbeats 400000 in
theorem narrow_w16 (n a : Int) (h0 : 0 ≤ n) (h1 : n ≤ 255) (hr : n % 3 = 1) (w : World) :
    Calls Try.prog 6 #[.int .u8 n, .int .i64 a] w fun e w' => e = .returned (.bool true) ∧ BW w w' := by
  have hi : (⟨#[105]⟩ : ByteArray) ++ ⟨#[49, 54]⟩ = ⟨#[105, 49, 54]⟩ := rfl
  have hu : (⟨#[117]⟩ : ByteArray) ++ ⟨#[49, 54]⟩ = ⟨#[117, 49, 54]⟩ := rfl
  go_enter Try.func6, Try.ntmps6
  go_upto_region 3 with fail
  go_cut [7, 8] (fun p0 e0 wx => ∃ b0, p0 = .pointer (some ⟨b0, 0, none⟩) ∧ e0 = .int .i64 (0) ∧ BW w wx ∧ H3 wx b0 (1) (s16 a) ⟨#[]⟩)
  case first =>
    go_wp2_with (first | (go_at_call 21; refine (of_any _ _).mono ?_; rintro e v1 ⟨rfl, hb⟩; have hz := hb.size; (try simp at hz); (try have hq0 := fun o => hb.cells (w.heap.size) o (by first | omega | (simp; done) | (simp; omega))); (try have hr0 := fun o => hb.froz (w.heap.size) o (by first | omega | (simp; done) | (simp; omega)))) | (go_at_call_of 16 (Value.string ⟨#[105, 49, 54]⟩); refine (one_s16 _ _).mono ?_; rintro e v2 ⟨rfl, hb⟩; have hz := hb.size; (try simp at hz); (try have hq0 := fun o => hb.cells (w.heap.size) o (by first | omega | (simp; done) | (simp; omega))); (try have hr0 := fun o => hb.froz (w.heap.size) o (by first | omega | (simp; done) | (simp; omega))); (try have hq1 := fun o => hb.cells (v1.heap.size) o (by first | omega | (simp; done) | (simp; omega))); (try have hr1 := fun o => hb.froz (v1.heap.size) o (by first | omega | (simp; done) | (simp; omega)))))
    all_goals (go_meet; case rel => exact ⟨_, rfl, rfl, (by repeat (first | exact BW.refl _ | assumption | apply BW.alloc | apply BW.drew | (refine BW.setCell ?_ (by first | omega | (simp; done) | (simp; omega)) _) | (refine BW.trans ?_ (by assumption)))), (by refine ⟨?_, ?_, ?_⟩ <;> simp [go_sem, *])⟩)
  case rest =>
  obtain ⟨bx, rfl, rfl, hB0, Hbx⟩ := hcut
  have Lbx := Hbx.lt
  have cbx0 := Hbx.1
  have cbx1 := Hbx.2.1
  have cbx2 := Hbx.2.2
  go_upto_region 4 with fail
  go_cut [9, 10] (fun p0 e0 wx => ∃ b0, p0 = .pointer (some ⟨b0, 0, none⟩) ∧ e0 = .int .i64 (0) ∧ BW wc wx ∧ H3 wx b0 (1) (z16 a) ⟨#[]⟩)
  case first =>
    go_wp2_with (first | (go_at_call 21; refine (of_any _ _).mono ?_; rintro e v1 ⟨rfl, hb⟩; have hz := hb.size; (try simp at hz); have hc0 := fun o => hb.cells bx o (by first | omega | (simp; done) | (simp; omega)); have hd00 : ¬ bx = wc.heap.size := (by omega); have he00 : ¬ wc.heap.size = bx := (by omega); have hd01 : ¬ bx = v1.heap.size := (by omega); have he01 : ¬ v1.heap.size = bx := (by omega); (try have hq0 := fun o => hb.cells (wc.heap.size) o (by first | omega | (simp; done) | (simp; omega))); (try have hr0 := fun o => hb.froz (wc.heap.size) o (by first | omega | (simp; done) | (simp; omega)))) | (go_at_call_of 16 (Value.string ⟨#[117, 49, 54]⟩); refine (one_z16 _ _).mono ?_; rintro e v2 ⟨rfl, hb⟩; have hz := hb.size; (try simp at hz); have hc0 := fun o => hb.cells bx o (by first | omega | (simp; done) | (simp; omega)); have hd00 : ¬ bx = wc.heap.size := (by omega); have he00 : ¬ wc.heap.size = bx := (by omega); have hd01 : ¬ bx = v2.heap.size := (by omega); have he01 : ¬ v2.heap.size = bx := (by omega); (try have hq0 := fun o => hb.cells (wc.heap.size) o (by first | omega | (simp; done) | (simp; omega))); (try have hr0 := fun o => hb.froz (wc.heap.size) o (by first | omega | (simp; done) | (simp; omega))); (try have hq1 := fun o => hb.cells (v1.heap.size) o (by first | omega | (simp; done) | (simp; omega))); (try have hr1 := fun o => hb.froz (v1.heap.size) o (by first | omega | (simp; done) | (simp; omega)))))
    all_goals (go_meet; case rel => exact ⟨_, rfl, rfl, (by repeat (first | exact BW.refl _ | assumption | apply BW.alloc | apply BW.drew | (refine BW.setCell ?_ (by first | omega | (simp; done) | (simp; omega)) _) | (refine BW.trans ?_ (by assumption)))), (by refine ⟨?_, ?_, ?_⟩ <;> simp [go_sem, *])⟩)
  case rest =>
  obtain ⟨by_, rfl, rfl, hB1, Hby_⟩ := hcut
  replace Hbx := Hbx.bw hB1
  replace Lbx := Hbx.lt
  replace cbx0 := Hbx.1
  replace cbx1 := Hbx.2.1
  replace cbx2 := Hbx.2.2
  have Lby_ := Hby_.lt
  have cby_0 := Hby_.1
  have cby_1 := Hby_.2.1
  have cby_2 := Hby_.2.2
  replace hB1 := hB0.trans hB1
  clear hB0
  go_upto_region 7 with fail
  go_cut [11, 12] (fun p0 e0 wx => ∃ b0, p0 = .pointer (some ⟨b0, 0, none⟩) ∧ e0 = .int .i64 (0) ∧ BW wc wx ∧ H3 wx b0 (1) (s16 (s16 a)) ⟨#[]⟩)
  case first =>
    go_wp2_with (first | (go_at_call_of 16 (Value.string ⟨#[105, 49, 54]⟩); refine (one_s16 _ _).mono ?_; rintro e v1 ⟨rfl, hb⟩; have hz := hb.size; (try simp at hz); have hc0 := fun o => hb.cells bx o (by first | omega | (simp; done) | (simp; omega)); have hc1 := fun o => hb.cells by_ o (by first | omega | (simp; done) | (simp; omega)); have hd00 : ¬ bx = wc.heap.size := (by omega); have he00 : ¬ wc.heap.size = bx := (by omega); have hd01 : ¬ bx = v1.heap.size := (by omega); have he01 : ¬ v1.heap.size = bx := (by omega); have hd10 : ¬ by_ = wc.heap.size := (by omega); have he10 : ¬ wc.heap.size = by_ := (by omega); have hd11 : ¬ by_ = v1.heap.size := (by omega); have he11 : ¬ v1.heap.size = by_ := (by omega); (try have hq0 := fun o => hb.cells (wc.heap.size) o (by first | omega | (simp; done) | (simp; omega))); (try have hr0 := fun o => hb.froz (wc.heap.size) o (by first | omega | (simp; done) | (simp; omega)))))
    all_goals (go_meet; case rel => exact ⟨_, rfl, rfl, (by repeat (first | exact BW.refl _ | assumption | apply BW.alloc | apply BW.drew | (refine BW.setCell ?_ (by first | omega | (simp; done) | (simp; omega)) _) | (refine BW.trans ?_ (by assumption)))), (by refine ⟨?_, ?_, ?_⟩ <;> simp [go_sem, *])⟩)
  case rest =>
  obtain ⟨bu, rfl, rfl, hB2, Hbu⟩ := hcut
  replace Hbx := Hbx.bw hB2
  replace Lbx := Hbx.lt
  replace cbx0 := Hbx.1
  replace cbx1 := Hbx.2.1
  replace cbx2 := Hbx.2.2
  replace Hby_ := Hby_.bw hB2
  replace Lby_ := Hby_.lt
  replace cby_0 := Hby_.1
  replace cby_1 := Hby_.2.1
  replace cby_2 := Hby_.2.2
  have Lbu := Hbu.lt
  have cbu0 := Hbu.1
  have cbu1 := Hbu.2.1
  have cbu2 := Hbu.2.2
  replace hB2 := hB1.trans hB2
  clear hB1
  go_upto_region 8 with fail
  go_cut [13, 14] (fun p0 e0 wx => ∃ b0, p0 = .pointer (some ⟨b0, 0, none⟩) ∧ e0 = .int .i64 (0) ∧ BW wc wx ∧ H3 wx b0 (1) (z16 (z16 a)) ⟨#[]⟩)
  case first =>
    go_wp2_with (first | (go_at_call_of 16 (Value.string ⟨#[117, 49, 54]⟩); refine (one_z16 _ _).mono ?_; rintro e v1 ⟨rfl, hb⟩; have hz := hb.size; (try simp at hz); have hc0 := fun o => hb.cells bx o (by first | omega | (simp; done) | (simp; omega)); have hc1 := fun o => hb.cells by_ o (by first | omega | (simp; done) | (simp; omega)); have hc2 := fun o => hb.cells bu o (by first | omega | (simp; done) | (simp; omega)); have hd00 : ¬ bx = wc.heap.size := (by omega); have he00 : ¬ wc.heap.size = bx := (by omega); have hd01 : ¬ bx = v1.heap.size := (by omega); have he01 : ¬ v1.heap.size = bx := (by omega); have hd10 : ¬ by_ = wc.heap.size := (by omega); have he10 : ¬ wc.heap.size = by_ := (by omega); have hd11 : ¬ by_ = v1.heap.size := (by omega); have he11 : ¬ v1.heap.size = by_ := (by omega); have hd20 : ¬ bu = wc.heap.size := (by omega); have he20 : ¬ wc.heap.size = bu := (by omega); have hd21 : ¬ bu = v1.heap.size := (by omega); have he21 : ¬ v1.heap.size = bu := (by omega); (try have hq0 := fun o => hb.cells (wc.heap.size) o (by first | omega | (simp; done) | (simp; omega))); (try have hr0 := fun o => hb.froz (wc.heap.size) o (by first | omega | (simp; done) | (simp; omega)))))
    all_goals (go_meet; case rel => exact ⟨_, rfl, rfl, (by repeat (first | exact BW.refl _ | assumption | apply BW.alloc | apply BW.drew | (refine BW.setCell ?_ (by first | omega | (simp; done) | (simp; omega)) _) | (refine BW.trans ?_ (by assumption)))), (by refine ⟨?_, ?_, ?_⟩ <;> simp [go_sem, *])⟩)
  case rest =>
  obtain ⟨bv, rfl, rfl, hB3, Hbv⟩ := hcut
  replace Hbx := Hbx.bw hB3
  replace Lbx := Hbx.lt
  replace cbx0 := Hbx.1
  replace cbx1 := Hbx.2.1
  replace cbx2 := Hbx.2.2
  replace Hby_ := Hby_.bw hB3
  replace Lby_ := Hby_.lt
  replace cby_0 := Hby_.1
  replace cby_1 := Hby_.2.1
  replace cby_2 := Hby_.2.2
  replace Hbu := Hbu.bw hB3
  replace Lbu := Hbu.lt
  replace cbu0 := Hbu.1
  replace cbu1 := Hbu.2.1
  replace cbu2 := Hbu.2.2
  have Lbv := Hbv.lt
  have cbv0 := Hbv.1
  have cbv1 := Hbv.2.1
  have cbv2 := Hbv.2.2
  replace hB3 := hB2.trans hB3
  clear hB2
  go_upto_region 9 with fail
  go_cut [15, 16] (fun p0 e0 wx => ∃ b0, p0 = .pointer (some ⟨b0, 0, none⟩) ∧ e0 = .int .i64 (0) ∧ BW wc wx ∧ H3 wx b0 (1) (z16 (s16 a)) ⟨#[]⟩)
  case first =>
    go_wp2_with (first | (go_at_call_of 16 (Value.string ⟨#[117, 49, 54]⟩); refine (one_z16 _ _).mono ?_; rintro e v1 ⟨rfl, hb⟩; have hz := hb.size; (try simp at hz); have hc0 := fun o => hb.cells bx o (by first | omega | (simp; done) | (simp; omega)); have hc1 := fun o => hb.cells by_ o (by first | omega | (simp; done) | (simp; omega)); have hc2 := fun o => hb.cells bu o (by first | omega | (simp; done) | (simp; omega)); have hc3 := fun o => hb.cells bv o (by first | omega | (simp; done) | (simp; omega)); have hd00 : ¬ bx = wc.heap.size := (by omega); have he00 : ¬ wc.heap.size = bx := (by omega); have hd01 : ¬ bx = v1.heap.size := (by omega); have he01 : ¬ v1.heap.size = bx := (by omega); have hd10 : ¬ by_ = wc.heap.size := (by omega); have he10 : ¬ wc.heap.size = by_ := (by omega); have hd11 : ¬ by_ = v1.heap.size := (by omega); have he11 : ¬ v1.heap.size = by_ := (by omega); have hd20 : ¬ bu = wc.heap.size := (by omega); have he20 : ¬ wc.heap.size = bu := (by omega); have hd21 : ¬ bu = v1.heap.size := (by omega); have he21 : ¬ v1.heap.size = bu := (by omega); have hd30 : ¬ bv = wc.heap.size := (by omega); have he30 : ¬ wc.heap.size = bv := (by omega); have hd31 : ¬ bv = v1.heap.size := (by omega); have he31 : ¬ v1.heap.size = bv := (by omega); (try have hq0 := fun o => hb.cells (wc.heap.size) o (by first | omega | (simp; done) | (simp; omega))); (try have hr0 := fun o => hb.froz (wc.heap.size) o (by first | omega | (simp; done) | (simp; omega)))))
    all_goals (go_meet; case rel => exact ⟨_, rfl, rfl, (by repeat (first | exact BW.refl _ | assumption | apply BW.alloc | apply BW.drew | (refine BW.setCell ?_ (by first | omega | (simp; done) | (simp; omega)) _) | (refine BW.trans ?_ (by assumption)))), (by refine ⟨?_, ?_, ?_⟩ <;> simp [go_sem, *])⟩)
  case rest =>
  obtain ⟨bw, rfl, rfl, hB4, Hbw⟩ := hcut
  replace Hbx := Hbx.bw hB4
  replace Lbx := Hbx.lt
  replace cbx0 := Hbx.1
  replace cbx1 := Hbx.2.1
  replace cbx2 := Hbx.2.2
  replace Hby_ := Hby_.bw hB4
  replace Lby_ := Hby_.lt
  replace cby_0 := Hby_.1
  replace cby_1 := Hby_.2.1
  replace cby_2 := Hby_.2.2
  replace Hbu := Hbu.bw hB4
  replace Lbu := Hbu.lt
  replace cbu0 := Hbu.1
  replace cbu1 := Hbu.2.1
  replace cbu2 := Hbu.2.2
  replace Hbv := Hbv.bw hB4
  replace Lbv := Hbv.lt
  replace cbv0 := Hbv.1
  replace cbv1 := Hbv.2.1
  replace cbv2 := Hbv.2.2
  have Lbw := Hbw.lt
  have cbw0 := Hbw.1
  have cbw1 := Hbw.2.1
  have cbw2 := Hbw.2.2
  replace hB4 := hB3.trans hB4
  clear hB3
  go_upto_region 10 with fail
  go_cut [17, 18] (fun p0 e0 wx => ∃ b0, p0 = .pointer (some ⟨b0, 0, none⟩) ∧ e0 = .int .i64 (0) ∧ BW wc wx ∧ H3 wx b0 (1) (s16 (z16 a)) ⟨#[]⟩)
  case first =>
    go_wp2_with (first | (go_at_call_of 16 (Value.string ⟨#[105, 49, 54]⟩); refine (one_s16 _ _).mono ?_; rintro e v1 ⟨rfl, hb⟩; have hz := hb.size; (try simp at hz); have hc0 := fun o => hb.cells bx o (by first | omega | (simp; done) | (simp; omega)); have hc1 := fun o => hb.cells by_ o (by first | omega | (simp; done) | (simp; omega)); have hc2 := fun o => hb.cells bu o (by first | omega | (simp; done) | (simp; omega)); have hc3 := fun o => hb.cells bv o (by first | omega | (simp; done) | (simp; omega)); have hc4 := fun o => hb.cells bw o (by first | omega | (simp; done) | (simp; omega)); have hd00 : ¬ bx = wc.heap.size := (by omega); have he00 : ¬ wc.heap.size = bx := (by omega); have hd01 : ¬ bx = v1.heap.size := (by omega); have he01 : ¬ v1.heap.size = bx := (by omega); have hd10 : ¬ by_ = wc.heap.size := (by omega); have he10 : ¬ wc.heap.size = by_ := (by omega); have hd11 : ¬ by_ = v1.heap.size := (by omega); have he11 : ¬ v1.heap.size = by_ := (by omega); have hd20 : ¬ bu = wc.heap.size := (by omega); have he20 : ¬ wc.heap.size = bu := (by omega); have hd21 : ¬ bu = v1.heap.size := (by omega); have he21 : ¬ v1.heap.size = bu := (by omega); have hd30 : ¬ bv = wc.heap.size := (by omega); have he30 : ¬ wc.heap.size = bv := (by omega); have hd31 : ¬ bv = v1.heap.size := (by omega); have he31 : ¬ v1.heap.size = bv := (by omega); have hd40 : ¬ bw = wc.heap.size := (by omega); have he40 : ¬ wc.heap.size = bw := (by omega); have hd41 : ¬ bw = v1.heap.size := (by omega); have he41 : ¬ v1.heap.size = bw := (by omega); (try have hq0 := fun o => hb.cells (wc.heap.size) o (by first | omega | (simp; done) | (simp; omega))); (try have hr0 := fun o => hb.froz (wc.heap.size) o (by first | omega | (simp; done) | (simp; omega)))))
    all_goals (go_meet; case rel => exact ⟨_, rfl, rfl, (by repeat (first | exact BW.refl _ | assumption | apply BW.alloc | apply BW.drew | (refine BW.setCell ?_ (by first | omega | (simp; done) | (simp; omega)) _) | (refine BW.trans ?_ (by assumption)))), (by refine ⟨?_, ?_, ?_⟩ <;> simp [go_sem, *])⟩)
  case rest =>
  obtain ⟨bz, rfl, rfl, hB5, Hbz⟩ := hcut
  replace Hbx := Hbx.bw hB5
  replace Lbx := Hbx.lt
  replace cbx0 := Hbx.1
  replace cbx1 := Hbx.2.1
  replace cbx2 := Hbx.2.2
  replace Hby_ := Hby_.bw hB5
  replace Lby_ := Hby_.lt
  replace cby_0 := Hby_.1
  replace cby_1 := Hby_.2.1
  replace cby_2 := Hby_.2.2
  replace Hbu := Hbu.bw hB5
  replace Lbu := Hbu.lt
  replace cbu0 := Hbu.1
  replace cbu1 := Hbu.2.1
  replace cbu2 := Hbu.2.2
  replace Hbv := Hbv.bw hB5
  replace Lbv := Hbv.lt
  replace cbv0 := Hbv.1
  replace cbv1 := Hbv.2.1
  replace cbv2 := Hbv.2.2
  replace Hbw := Hbw.bw hB5
  replace Lbw := Hbw.lt
  replace cbw0 := Hbw.1
  replace cbw1 := Hbw.2.1
  replace cbw2 := Hbw.2.2
  have Lbz := Hbz.lt
  have cbz0 := Hbz.1
  have cbz1 := Hbz.2.1
  have cbz2 := Hbz.2.2
  replace hB5 := hB4.trans hB5
  clear hB4
  obtain ⟨q1, q2, q3, q4, q5⟩ := narrow16 a
  go_wp2_with (first | (go_at_call 13; refine (awake_any _).mono ?_; rintro e v1 ⟨rfl, hb⟩; have hz := hb.size; (try simp at hz); have hc0 := fun o => hb.cells bx o (by first | omega | (simp; done) | (simp; omega)); have hc1 := fun o => hb.cells by_ o (by first | omega | (simp; done) | (simp; omega)); have hc2 := fun o => hb.cells bu o (by first | omega | (simp; done) | (simp; omega)); have hc3 := fun o => hb.cells bv o (by first | omega | (simp; done) | (simp; omega)); have hc4 := fun o => hb.cells bw o (by first | omega | (simp; done) | (simp; omega)); have hc5 := fun o => hb.cells bz o (by first | omega | (simp; done) | (simp; omega)); have hd00 : ¬ bx = wc.heap.size := (by omega); have he00 : ¬ wc.heap.size = bx := (by omega); have hd01 : ¬ bx = v1.heap.size := (by omega); have he01 : ¬ v1.heap.size = bx := (by omega); have hd10 : ¬ by_ = wc.heap.size := (by omega); have he10 : ¬ wc.heap.size = by_ := (by omega); have hd11 : ¬ by_ = v1.heap.size := (by omega); have he11 : ¬ v1.heap.size = by_ := (by omega); have hd20 : ¬ bu = wc.heap.size := (by omega); have he20 : ¬ wc.heap.size = bu := (by omega); have hd21 : ¬ bu = v1.heap.size := (by omega); have he21 : ¬ v1.heap.size = bu := (by omega); have hd30 : ¬ bv = wc.heap.size := (by omega); have he30 : ¬ wc.heap.size = bv := (by omega); have hd31 : ¬ bv = v1.heap.size := (by omega); have he31 : ¬ v1.heap.size = bv := (by omega); have hd40 : ¬ bw = wc.heap.size := (by omega); have he40 : ¬ wc.heap.size = bw := (by omega); have hd41 : ¬ bw = v1.heap.size := (by omega); have he41 : ¬ v1.heap.size = bw := (by omega); have hd50 : ¬ bz = wc.heap.size := (by omega); have he50 : ¬ wc.heap.size = bz := (by omega); have hd51 : ¬ bz = v1.heap.size := (by omega); have he51 : ¬ v1.heap.size = bz := (by omega); (try have hq0 := fun o => hb.cells (wc.heap.size) o (by first | omega | (simp; done) | (simp; omega))); (try have hr0 := fun o => hb.froz (wc.heap.size) o (by first | omega | (simp; done) | (simp; omega)))))
  go_ret
  exact ⟨rfl, (by repeat (first | exact BW.refl _ | assumption | apply BW.alloc | apply BW.drew | (refine BW.setCell ?_ (by first | omega | (simp; done) | (simp; omega)) _) | (refine BW.trans ?_ (by assumption))))⟩
set_option maxRecDepth 100000 in
set_option maxHeartbeats 400000 in
theorem narrow_w32 (n a : Int) (h0 : 0 ≤ n) (h1 : n ≤ 255) (hr : n % 3 = 2) (w : World) :
    Calls Try.prog 6 #[.int .u8 n, .int .i64 a] w fun e w' => e = .returned (.bool true) ∧ BW w w' := by
  have hi : (⟨#[105]⟩ : ByteArray) ++ ⟨#[51, 50]⟩ = ⟨#[105, 51, 50]⟩ := rfl
  have hu : (⟨#[117]⟩ : ByteArray) ++ ⟨#[51, 50]⟩ = ⟨#[117, 51, 50]⟩ := rfl
  go_enter Try.func6, Try.ntmps6
  go_upto_region 3 with fail
  go_cut [7, 8] (fun p0 e0 wx => ∃ b0, p0 = .pointer (some ⟨b0, 0, none⟩) ∧ e0 = .int .i64 (0) ∧ BW w wx ∧ H3 wx b0 (1) (s32 a) ⟨#[]⟩)
  case first =>
    go_wp2_with (first | (go_at_call 21; refine (of_any _ _).mono ?_; rintro e v1 ⟨rfl, hb⟩; have hz := hb.size; (try simp at hz); (try have hq0 := fun o => hb.cells (w.heap.size) o (by first | omega | (simp; done) | (simp; omega))); (try have hr0 := fun o => hb.froz (w.heap.size) o (by first | omega | (simp; done) | (simp; omega)))) | (go_at_call_of 16 (Value.string ⟨#[105, 51, 50]⟩); refine (one_s32 _ _).mono ?_; rintro e v2 ⟨rfl, hb⟩; have hz := hb.size; (try simp at hz); (try have hq0 := fun o => hb.cells (w.heap.size) o (by first | omega | (simp; done) | (simp; omega))); (try have hr0 := fun o => hb.froz (w.heap.size) o (by first | omega | (simp; done) | (simp; omega))); (try have hq1 := fun o => hb.cells (v1.heap.size) o (by first | omega | (simp; done) | (simp; omega))); (try have hr1 := fun o => hb.froz (v1.heap.size) o (by first | omega | (simp; done) | (simp; omega)))))
    all_goals (go_meet; case rel => exact ⟨_, rfl, rfl, (by repeat (first | exact BW.refl _ | assumption | apply BW.alloc | apply BW.drew | (refine BW.setCell ?_ (by first | omega | (simp; done) | (simp; omega)) _) | (refine BW.trans ?_ (by assumption)))), (by refine ⟨?_, ?_, ?_⟩ <;> simp [go_sem, *])⟩)
  case rest =>
  obtain ⟨bx, rfl, rfl, hB0, Hbx⟩ := hcut
  have Lbx := Hbx.lt
  have cbx0 := Hbx.1
  have cbx1 := Hbx.2.1
  have cbx2 := Hbx.2.2
  go_upto_region 4 with fail
  go_cut [9, 10] (fun p0 e0 wx => ∃ b0, p0 = .pointer (some ⟨b0, 0, none⟩) ∧ e0 = .int .i64 (0) ∧ BW wc wx ∧ H3 wx b0 (1) (z32 a) ⟨#[]⟩)
  case first =>
    go_wp2_with (first | (go_at_call 21; refine (of_any _ _).mono ?_; rintro e v1 ⟨rfl, hb⟩; have hz := hb.size; (try simp at hz); have hc0 := fun o => hb.cells bx o (by first | omega | (simp; done) | (simp; omega)); have hd00 : ¬ bx = wc.heap.size := (by omega); have he00 : ¬ wc.heap.size = bx := (by omega); have hd01 : ¬ bx = v1.heap.size := (by omega); have he01 : ¬ v1.heap.size = bx := (by omega); (try have hq0 := fun o => hb.cells (wc.heap.size) o (by first | omega | (simp; done) | (simp; omega))); (try have hr0 := fun o => hb.froz (wc.heap.size) o (by first | omega | (simp; done) | (simp; omega)))) | (go_at_call_of 16 (Value.string ⟨#[117, 51, 50]⟩); refine (one_z32 _ _).mono ?_; rintro e v2 ⟨rfl, hb⟩; have hz := hb.size; (try simp at hz); have hc0 := fun o => hb.cells bx o (by first | omega | (simp; done) | (simp; omega)); have hd00 : ¬ bx = wc.heap.size := (by omega); have he00 : ¬ wc.heap.size = bx := (by omega); have hd01 : ¬ bx = v2.heap.size := (by omega); have he01 : ¬ v2.heap.size = bx := (by omega); (try have hq0 := fun o => hb.cells (wc.heap.size) o (by first | omega | (simp; done) | (simp; omega))); (try have hr0 := fun o => hb.froz (wc.heap.size) o (by first | omega | (simp; done) | (simp; omega))); (try have hq1 := fun o => hb.cells (v1.heap.size) o (by first | omega | (simp; done) | (simp; omega))); (try have hr1 := fun o => hb.froz (v1.heap.size) o (by first | omega | (simp; done) | (simp; omega)))))
    all_goals (go_meet; case rel => exact ⟨_, rfl, rfl, (by repeat (first | exact BW.refl _ | assumption | apply BW.alloc | apply BW.drew | (refine BW.setCell ?_ (by first | omega | (simp; done) | (simp; omega)) _) | (refine BW.trans ?_ (by assumption)))), (by refine ⟨?_, ?_, ?_⟩ <;> simp [go_sem, *])⟩)
  case rest =>
  obtain ⟨by_, rfl, rfl, hB1, Hby_⟩ := hcut
  replace Hbx := Hbx.bw hB1
  replace Lbx := Hbx.lt
  replace cbx0 := Hbx.1
  replace cbx1 := Hbx.2.1
  replace cbx2 := Hbx.2.2
  have Lby_ := Hby_.lt
  have cby_0 := Hby_.1
  have cby_1 := Hby_.2.1
  have cby_2 := Hby_.2.2
  replace hB1 := hB0.trans hB1
  clear hB0
  go_upto_region 7 with fail
  go_cut [11, 12] (fun p0 e0 wx => ∃ b0, p0 = .pointer (some ⟨b0, 0, none⟩) ∧ e0 = .int .i64 (0) ∧ BW wc wx ∧ H3 wx b0 (1) (s32 (s32 a)) ⟨#[]⟩)
  case first =>
    go_wp2_with (first | (go_at_call_of 16 (Value.string ⟨#[105, 51, 50]⟩); refine (one_s32 _ _).mono ?_; rintro e v1 ⟨rfl, hb⟩; have hz := hb.size; (try simp at hz); have hc0 := fun o => hb.cells bx o (by first | omega | (simp; done) | (simp; omega)); have hc1 := fun o => hb.cells by_ o (by first | omega | (simp; done) | (simp; omega)); have hd00 : ¬ bx = wc.heap.size := (by omega); have he00 : ¬ wc.heap.size = bx := (by omega); have hd01 : ¬ bx = v1.heap.size := (by omega); have he01 : ¬ v1.heap.size = bx := (by omega); have hd10 : ¬ by_ = wc.heap.size := (by omega); have he10 : ¬ wc.heap.size = by_ := (by omega); have hd11 : ¬ by_ = v1.heap.size := (by omega); have he11 : ¬ v1.heap.size = by_ := (by omega); (try have hq0 := fun o => hb.cells (wc.heap.size) o (by first | omega | (simp; done) | (simp; omega))); (try have hr0 := fun o => hb.froz (wc.heap.size) o (by first | omega | (simp; done) | (simp; omega)))))
    all_goals (go_meet; case rel => exact ⟨_, rfl, rfl, (by repeat (first | exact BW.refl _ | assumption | apply BW.alloc | apply BW.drew | (refine BW.setCell ?_ (by first | omega | (simp; done) | (simp; omega)) _) | (refine BW.trans ?_ (by assumption)))), (by refine ⟨?_, ?_, ?_⟩ <;> simp [go_sem, *])⟩)
  case rest =>
  obtain ⟨bu, rfl, rfl, hB2, Hbu⟩ := hcut
  replace Hbx := Hbx.bw hB2
  replace Lbx := Hbx.lt
  replace cbx0 := Hbx.1
  replace cbx1 := Hbx.2.1
  replace cbx2 := Hbx.2.2
  replace Hby_ := Hby_.bw hB2
  replace Lby_ := Hby_.lt
  replace cby_0 := Hby_.1
  replace cby_1 := Hby_.2.1
  replace cby_2 := Hby_.2.2
  have Lbu := Hbu.lt
  have cbu0 := Hbu.1
  have cbu1 := Hbu.2.1
  have cbu2 := Hbu.2.2
  replace hB2 := hB1.trans hB2
  clear hB1
  go_upto_region 8 with fail
  go_cut [13, 14] (fun p0 e0 wx => ∃ b0, p0 = .pointer (some ⟨b0, 0, none⟩) ∧ e0 = .int .i64 (0) ∧ BW wc wx ∧ H3 wx b0 (1) (z32 (z32 a)) ⟨#[]⟩)
  case first =>
    go_wp2_with (first | (go_at_call_of 16 (Value.string ⟨#[117, 51, 50]⟩); refine (one_z32 _ _).mono ?_; rintro e v1 ⟨rfl, hb⟩; have hz := hb.size; (try simp at hz); have hc0 := fun o => hb.cells bx o (by first | omega | (simp; done) | (simp; omega)); have hc1 := fun o => hb.cells by_ o (by first | omega | (simp; done) | (simp; omega)); have hc2 := fun o => hb.cells bu o (by first | omega | (simp; done) | (simp; omega)); have hd00 : ¬ bx = wc.heap.size := (by omega); have he00 : ¬ wc.heap.size = bx := (by omega); have hd01 : ¬ bx = v1.heap.size := (by omega); have he01 : ¬ v1.heap.size = bx := (by omega); have hd10 : ¬ by_ = wc.heap.size := (by omega); have he10 : ¬ wc.heap.size = by_ := (by omega); have hd11 : ¬ by_ = v1.heap.size := (by omega); have he11 : ¬ v1.heap.size = by_ := (by omega); have hd20 : ¬ bu = wc.heap.size := (by omega); have he20 : ¬ wc.heap.size = bu := (by omega); have hd21 : ¬ bu = v1.heap.size := (by omega); have he21 : ¬ v1.heap.size = bu := (by omega); (try have hq0 := fun o => hb.cells (wc.heap.size) o (by first | omega | (simp; done) | (simp; omega))); (try have hr0 := fun o => hb.froz (wc.heap.size) o (by first | omega | (simp; done) | (simp; omega)))))
    all_goals (go_meet; case rel => exact ⟨_, rfl, rfl, (by repeat (first | exact BW.refl _ | assumption | apply BW.alloc | apply BW.drew | (refine BW.setCell ?_ (by first | omega | (simp; done) | (simp; omega)) _) | (refine BW.trans ?_ (by assumption)))), (by refine ⟨?_, ?_, ?_⟩ <;> simp [go_sem, *])⟩)
  case rest =>
  obtain ⟨bv, rfl, rfl, hB3, Hbv⟩ := hcut
  replace Hbx := Hbx.bw hB3
  replace Lbx := Hbx.lt
  replace cbx0 := Hbx.1
  replace cbx1 := Hbx.2.1
  replace cbx2 := Hbx.2.2
  replace Hby_ := Hby_.bw hB3
  replace Lby_ := Hby_.lt
  replace cby_0 := Hby_.1
  replace cby_1 := Hby_.2.1
  replace cby_2 := Hby_.2.2
  replace Hbu := Hbu.bw hB3
  replace Lbu := Hbu.lt
  replace cbu0 := Hbu.1
  replace cbu1 := Hbu.2.1
  replace cbu2 := Hbu.2.2
  have Lbv := Hbv.lt
  have cbv0 := Hbv.1
  have cbv1 := Hbv.2.1
  have cbv2 := Hbv.2.2
  replace hB3 := hB2.trans hB3
  clear hB2
  go_upto_region 9 with fail
  go_cut [15, 16] (fun p0 e0 wx => ∃ b0, p0 = .pointer (some ⟨b0, 0, none⟩) ∧ e0 = .int .i64 (0) ∧ BW wc wx ∧ H3 wx b0 (1) (z32 (s32 a)) ⟨#[]⟩)
  case first =>
    go_wp2_with (first | (go_at_call_of 16 (Value.string ⟨#[117, 51, 50]⟩); refine (one_z32 _ _).mono ?_; rintro e v1 ⟨rfl, hb⟩; have hz := hb.size; (try simp at hz); have hc0 := fun o => hb.cells bx o (by first | omega | (simp; done) | (simp; omega)); have hc1 := fun o => hb.cells by_ o (by first | omega | (simp; done) | (simp; omega)); have hc2 := fun o => hb.cells bu o (by first | omega | (simp; done) | (simp; omega)); have hc3 := fun o => hb.cells bv o (by first | omega | (simp; done) | (simp; omega)); have hd00 : ¬ bx = wc.heap.size := (by omega); have he00 : ¬ wc.heap.size = bx := (by omega); have hd01 : ¬ bx = v1.heap.size := (by omega); have he01 : ¬ v1.heap.size = bx := (by omega); have hd10 : ¬ by_ = wc.heap.size := (by omega); have he10 : ¬ wc.heap.size = by_ := (by omega); have hd11 : ¬ by_ = v1.heap.size := (by omega); have he11 : ¬ v1.heap.size = by_ := (by omega); have hd20 : ¬ bu = wc.heap.size := (by omega); have he20 : ¬ wc.heap.size = bu := (by omega); have hd21 : ¬ bu = v1.heap.size := (by omega); have he21 : ¬ v1.heap.size = bu := (by omega); have hd30 : ¬ bv = wc.heap.size := (by omega); have he30 : ¬ wc.heap.size = bv := (by omega); have hd31 : ¬ bv = v1.heap.size := (by omega); have he31 : ¬ v1.heap.size = bv := (by omega); (try have hq0 := fun o => hb.cells (wc.heap.size) o (by first | omega | (simp; done) | (simp; omega))); (try have hr0 := fun o => hb.froz (wc.heap.size) o (by first | omega | (simp; done) | (simp; omega)))))
    all_goals (go_meet; case rel => exact ⟨_, rfl, rfl, (by repeat (first | exact BW.refl _ | assumption | apply BW.alloc | apply BW.drew | (refine BW.setCell ?_ (by first | omega | (simp; done) | (simp; omega)) _) | (refine BW.trans ?_ (by assumption)))), (by refine ⟨?_, ?_, ?_⟩ <;> simp [go_sem, *])⟩)
  case rest =>
  obtain ⟨bw, rfl, rfl, hB4, Hbw⟩ := hcut
  replace Hbx := Hbx.bw hB4
  replace Lbx := Hbx.lt
  replace cbx0 := Hbx.1
  replace cbx1 := Hbx.2.1
  replace cbx2 := Hbx.2.2
  replace Hby_ := Hby_.bw hB4
  replace Lby_ := Hby_.lt
  replace cby_0 := Hby_.1
  replace cby_1 := Hby_.2.1
  replace cby_2 := Hby_.2.2
  replace Hbu := Hbu.bw hB4
  replace Lbu := Hbu.lt
  replace cbu0 := Hbu.1
  replace cbu1 := Hbu.2.1
  replace cbu2 := Hbu.2.2
  replace Hbv := Hbv.bw hB4
  replace Lbv := Hbv.lt
  replace cbv0 := Hbv.1
  replace cbv1 := Hbv.2.1
  replace cbv2 := Hbv.2.2
  have Lbw := Hbw.lt
  have cbw0 := Hbw.1
  have cbw1 := Hbw.2.1
  have cbw2 := Hbw.2.2
  replace hB4 := hB3.trans hB4
  clear hB3
  go_upto_region 10 with fail
  go_cut [17, 18] (fun p0 e0 wx => ∃ b0, p0 = .pointer (some ⟨b0, 0, none⟩) ∧ e0 = .int .i64 (0) ∧ BW wc wx ∧ H3 wx b0 (1) (s32 (z32 a)) ⟨#[]⟩)
  case first =>
    go_wp2_with (first | (go_at_call_of 16 (Value.string ⟨#[105, 51, 50]⟩); refine (one_s32 _ _).mono ?_; rintro e v1 ⟨rfl, hb⟩; have hz := hb.size; (try simp at hz); have hc0 := fun o => hb.cells bx o (by first | omega | (simp; done) | (simp; omega)); have hc1 := fun o => hb.cells by_ o (by first | omega | (simp; done) | (simp; omega)); have hc2 := fun o => hb.cells bu o (by first | omega | (simp; done) | (simp; omega)); have hc3 := fun o => hb.cells bv o (by first | omega | (simp; done) | (simp; omega)); have hc4 := fun o => hb.cells bw o (by first | omega | (simp; done) | (simp; omega)); have hd00 : ¬ bx = wc.heap.size := (by omega); have he00 : ¬ wc.heap.size = bx := (by omega); have hd01 : ¬ bx = v1.heap.size := (by omega); have he01 : ¬ v1.heap.size = bx := (by omega); have hd10 : ¬ by_ = wc.heap.size := (by omega); have he10 : ¬ wc.heap.size = by_ := (by omega); have hd11 : ¬ by_ = v1.heap.size := (by omega); have he11 : ¬ v1.heap.size = by_ := (by omega); have hd20 : ¬ bu = wc.heap.size := (by omega); have he20 : ¬ wc.heap.size = bu := (by omega); have hd21 : ¬ bu = v1.heap.size := (by omega); have he21 : ¬ v1.heap.size = bu := (by omega); have hd30 : ¬ bv = wc.heap.size := (by omega); have he30 : ¬ wc.heap.size = bv := (by omega); have hd31 : ¬ bv = v1.heap.size := (by omega); have he31 : ¬ v1.heap.size = bv := (by omega); have hd40 : ¬ bw = wc.heap.size := (by omega); have he40 : ¬ wc.heap.size = bw := (by omega); have hd41 : ¬ bw = v1.heap.size := (by omega); have he41 : ¬ v1.heap.size = bw := (by omega); (try have hq0 := fun o => hb.cells (wc.heap.size) o (by first | omega | (simp; done) | (simp; omega))); (try have hr0 := fun o => hb.froz (wc.heap.size) o (by first | omega | (simp; done) | (simp; omega)))))
    all_goals (go_meet; case rel => exact ⟨_, rfl, rfl, (by repeat (first | exact BW.refl _ | assumption | apply BW.alloc | apply BW.drew | (refine BW.setCell ?_ (by first | omega | (simp; done) | (simp; omega)) _) | (refine BW.trans ?_ (by assumption)))), (by refine ⟨?_, ?_, ?_⟩ <;> simp [go_sem, *])⟩)
  case rest =>
  obtain ⟨bz, rfl, rfl, hB5, Hbz⟩ := hcut
  replace Hbx := Hbx.bw hB5
  replace Lbx := Hbx.lt
  replace cbx0 := Hbx.1
  replace cbx1 := Hbx.2.1
  replace cbx2 := Hbx.2.2
  replace Hby_ := Hby_.bw hB5
  replace Lby_ := Hby_.lt
  replace cby_0 := Hby_.1
  replace cby_1 := Hby_.2.1
  replace cby_2 := Hby_.2.2
  replace Hbu := Hbu.bw hB5
  replace Lbu := Hbu.lt
  replace cbu0 := Hbu.1
  replace cbu1 := Hbu.2.1
  replace cbu2 := Hbu.2.2
  replace Hbv := Hbv.bw hB5
  replace Lbv := Hbv.lt
  replace cbv0 := Hbv.1
  replace cbv1 := Hbv.2.1
  replace cbv2 := Hbv.2.2
  replace Hbw := Hbw.bw hB5
  replace Lbw := Hbw.lt
  replace cbw0 := Hbw.1
  replace cbw1 := Hbw.2.1
  replace cbw2 := Hbw.2.2
  have Lbz := Hbz.lt
  have cbz0 := Hbz.1
  have cbz1 := Hbz.2.1
  have cbz2 := Hbz.2.2
  replace hB5 := hB4.trans hB5
  clear hB4
  obtain ⟨q1, q2, q3, q4, q5⟩ := narrow32 a
  go_wp2_with (first | (go_at_call 13; refine (awake_any _).mono ?_; rintro e v1 ⟨rfl, hb⟩; have hz := hb.size; (try simp at hz); have hc0 := fun o => hb.cells bx o (by first | omega | (simp; done) | (simp; omega)); have hc1 := fun o => hb.cells by_ o (by first | omega | (simp; done) | (simp; omega)); have hc2 := fun o => hb.cells bu o (by first | omega | (simp; done) | (simp; omega)); have hc3 := fun o => hb.cells bv o (by first | omega | (simp; done) | (simp; omega)); have hc4 := fun o => hb.cells bw o (by first | omega | (simp; done) | (simp; omega)); have hc5 := fun o => hb.cells bz o (by first | omega | (simp; done) | (simp; omega)); have hd00 : ¬ bx = wc.heap.size := (by omega); have he00 : ¬ wc.heap.size = bx := (by omega); have hd01 : ¬ bx = v1.heap.size := (by omega); have he01 : ¬ v1.heap.size = bx := (by omega); have hd10 : ¬ by_ = wc.heap.size := (by omega); have he10 : ¬ wc.heap.size = by_ := (by omega); have hd11 : ¬ by_ = v1.heap.size := (by omega); have he11 : ¬ v1.heap.size = by_ := (by omega); have hd20 : ¬ bu = wc.heap.size := (by omega); have he20 : ¬ wc.heap.size = bu := (by omega); have hd21 : ¬ bu = v1.heap.size := (by omega); have he21 : ¬ v1.heap.size = bu := (by omega); have hd30 : ¬ bv = wc.heap.size := (by omega); have he30 : ¬ wc.heap.size = bv := (by omega); have hd31 : ¬ bv = v1.heap.size := (by omega); have he31 : ¬ v1.heap.size = bv := (by omega); have hd40 : ¬ bw = wc.heap.size := (by omega); have he40 : ¬ wc.heap.size = bw := (by omega); have hd41 : ¬ bw = v1.heap.size := (by omega); have he41 : ¬ v1.heap.size = bw := (by omega); have hd50 : ¬ bz = wc.heap.size := (by omega); have he50 : ¬ wc.heap.size = bz := (by omega); have hd51 : ¬ bz = v1.heap.size := (by omega); have he51 : ¬ v1.heap.size = bz := (by omega); (try have hq0 := fun o => hb.cells (wc.heap.size) o (by first | omega | (simp; done) | (simp; omega))); (try have hr0 := fun o => hb.froz (wc.heap.size) o (by first | omega | (simp; done) | (simp; omega)))))
  go_ret
  exact ⟨rfl, (by repeat (first | exact BW.refl _ | assumption | apply BW.alloc | apply BW.drew | (refine BW.setCell ?_ (by first | omega | (simp; done) | (simp; omega)) _) | (refine BW.trans ?_ (by assumption))))⟩
theorem narrow_walk (n a : Int) (h0 : 0 ≤ n) (h1 : n ≤ 255) (w : World) :
    Calls Try.prog 6 #[.int .u8 n, .int .i64 a] w fun e w' => e = .returned (.bool true) ∧ BW w w' := by
  by_cases r0 : n % 3 = 0
  · exact narrow_w8 n a h0 h1 r0 w
  · by_cases r1 : n % 3 = 1
    · exact narrow_w16 n a h0 h1 r1 w
    · exact narrow_w32 n a h0 h1 (by omega) w
end Go.Proofs.Ytbiahgjlgojhdaa
