import Derived.Test.YtbiahgjlgojhdaaM1
import Derived.Test.YtbiahgjlgojhdaaB4
import Derived.Test.YtbiahgjlgojhdaaB5
import Derived.Deep.RegionWith
import Derived.Deep.RegionHeld3
import Derived.Deep.DeepCutAuto
namespace Go.Proofs.Ytbiahgjlgojhdaa
open Go.RowKit
set_option linter.unusedVariables false
set_option maxRecDepth 100000 in
set_option maxHeartbeats 400000 in
theorem makes_same (n : Int) (b : Bool) (s : ByteArray) (hs : s.size ≤ 1000)  (w : World) :
    Calls Try.prog 7 #[.int .i64 n, .bool b, .string s, .string s] w fun e w' => e = .returned (.bool true) ∧ BW w w' := by
  go_enter Try.func7, Try.ntmps7
  go_upto_region 3 with fail
  go_cut [9, 10, 11] (fun p0 p1 p2 wx => ∃ b0, ∃ b1, ∃ b2, p0 = .pointer (some ⟨b0, 0, none⟩) ∧ p1 = .pointer (some ⟨b1, 0, none⟩) ∧ p2 = .pointer (some ⟨b2, 0, none⟩) ∧ BW w wx ∧ H3 wx b0 (1) (n) ⟨#[]⟩ ∧ H3 wx b1 (2) (bN b) ⟨#[]⟩ ∧ H3 wx b2 (3) (0) s)
  case first =>
    go_wp2_with (first | (go_at_call 21; refine (of_any _ _).mono ?_; rintro e v1 ⟨rfl, hb⟩; have hz := hb.size; (try simp at hz); (try have hq0 := fun o => hb.cells (w.heap.size) o (by first | omega | (simp; done) | (simp; omega))); (try have hr0 := fun o => hb.froz (w.heap.size) o (by first | omega | (simp; done) | (simp; omega)))) | (go_at_call 23; refine (is_any _ _).mono ?_; rintro e v2 ⟨rfl, hb⟩; have hz := hb.size; (try simp at hz); (try have hq0 := fun o => hb.cells (w.heap.size) o (by first | omega | (simp; done) | (simp; omega))); (try have hr0 := fun o => hb.froz (w.heap.size) o (by first | omega | (simp; done) | (simp; omega))); (try have hq1 := fun o => hb.cells (v1.heap.size) o (by first | omega | (simp; done) | (simp; omega))); (try have hr1 := fun o => hb.froz (v1.heap.size) o (by first | omega | (simp; done) | (simp; omega)))) | (go_at_call 24; refine (text_any _ _).mono ?_; rintro e v3 ⟨rfl, hb⟩; have hz := hb.size; (try simp at hz); (try have hq0 := fun o => hb.cells (w.heap.size) o (by first | omega | (simp; done) | (simp; omega))); (try have hr0 := fun o => hb.froz (w.heap.size) o (by first | omega | (simp; done) | (simp; omega))); (try have hq1 := fun o => hb.cells (v1.heap.size) o (by first | omega | (simp; done) | (simp; omega))); (try have hr1 := fun o => hb.froz (v1.heap.size) o (by first | omega | (simp; done) | (simp; omega))); (try have hq2 := fun o => hb.cells (v2.heap.size) o (by first | omega | (simp; done) | (simp; omega))); (try have hr2 := fun o => hb.froz (v2.heap.size) o (by first | omega | (simp; done) | (simp; omega)))))
    all_goals (go_meet; case rel => exact ⟨_, _, _, rfl, rfl, rfl, (by repeat (first | exact BW.refl _ | assumption | apply BW.alloc | apply BW.drew | (refine BW.setCell ?_ (by first | omega | (simp; done) | (simp; omega)) _) | (refine BW.trans ?_ (by assumption)))), (by refine ⟨?_, ?_, ?_⟩ <;> simp [go_sem, *]), (by refine ⟨?_, ?_, ?_⟩ <;> simp [go_sem, *]), (by refine ⟨?_, ?_, ?_⟩ <;> simp [go_sem, *])⟩)
  case rest =>
  obtain ⟨bx, by_, bz, rfl, rfl, rfl, hB0, Hbx, Hby_, Hbz⟩ := hcut
  have Lbx := Hbx.lt
  have cbx0 := Hbx.1
  have cbx1 := Hbx.2.1
  have cbx2 := Hbx.2.2
  have Lby_ := Hby_.lt
  have cby_0 := Hby_.1
  have cby_1 := Hby_.2.1
  have cby_2 := Hby_.2.2
  have Lbz := Hbz.lt
  have cbz0 := Hbz.1
  have cbz1 := Hbz.2.1
  have cbz2 := Hbz.2.2
  go_upto_region 4 with fail
  go_cut [46] (fun x wx => x = .bool false ∧ BW wc wx)
  case first =>
    go_region_held3 (fun w' => w'.cell? ⟨bx, 0, none⟩ = some (.int .u8 (1)) ∧ w'.cell? ⟨bx, 1, none⟩ = some (.int .i64 (n)) ∧ w'.cell? ⟨bx, 2, none⟩ = some (.string ⟨#[]⟩) ∧ w'.cell? ⟨by_, 0, none⟩ = some (.int .u8 (2)) ∧ w'.cell? ⟨by_, 1, none⟩ = some (.int .i64 (bN b)) ∧ w'.cell? ⟨by_, 2, none⟩ = some (.string ⟨#[]⟩) ∧ w'.cell? ⟨bz, 0, none⟩ = some (.int .u8 (3)) ∧ w'.cell? ⟨bz, 1, none⟩ = some (.int .i64 (0)) ∧ w'.cell? ⟨bz, 2, none⟩ = some (.string s)) (go_keep) (first | (go_at_call 22; refine (int_any _ _).mono ?_; rintro e v1 ⟨rfl, hb⟩; have hz := hb.size; (try simp at hz); have hc0 := fun o => hb.cells bx o (by first | omega | (simp; done) | (simp; omega)); have hc1 := fun o => hb.cells by_ o (by first | omega | (simp; done) | (simp; omega)); have hc2 := fun o => hb.cells bz o (by first | omega | (simp; done) | (simp; omega)); have hd00 : ¬ bx = wc.heap.size := (by omega); have he00 : ¬ wc.heap.size = bx := (by omega); have hd01 : ¬ bx = v1.heap.size := (by omega); have he01 : ¬ v1.heap.size = bx := (by omega); have hd10 : ¬ by_ = wc.heap.size := (by omega); have he10 : ¬ wc.heap.size = by_ := (by omega); have hd11 : ¬ by_ = v1.heap.size := (by omega); have he11 : ¬ v1.heap.size = by_ := (by omega); have hd20 : ¬ bz = wc.heap.size := (by omega); have he20 : ¬ wc.heap.size = bz := (by omega); have hd21 : ¬ bz = v1.heap.size := (by omega); have he21 : ¬ v1.heap.size = bz := (by omega); (try have hq0 := fun o => hb.cells (wc.heap.size) o (by first | omega | (simp; done) | (simp; omega))); (try have hr0 := fun o => hb.froz (wc.heap.size) o (by first | omega | (simp; done) | (simp; omega)))) | (go_at_call 25; refine (bool_any _ _).mono ?_; rintro e v2 ⟨rfl, hb⟩; have hz := hb.size; (try simp at hz); have hc0 := fun o => hb.cells bx o (by first | omega | (simp; done) | (simp; omega)); have hc1 := fun o => hb.cells by_ o (by first | omega | (simp; done) | (simp; omega)); have hc2 := fun o => hb.cells bz o (by first | omega | (simp; done) | (simp; omega)); have hd00 : ¬ bx = wc.heap.size := (by omega); have he00 : ¬ wc.heap.size = bx := (by omega); have hd01 : ¬ bx = v2.heap.size := (by omega); have he01 : ¬ v2.heap.size = bx := (by omega); have hd10 : ¬ by_ = wc.heap.size := (by omega); have he10 : ¬ wc.heap.size = by_ := (by omega); have hd11 : ¬ by_ = v2.heap.size := (by omega); have he11 : ¬ v2.heap.size = by_ := (by omega); have hd20 : ¬ bz = wc.heap.size := (by omega); have he20 : ¬ wc.heap.size = bz := (by omega); have hd21 : ¬ bz = v2.heap.size := (by omega); have he21 : ¬ v2.heap.size = bz := (by omega); (try have hq0 := fun o => hb.cells (wc.heap.size) o (by first | omega | (simp; done) | (simp; omega))); (try have hr0 := fun o => hb.froz (wc.heap.size) o (by first | omega | (simp; done) | (simp; omega))); (try have hq1 := fun o => hb.cells (v1.heap.size) o (by first | omega | (simp; done) | (simp; omega))); (try have hr1 := fun o => hb.froz (v1.heap.size) o (by first | omega | (simp; done) | (simp; omega)))))
    all_goals go_wp2_with fail
    all_goals (go_meet; case rel => exact ⟨rfl, (by repeat (first | exact BW.refl _ | assumption | apply BW.alloc | apply BW.drew | (refine BW.setCell ?_ (by first | omega | (simp; done) | (simp; omega)) _) | (refine BW.trans ?_ (by assumption))))⟩)
  case rest =>
  obtain ⟨rfl, hB1⟩ := hcut
  replace Hbx := Hbx.bw hB1
  replace Lbx := Hbx.lt
  replace cbx0 := Hbx.1
  replace cbx1 := Hbx.2.1
  replace cbx2 := Hbx.2.2
  replace Hby_ := Hby_.bw hB1
  replace Lby_ := Hby_.lt
  replace cby_0 := Hby_.1
  replace cby_1 := Hby_.2.1
  replace cby_2 := Hby_.2.2
  replace Hbz := Hbz.bw hB1
  replace Lbz := Hbz.lt
  replace cbz0 := Hbz.1
  replace cbz1 := Hbz.2.1
  replace cbz2 := Hbz.2.2
  replace hB1 := hB0.trans hB1
  clear hB0
  go_upto_region 6 with fail
  go_cut [12, 13] (fun p0 e0 wx => ∃ b0, p0 = .pointer (some ⟨b0, 0, none⟩) ∧ e0 = .int .i64 (0) ∧ BW wc wx ∧ H3 wx b0 (2) (bN true) ⟨#[]⟩)
  case first =>
    go_region_held3 (fun w' => w'.cell? ⟨bz, 0, none⟩ = some (.int .u8 (3)) ∧ w'.cell? ⟨bz, 1, none⟩ = some (.int .i64 (0)) ∧ w'.cell? ⟨bz, 2, none⟩ = some (.string s)) (go_keep) (first | (go_at_call 24; refine (text_any _ _).mono ?_; rintro e v1 ⟨rfl, hb⟩; have hz := hb.size; (try simp at hz); have hc0 := fun o => hb.cells bx o (by first | omega | (simp; done) | (simp; omega)); have hc1 := fun o => hb.cells by_ o (by first | omega | (simp; done) | (simp; omega)); have hc2 := fun o => hb.cells bz o (by first | omega | (simp; done) | (simp; omega)); have hd00 : ¬ bx = wc.heap.size := (by omega); have he00 : ¬ wc.heap.size = bx := (by omega); have hd01 : ¬ bx = v1.heap.size := (by omega); have he01 : ¬ v1.heap.size = bx := (by omega); have hd10 : ¬ by_ = wc.heap.size := (by omega); have he10 : ¬ wc.heap.size = by_ := (by omega); have hd11 : ¬ by_ = v1.heap.size := (by omega); have he11 : ¬ v1.heap.size = by_ := (by omega); have hd20 : ¬ bz = wc.heap.size := (by omega); have he20 : ¬ wc.heap.size = bz := (by omega); have hd21 : ¬ bz = v1.heap.size := (by omega); have he21 : ¬ v1.heap.size = bz := (by omega); (try have hq0 := fun o => hb.cells (wc.heap.size) o (by first | omega | (simp; done) | (simp; omega))); (try have hr0 := fun o => hb.froz (wc.heap.size) o (by first | omega | (simp; done) | (simp; omega)))) | (go_at_call 19; refine (two_eq (fun w => same_yes 3 0 _ (by omega) w) _).mono ?_; rintro e v2 ⟨rfl, hb⟩; have hz := hb.size; (try simp at hz); have hc0 := fun o => hb.cells bx o (by first | omega | (simp; done) | (simp; omega)); have hc1 := fun o => hb.cells by_ o (by first | omega | (simp; done) | (simp; omega)); have hc2 := fun o => hb.cells bz o (by first | omega | (simp; done) | (simp; omega)); have hd00 : ¬ bx = wc.heap.size := (by omega); have he00 : ¬ wc.heap.size = bx := (by omega); have hd01 : ¬ bx = v2.heap.size := (by omega); have he01 : ¬ v2.heap.size = bx := (by omega); have hd10 : ¬ by_ = wc.heap.size := (by omega); have he10 : ¬ wc.heap.size = by_ := (by omega); have hd11 : ¬ by_ = v2.heap.size := (by omega); have he11 : ¬ v2.heap.size = by_ := (by omega); have hd20 : ¬ bz = wc.heap.size := (by omega); have he20 : ¬ wc.heap.size = bz := (by omega); have hd21 : ¬ bz = v2.heap.size := (by omega); have he21 : ¬ v2.heap.size = bz := (by omega); (try have hq0 := fun o => hb.cells (wc.heap.size) o (by first | omega | (simp; done) | (simp; omega))); (try have hr0 := fun o => hb.froz (wc.heap.size) o (by first | omega | (simp; done) | (simp; omega))); (try have hq1 := fun o => hb.cells (v1.heap.size) o (by first | omega | (simp; done) | (simp; omega))); (try have hr1 := fun o => hb.froz (v1.heap.size) o (by first | omega | (simp; done) | (simp; omega)))))
    all_goals go_wp2_with fail
    all_goals (go_meet; case rel => exact ⟨_, rfl, rfl, (by repeat (first | exact BW.refl _ | assumption | apply BW.alloc | apply BW.drew | (refine BW.setCell ?_ (by first | omega | (simp; done) | (simp; omega)) _) | (refine BW.trans ?_ (by assumption)))), (by refine ⟨?_, ?_, ?_⟩ <;> simp [go_sem, *])⟩)
  case rest =>
  obtain ⟨bv, rfl, rfl, hB2, Hbv⟩ := hcut
  replace Hbx := Hbx.bw hB2
  replace Lbx := Hbx.lt
  replace cbx0 := Hbx.1
  replace cbx1 := Hbx.2.1
  replace cbx2 := Hbx.2.2
  replace Hby_ := Hby_.bw hB2
  replace Lby_ := Hby_.lt
  replace cby_0 := Hby_.1
  replace cby_1 := Hby_.2.1
  replace cby_2 := Hby_.2.2
  replace Hbz := Hbz.bw hB2
  replace Lbz := Hbz.lt
  replace cbz0 := Hbz.1
  replace cbz1 := Hbz.2.1
  replace cbz2 := Hbz.2.2
  have Lbv := Hbv.lt
  have cbv0 := Hbv.1
  have cbv1 := Hbv.2.1
  have cbv2 := Hbv.2.2
  replace hB2 := hB1.trans hB2
  clear hB1
  clear Hbz Lbz cbz0 cbz1 cbz2
  go_upto_region 7 with fail
  go_cut [14, 15] (fun p0 e0 wx => ∃ b0, p0 = .pointer (some ⟨b0, 0, none⟩) ∧ e0 = .int .i64 (2) ∧ BW wc wx ∧ H3 wx b0 (0) (0) ⟨#[]⟩)
  case first =>
    go_wp2_with (first | (go_at_call 19; refine (two_eq (fun w => same_no1 1 n 2 (bN b) _ _ (by decide) w) _).mono ?_; rintro e v1 ⟨rfl, hb⟩; have hz := hb.size; (try simp at hz); have hc0 := fun o => hb.cells bx o (by first | omega | (simp; done) | (simp; omega)); have hc1 := fun o => hb.cells by_ o (by first | omega | (simp; done) | (simp; omega)); have hc2 := fun o => hb.cells bv o (by first | omega | (simp; done) | (simp; omega)); have hd00 : ¬ bx = wc.heap.size := (by omega); have he00 : ¬ wc.heap.size = bx := (by omega); have hd01 : ¬ bx = v1.heap.size := (by omega); have he01 : ¬ v1.heap.size = bx := (by omega); have hd10 : ¬ by_ = wc.heap.size := (by omega); have he10 : ¬ wc.heap.size = by_ := (by omega); have hd11 : ¬ by_ = v1.heap.size := (by omega); have he11 : ¬ v1.heap.size = by_ := (by omega); have hd20 : ¬ bv = wc.heap.size := (by omega); have he20 : ¬ wc.heap.size = bv := (by omega); have hd21 : ¬ bv = v1.heap.size := (by omega); have he21 : ¬ v1.heap.size = bv := (by omega); (try have hq0 := fun o => hb.cells (wc.heap.size) o (by first | omega | (simp; done) | (simp; omega))); (try have hr0 := fun o => hb.froz (wc.heap.size) o (by first | omega | (simp; done) | (simp; omega)))))
    all_goals (go_meet; case rel => exact ⟨_, rfl, rfl, (by repeat (first | exact BW.refl _ | assumption | apply BW.alloc | apply BW.drew | (refine BW.setCell ?_ (by first | omega | (simp; done) | (simp; omega)) _) | (refine BW.trans ?_ (by assumption)))), (by refine ⟨?_, ?_, ?_⟩ <;> simp [go_sem, *])⟩)
  case rest =>
  obtain ⟨bf, rfl, rfl, hB3, Hbf⟩ := hcut
  replace Hbx := Hbx.bw hB3
  replace Lbx := Hbx.lt
  replace cbx0 := Hbx.1
  replace cbx1 := Hbx.2.1
  replace cbx2 := Hbx.2.2
  replace Hby_ := Hby_.bw hB3
  replace Lby_ := Hby_.lt
  replace cby_0 := Hby_.1
  replace cby_1 := Hby_.2.1
  replace cby_2 := Hby_.2.2
  replace Hbv := Hbv.bw hB3
  replace Lbv := Hbv.lt
  replace cbv0 := Hbv.1
  replace cbv1 := Hbv.2.1
  replace cbv2 := Hbv.2.2
  have Lbf := Hbf.lt
  have cbf0 := Hbf.1
  have cbf1 := Hbf.2.1
  have cbf2 := Hbf.2.2
  replace hB3 := hB2.trans hB3
  clear hB2
  clear Hbx Lbx cbx0 cbx1 cbx2
  clear Hby_ Lby_ cby_0 cby_1 cby_2
  clear Hbf Lbf cbf0 cbf1 cbf2
  go_upto_region 8 with fail
  go_region_held3 (fun w' => w'.cell? ⟨bv, 0, none⟩ = some (.int .u8 (2)) ∧ w'.cell? ⟨bv, 1, none⟩ = some (.int .i64 (bN true)) ∧ w'.cell? ⟨bv, 2, none⟩ = some (.string ⟨#[]⟩)) (go_keep) (first | (go_at_call 25; refine (bool_any _ _).mono ?_; rintro e v1 ⟨rfl, hb⟩; have hz := hb.size; (try simp at hz); have hc0 := fun o => hb.cells bv o (by first | omega | (simp; done) | (simp; omega)); have hd00 : ¬ bv = wc.heap.size := (by omega); have he00 : ¬ wc.heap.size = bv := (by omega); have hd01 : ¬ bv = v1.heap.size := (by omega); have he01 : ¬ v1.heap.size = bv := (by omega); (try have hq0 := fun o => hb.cells (wc.heap.size) o (by first | omega | (simp; done) | (simp; omega))); (try have hr0 := fun o => hb.froz (wc.heap.size) o (by first | omega | (simp; done) | (simp; omega)))) | (go_at_call 13; refine (awake_any _).mono ?_; rintro e v2 ⟨rfl, hb⟩; have hz := hb.size; (try simp at hz); have hc0 := fun o => hb.cells bv o (by first | omega | (simp; done) | (simp; omega)); have hd00 : ¬ bv = wc.heap.size := (by omega); have he00 : ¬ wc.heap.size = bv := (by omega); have hd01 : ¬ bv = v2.heap.size := (by omega); have he01 : ¬ v2.heap.size = bv := (by omega); (try have hq0 := fun o => hb.cells (wc.heap.size) o (by first | omega | (simp; done) | (simp; omega))); (try have hr0 := fun o => hb.froz (wc.heap.size) o (by first | omega | (simp; done) | (simp; omega))); (try have hq1 := fun o => hb.cells (v1.heap.size) o (by first | omega | (simp; done) | (simp; omega))); (try have hr1 := fun o => hb.froz (v1.heap.size) o (by first | omega | (simp; done) | (simp; omega)))))
  all_goals go_wp2_with fail
  all_goals (go_ret; exact ⟨rfl, (by repeat (first | exact BW.refl _ | assumption | apply BW.alloc | apply BW.drew | (refine BW.setCell ?_ (by first | omega | (simp; done) | (simp; omega)) _) | (refine BW.trans ?_ (by assumption))))⟩)
set_option maxRecDepth 100000 in
set_option maxHeartbeats 400000 in
theorem makes_not (n : Int) (b : Bool) (s t : ByteArray) (hs : s.size ≤ 1000) (ht : t.size ≤ 1000) (h0 : (s.toList == t.toList) = false) (h1 : ¬ s.toList = t.toList) (w : World) :
    Calls Try.prog 7 #[.int .i64 n, .bool b, .string s, .string t] w fun e w' => e = .returned (.bool true) ∧ BW w w' := by
  go_enter Try.func7, Try.ntmps7
  go_upto_region 3 with fail
  go_cut [9, 10, 11] (fun p0 p1 p2 wx => ∃ b0, ∃ b1, ∃ b2, p0 = .pointer (some ⟨b0, 0, none⟩) ∧ p1 = .pointer (some ⟨b1, 0, none⟩) ∧ p2 = .pointer (some ⟨b2, 0, none⟩) ∧ BW w wx ∧ H3 wx b0 (1) (n) ⟨#[]⟩ ∧ H3 wx b1 (2) (bN b) ⟨#[]⟩ ∧ H3 wx b2 (3) (0) s)
  case first =>
    go_wp2_with (first | (go_at_call 21; refine (of_any _ _).mono ?_; rintro e v1 ⟨rfl, hb⟩; have hz := hb.size; (try simp at hz); (try have hq0 := fun o => hb.cells (w.heap.size) o (by first | omega | (simp; done) | (simp; omega))); (try have hr0 := fun o => hb.froz (w.heap.size) o (by first | omega | (simp; done) | (simp; omega)))) | (go_at_call 23; refine (is_any _ _).mono ?_; rintro e v2 ⟨rfl, hb⟩; have hz := hb.size; (try simp at hz); (try have hq0 := fun o => hb.cells (w.heap.size) o (by first | omega | (simp; done) | (simp; omega))); (try have hr0 := fun o => hb.froz (w.heap.size) o (by first | omega | (simp; done) | (simp; omega))); (try have hq1 := fun o => hb.cells (v1.heap.size) o (by first | omega | (simp; done) | (simp; omega))); (try have hr1 := fun o => hb.froz (v1.heap.size) o (by first | omega | (simp; done) | (simp; omega)))) | (go_at_call 24; refine (text_any _ _).mono ?_; rintro e v3 ⟨rfl, hb⟩; have hz := hb.size; (try simp at hz); (try have hq0 := fun o => hb.cells (w.heap.size) o (by first | omega | (simp; done) | (simp; omega))); (try have hr0 := fun o => hb.froz (w.heap.size) o (by first | omega | (simp; done) | (simp; omega))); (try have hq1 := fun o => hb.cells (v1.heap.size) o (by first | omega | (simp; done) | (simp; omega))); (try have hr1 := fun o => hb.froz (v1.heap.size) o (by first | omega | (simp; done) | (simp; omega))); (try have hq2 := fun o => hb.cells (v2.heap.size) o (by first | omega | (simp; done) | (simp; omega))); (try have hr2 := fun o => hb.froz (v2.heap.size) o (by first | omega | (simp; done) | (simp; omega)))))
    all_goals (go_meet; case rel => exact ⟨_, _, _, rfl, rfl, rfl, (by repeat (first | exact BW.refl _ | assumption | apply BW.alloc | apply BW.drew | (refine BW.setCell ?_ (by first | omega | (simp; done) | (simp; omega)) _) | (refine BW.trans ?_ (by assumption)))), (by refine ⟨?_, ?_, ?_⟩ <;> simp [go_sem, *]), (by refine ⟨?_, ?_, ?_⟩ <;> simp [go_sem, *]), (by refine ⟨?_, ?_, ?_⟩ <;> simp [go_sem, *])⟩)
  case rest =>
  obtain ⟨bx, by_, bz, rfl, rfl, rfl, hB0, Hbx, Hby_, Hbz⟩ := hcut
  have Lbx := Hbx.lt
  have cbx0 := Hbx.1
  have cbx1 := Hbx.2.1
  have cbx2 := Hbx.2.2
  have Lby_ := Hby_.lt
  have cby_0 := Hby_.1
  have cby_1 := Hby_.2.1
  have cby_2 := Hby_.2.2
  have Lbz := Hbz.lt
  have cbz0 := Hbz.1
  have cbz1 := Hbz.2.1
  have cbz2 := Hbz.2.2
  go_upto_region 4 with fail
  go_cut [46] (fun x wx => x = .bool false ∧ BW wc wx)
  case first =>
    go_region_held3 (fun w' => w'.cell? ⟨bx, 0, none⟩ = some (.int .u8 (1)) ∧ w'.cell? ⟨bx, 1, none⟩ = some (.int .i64 (n)) ∧ w'.cell? ⟨bx, 2, none⟩ = some (.string ⟨#[]⟩) ∧ w'.cell? ⟨by_, 0, none⟩ = some (.int .u8 (2)) ∧ w'.cell? ⟨by_, 1, none⟩ = some (.int .i64 (bN b)) ∧ w'.cell? ⟨by_, 2, none⟩ = some (.string ⟨#[]⟩) ∧ w'.cell? ⟨bz, 0, none⟩ = some (.int .u8 (3)) ∧ w'.cell? ⟨bz, 1, none⟩ = some (.int .i64 (0)) ∧ w'.cell? ⟨bz, 2, none⟩ = some (.string s)) (go_keep) (first | (go_at_call 22; refine (int_any _ _).mono ?_; rintro e v1 ⟨rfl, hb⟩; have hz := hb.size; (try simp at hz); have hc0 := fun o => hb.cells bx o (by first | omega | (simp; done) | (simp; omega)); have hc1 := fun o => hb.cells by_ o (by first | omega | (simp; done) | (simp; omega)); have hc2 := fun o => hb.cells bz o (by first | omega | (simp; done) | (simp; omega)); have hd00 : ¬ bx = wc.heap.size := (by omega); have he00 : ¬ wc.heap.size = bx := (by omega); have hd01 : ¬ bx = v1.heap.size := (by omega); have he01 : ¬ v1.heap.size = bx := (by omega); have hd10 : ¬ by_ = wc.heap.size := (by omega); have he10 : ¬ wc.heap.size = by_ := (by omega); have hd11 : ¬ by_ = v1.heap.size := (by omega); have he11 : ¬ v1.heap.size = by_ := (by omega); have hd20 : ¬ bz = wc.heap.size := (by omega); have he20 : ¬ wc.heap.size = bz := (by omega); have hd21 : ¬ bz = v1.heap.size := (by omega); have he21 : ¬ v1.heap.size = bz := (by omega); (try have hq0 := fun o => hb.cells (wc.heap.size) o (by first | omega | (simp; done) | (simp; omega))); (try have hr0 := fun o => hb.froz (wc.heap.size) o (by first | omega | (simp; done) | (simp; omega)))) | (go_at_call 25; refine (bool_any _ _).mono ?_; rintro e v2 ⟨rfl, hb⟩; have hz := hb.size; (try simp at hz); have hc0 := fun o => hb.cells bx o (by first | omega | (simp; done) | (simp; omega)); have hc1 := fun o => hb.cells by_ o (by first | omega | (simp; done) | (simp; omega)); have hc2 := fun o => hb.cells bz o (by first | omega | (simp; done) | (simp; omega)); have hd00 : ¬ bx = wc.heap.size := (by omega); have he00 : ¬ wc.heap.size = bx := (by omega); have hd01 : ¬ bx = v2.heap.size := (by omega); have he01 : ¬ v2.heap.size = bx := (by omega); have hd10 : ¬ by_ = wc.heap.size := (by omega); have he10 : ¬ wc.heap.size = by_ := (by omega); have hd11 : ¬ by_ = v2.heap.size := (by omega); have he11 : ¬ v2.heap.size = by_ := (by omega); have hd20 : ¬ bz = wc.heap.size := (by omega); have he20 : ¬ wc.heap.size = bz := (by omega); have hd21 : ¬ bz = v2.heap.size := (by omega); have he21 : ¬ v2.heap.size = bz := (by omega); (try have hq0 := fun o => hb.cells (wc.heap.size) o (by first | omega | (simp; done) | (simp; omega))); (try have hr0 := fun o => hb.froz (wc.heap.size) o (by first | omega | (simp; done) | (simp; omega))); (try have hq1 := fun o => hb.cells (v1.heap.size) o (by first | omega | (simp; done) | (simp; omega))); (try have hr1 := fun o => hb.froz (v1.heap.size) o (by first | omega | (simp; done) | (simp; omega)))))
    all_goals go_wp2_with fail
    all_goals (go_meet; case rel => exact ⟨rfl, (by repeat (first | exact BW.refl _ | assumption | apply BW.alloc | apply BW.drew | (refine BW.setCell ?_ (by first | omega | (simp; done) | (simp; omega)) _) | (refine BW.trans ?_ (by assumption))))⟩)
  case rest =>
  obtain ⟨rfl, hB1⟩ := hcut
  replace Hbx := Hbx.bw hB1
  replace Lbx := Hbx.lt
  replace cbx0 := Hbx.1
  replace cbx1 := Hbx.2.1
  replace cbx2 := Hbx.2.2
  replace Hby_ := Hby_.bw hB1
  replace Lby_ := Hby_.lt
  replace cby_0 := Hby_.1
  replace cby_1 := Hby_.2.1
  replace cby_2 := Hby_.2.2
  replace Hbz := Hbz.bw hB1
  replace Lbz := Hbz.lt
  replace cbz0 := Hbz.1
  replace cbz1 := Hbz.2.1
  replace cbz2 := Hbz.2.2
  replace hB1 := hB0.trans hB1
  clear hB0
  go_upto_region 6 with fail
  go_cut [12, 13] (fun p0 e0 wx => ∃ b0, p0 = .pointer (some ⟨b0, 0, none⟩) ∧ e0 = .int .i64 (0) ∧ BW wc wx ∧ H3 wx b0 (2) (bN false) ⟨#[]⟩)
  case first =>
    go_region_held3 (fun w' => w'.cell? ⟨bz, 0, none⟩ = some (.int .u8 (3)) ∧ w'.cell? ⟨bz, 1, none⟩ = some (.int .i64 (0)) ∧ w'.cell? ⟨bz, 2, none⟩ = some (.string s)) (go_keep) (first | (go_at_call 24; refine (text_any _ _).mono ?_; rintro e v1 ⟨rfl, hb⟩; have hz := hb.size; (try simp at hz); have hc0 := fun o => hb.cells bx o (by first | omega | (simp; done) | (simp; omega)); have hc1 := fun o => hb.cells by_ o (by first | omega | (simp; done) | (simp; omega)); have hc2 := fun o => hb.cells bz o (by first | omega | (simp; done) | (simp; omega)); have hd00 : ¬ bx = wc.heap.size := (by omega); have he00 : ¬ wc.heap.size = bx := (by omega); have hd01 : ¬ bx = v1.heap.size := (by omega); have he01 : ¬ v1.heap.size = bx := (by omega); have hd10 : ¬ by_ = wc.heap.size := (by omega); have he10 : ¬ wc.heap.size = by_ := (by omega); have hd11 : ¬ by_ = v1.heap.size := (by omega); have he11 : ¬ v1.heap.size = by_ := (by omega); have hd20 : ¬ bz = wc.heap.size := (by omega); have he20 : ¬ wc.heap.size = bz := (by omega); have hd21 : ¬ bz = v1.heap.size := (by omega); have he21 : ¬ v1.heap.size = bz := (by omega); (try have hq0 := fun o => hb.cells (wc.heap.size) o (by first | omega | (simp; done) | (simp; omega))); (try have hr0 := fun o => hb.froz (wc.heap.size) o (by first | omega | (simp; done) | (simp; omega)))) | (go_at_call 19; refine (two_eq (fun w => same_not2 3 0 _ _ (by omega) h1 w) _).mono ?_; rintro e v2 ⟨rfl, hb⟩; have hz := hb.size; (try simp at hz); have hc0 := fun o => hb.cells bx o (by first | omega | (simp; done) | (simp; omega)); have hc1 := fun o => hb.cells by_ o (by first | omega | (simp; done) | (simp; omega)); have hc2 := fun o => hb.cells bz o (by first | omega | (simp; done) | (simp; omega)); have hd00 : ¬ bx = wc.heap.size := (by omega); have he00 : ¬ wc.heap.size = bx := (by omega); have hd01 : ¬ bx = v2.heap.size := (by omega); have he01 : ¬ v2.heap.size = bx := (by omega); have hd10 : ¬ by_ = wc.heap.size := (by omega); have he10 : ¬ wc.heap.size = by_ := (by omega); have hd11 : ¬ by_ = v2.heap.size := (by omega); have he11 : ¬ v2.heap.size = by_ := (by omega); have hd20 : ¬ bz = wc.heap.size := (by omega); have he20 : ¬ wc.heap.size = bz := (by omega); have hd21 : ¬ bz = v2.heap.size := (by omega); have he21 : ¬ v2.heap.size = bz := (by omega); (try have hq0 := fun o => hb.cells (wc.heap.size) o (by first | omega | (simp; done) | (simp; omega))); (try have hr0 := fun o => hb.froz (wc.heap.size) o (by first | omega | (simp; done) | (simp; omega))); (try have hq1 := fun o => hb.cells (v1.heap.size) o (by first | omega | (simp; done) | (simp; omega))); (try have hr1 := fun o => hb.froz (v1.heap.size) o (by first | omega | (simp; done) | (simp; omega)))))
    all_goals go_wp2_with fail
    all_goals (go_meet; case rel => exact ⟨_, rfl, rfl, (by repeat (first | exact BW.refl _ | assumption | apply BW.alloc | apply BW.drew | (refine BW.setCell ?_ (by first | omega | (simp; done) | (simp; omega)) _) | (refine BW.trans ?_ (by assumption)))), (by refine ⟨?_, ?_, ?_⟩ <;> simp [go_sem, *])⟩)
  case rest =>
  obtain ⟨bv, rfl, rfl, hB2, Hbv⟩ := hcut
  replace Hbx := Hbx.bw hB2
  replace Lbx := Hbx.lt
  replace cbx0 := Hbx.1
  replace cbx1 := Hbx.2.1
  replace cbx2 := Hbx.2.2
  replace Hby_ := Hby_.bw hB2
  replace Lby_ := Hby_.lt
  replace cby_0 := Hby_.1
  replace cby_1 := Hby_.2.1
  replace cby_2 := Hby_.2.2
  replace Hbz := Hbz.bw hB2
  replace Lbz := Hbz.lt
  replace cbz0 := Hbz.1
  replace cbz1 := Hbz.2.1
  replace cbz2 := Hbz.2.2
  have Lbv := Hbv.lt
  have cbv0 := Hbv.1
  have cbv1 := Hbv.2.1
  have cbv2 := Hbv.2.2
  replace hB2 := hB1.trans hB2
  clear hB1
  clear Hbz Lbz cbz0 cbz1 cbz2
  go_upto_region 7 with fail
  go_cut [14, 15] (fun p0 e0 wx => ∃ b0, p0 = .pointer (some ⟨b0, 0, none⟩) ∧ e0 = .int .i64 (2) ∧ BW wc wx ∧ H3 wx b0 (0) (0) ⟨#[]⟩)
  case first =>
    go_wp2_with (first | (go_at_call 19; refine (two_eq (fun w => same_no1 1 n 2 (bN b) _ _ (by decide) w) _).mono ?_; rintro e v1 ⟨rfl, hb⟩; have hz := hb.size; (try simp at hz); have hc0 := fun o => hb.cells bx o (by first | omega | (simp; done) | (simp; omega)); have hc1 := fun o => hb.cells by_ o (by first | omega | (simp; done) | (simp; omega)); have hc2 := fun o => hb.cells bv o (by first | omega | (simp; done) | (simp; omega)); have hd00 : ¬ bx = wc.heap.size := (by omega); have he00 : ¬ wc.heap.size = bx := (by omega); have hd01 : ¬ bx = v1.heap.size := (by omega); have he01 : ¬ v1.heap.size = bx := (by omega); have hd10 : ¬ by_ = wc.heap.size := (by omega); have he10 : ¬ wc.heap.size = by_ := (by omega); have hd11 : ¬ by_ = v1.heap.size := (by omega); have he11 : ¬ v1.heap.size = by_ := (by omega); have hd20 : ¬ bv = wc.heap.size := (by omega); have he20 : ¬ wc.heap.size = bv := (by omega); have hd21 : ¬ bv = v1.heap.size := (by omega); have he21 : ¬ v1.heap.size = bv := (by omega); (try have hq0 := fun o => hb.cells (wc.heap.size) o (by first | omega | (simp; done) | (simp; omega))); (try have hr0 := fun o => hb.froz (wc.heap.size) o (by first | omega | (simp; done) | (simp; omega)))))
    all_goals (go_meet; case rel => exact ⟨_, rfl, rfl, (by repeat (first | exact BW.refl _ | assumption | apply BW.alloc | apply BW.drew | (refine BW.setCell ?_ (by first | omega | (simp; done) | (simp; omega)) _) | (refine BW.trans ?_ (by assumption)))), (by refine ⟨?_, ?_, ?_⟩ <;> simp [go_sem, *])⟩)
  case rest =>
  obtain ⟨bf, rfl, rfl, hB3, Hbf⟩ := hcut
  replace Hbx := Hbx.bw hB3
  replace Lbx := Hbx.lt
  replace cbx0 := Hbx.1
  replace cbx1 := Hbx.2.1
  replace cbx2 := Hbx.2.2
  replace Hby_ := Hby_.bw hB3
  replace Lby_ := Hby_.lt
  replace cby_0 := Hby_.1
  replace cby_1 := Hby_.2.1
  replace cby_2 := Hby_.2.2
  replace Hbv := Hbv.bw hB3
  replace Lbv := Hbv.lt
  replace cbv0 := Hbv.1
  replace cbv1 := Hbv.2.1
  replace cbv2 := Hbv.2.2
  have Lbf := Hbf.lt
  have cbf0 := Hbf.1
  have cbf1 := Hbf.2.1
  have cbf2 := Hbf.2.2
  replace hB3 := hB2.trans hB3
  clear hB2
  clear Hbx Lbx cbx0 cbx1 cbx2
  clear Hby_ Lby_ cby_0 cby_1 cby_2
  clear Hbf Lbf cbf0 cbf1 cbf2
  go_upto_region 8 with fail
  go_region_held3 (fun w' => w'.cell? ⟨bv, 0, none⟩ = some (.int .u8 (2)) ∧ w'.cell? ⟨bv, 1, none⟩ = some (.int .i64 (bN false)) ∧ w'.cell? ⟨bv, 2, none⟩ = some (.string ⟨#[]⟩)) (go_keep) (first | (go_at_call 25; refine (bool_any _ _).mono ?_; rintro e v1 ⟨rfl, hb⟩; have hz := hb.size; (try simp at hz); have hc0 := fun o => hb.cells bv o (by first | omega | (simp; done) | (simp; omega)); have hd00 : ¬ bv = wc.heap.size := (by omega); have he00 : ¬ wc.heap.size = bv := (by omega); have hd01 : ¬ bv = v1.heap.size := (by omega); have he01 : ¬ v1.heap.size = bv := (by omega); (try have hq0 := fun o => hb.cells (wc.heap.size) o (by first | omega | (simp; done) | (simp; omega))); (try have hr0 := fun o => hb.froz (wc.heap.size) o (by first | omega | (simp; done) | (simp; omega)))) | (go_at_call 13; refine (awake_any _).mono ?_; rintro e v2 ⟨rfl, hb⟩; have hz := hb.size; (try simp at hz); have hc0 := fun o => hb.cells bv o (by first | omega | (simp; done) | (simp; omega)); have hd00 : ¬ bv = wc.heap.size := (by omega); have he00 : ¬ wc.heap.size = bv := (by omega); have hd01 : ¬ bv = v2.heap.size := (by omega); have he01 : ¬ v2.heap.size = bv := (by omega); (try have hq0 := fun o => hb.cells (wc.heap.size) o (by first | omega | (simp; done) | (simp; omega))); (try have hr0 := fun o => hb.froz (wc.heap.size) o (by first | omega | (simp; done) | (simp; omega))); (try have hq1 := fun o => hb.cells (v1.heap.size) o (by first | omega | (simp; done) | (simp; omega))); (try have hr1 := fun o => hb.froz (v1.heap.size) o (by first | omega | (simp; done) | (simp; omega)))))
  all_goals go_wp2_with fail
  all_goals (go_ret; exact ⟨rfl, (by repeat (first | exact BW.refl _ | assumption | apply BW.alloc | apply BW.drew | (refine BW.setCell ?_ (by first | omega | (simp; done) | (simp; omega)) _) | (refine BW.trans ?_ (by assumption))))⟩)
set_option maxRecDepth 100000 in
set_option maxHeartbeats 400000 in
theorem makes_long1 (n : Int) (b : Bool) (s t : ByteArray) (h : 1000 < s.size) (h' : s.size ≤ maxLen) (w : World) :
    Calls Try.prog 7 #[.int .i64 n, .bool b, .string s, .string t] w fun e w' => e = .returned (.bool true) ∧ BW w w' := by
  unfold maxLen at h'
  go_enter Try.func7, Try.ntmps7
  go_wp2_with (first | (go_at_call 13; refine (awake_any _).mono ?_; rintro e v1 ⟨rfl, hb⟩; have hz := hb.size; (try simp at hz); (try have hq0 := fun o => hb.cells (w.heap.size) o (by first | omega | (simp; done) | (simp; omega))); (try have hr0 := fun o => hb.froz (w.heap.size) o (by first | omega | (simp; done) | (simp; omega)))))
  go_ret
  exact ⟨rfl, (by repeat (first | exact BW.refl _ | assumption | apply BW.alloc | apply BW.drew | (refine BW.setCell ?_ (by first | omega | (simp; done) | (simp; omega)) _) | (refine BW.trans ?_ (by assumption))))⟩
set_option maxRecDepth 100000 in
set_option maxHeartbeats 400000 in
theorem makes_long2 (n : Int) (b : Bool) (s t : ByteArray) (h : s.size ≤ 1000) (h'' : 1000 < t.size) (h' : t.size ≤ maxLen) (w : World) :
    Calls Try.prog 7 #[.int .i64 n, .bool b, .string s, .string t] w fun e w' => e = .returned (.bool true) ∧ BW w w' := by
  unfold maxLen at h'
  go_enter Try.func7, Try.ntmps7
  go_wp2_with (first | (go_at_call 13; refine (awake_any _).mono ?_; rintro e v1 ⟨rfl, hb⟩; have hz := hb.size; (try simp at hz); (try have hq0 := fun o => hb.cells (w.heap.size) o (by first | omega | (simp; done) | (simp; omega))); (try have hr0 := fun o => hb.froz (w.heap.size) o (by first | omega | (simp; done) | (simp; omega)))))
  go_ret
  exact ⟨rfl, (by repeat (first | exact BW.refl _ | assumption | apply BW.alloc | apply BW.drew | (refine BW.setCell ?_ (by first | omega | (simp; done) | (simp; omega)) _) | (refine BW.trans ?_ (by assumption))))⟩
theorem makes_walk (n : Int) (b : Bool) (s t : ByteArray) (hs : s.size ≤ maxLen) (ht : t.size ≤ maxLen) (w : World) :
    Calls Try.prog 7 #[.int .i64 n, .bool b, .string s, .string t] w fun e w' => e = .returned (.bool true) ∧ BW w w' := by
  by_cases h1 : 1000 < s.size
  · exact makes_long1 n b s t h1 hs w
  · by_cases h2 : 1000 < t.size
    · exact makes_long2 n b s t (by omega) h2 ht w
    · by_cases h : s = t
      · subst h
        exact makes_same n b s (by omega) w
      · have h' := toList_ne h
        exact makes_not n b s t (by omega) (by omega) (by simpa using h') h' w
end Go.Proofs.Ytbiahgjlgojhdaa
