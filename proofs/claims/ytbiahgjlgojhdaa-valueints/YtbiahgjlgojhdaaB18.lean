import Derived.Test.YtbiahgjlgojhdaaB5
import Derived.Test.YtbiahgjlgojhdaaB17
import Derived.Deep.RegionWith
import Derived.Deep.RegionHeld3
import Derived.Deep.DeepCutAuto
namespace Go.Proofs.Ytbiahgjlgojhdaa
open Go.RowKit
set_option linter.unusedVariables false
def Val2 (wd : ByteArray) (a b t n x : Int) : Prop := ∀ w : World, Calls Try.prog 19 #[.string wd, V 1 a ⟨#[]⟩, V 1 b ⟨#[]⟩] w fun e w' => e = .returned (.tuple #[V t n ⟨#[]⟩, .int .i64 x]) ∧ BW w w'
def Ref2 (wd : ByteArray) (a b t n x : Int) : Prop := ∀ w : World, Calls Try.prog 20 #[.string wd, V 1 a ⟨#[]⟩, V 1 b ⟨#[]⟩] w fun e w' => e = .returned (.tuple #[V t n ⟨#[]⟩, .int .i64 x]) ∧ BW w w'
set_option maxRecDepth 100000 in
set_option maxHeartbeats 4000000 in
theorem ints_no (n a b : Int) (n0 : 0 ≤ n) (n1 : n ≤ 255) (wd : ByteArray) (hlt : (n % 11).toNat < twosL.length) (Hw : Hid (twosL[(n % 11).toNat] = wd)) (t m x qt qn qx rt rn rx st sn sx : Int) (h19 : Val2 wd a b t m x) (h20 : Ref2 wd a b t m x) (hq : Val2 ⟨#[47]⟩ a b qt qn qx) (hr : Val2 ⟨#[37]⟩ a b rt rn rx) (hs : Val2 ⟨#[43]⟩ a b st sn sx) (ht : Val2 ⟨#[43]⟩ b a st sn sx) (hx : (qx == 0) = false) (w : World) :
    Calls Try.prog 5 #[.int .u8 n, .int .i64 a, .int .i64 b] w fun e w' => e = .returned (.bool true) ∧ BW w w' := by
  have hm0 : 0 ≤ n % 11 := by omega
  have hm1 : n % 11 < 15 := by omega
  go_enter Try.func5, Try.ntmps5
  go_upto_region 1 with fail
  go_cut [7] (fun s wx => s = .string wd ∧ BW w wx)
  case first =>
    go_wp2_with (go_at_call 18; refine (twos_any _).mono ?_; rintro e v1 ⟨⟨b, rfl, hbb, hrow⟩, hb⟩; have hcell := hrow (n % 11).toNat (by show (n % 11).toNat < 15; omega); have hrow' : Hid (Row v1 b twosL) := hrow; clear hrow; rw [Hw.out] at hcell)
    all_goals (go_meet; case rel => exact ⟨rfl, (by repeat (first | exact BW.refl _ | assumption | apply BW.alloc | apply BW.drew | (refine BW.setCell ?_ (by first | omega | (simp; done) | (simp; omega)) _) | (refine BW.trans ?_ (by assumption))))⟩)
  case rest =>
  obtain ⟨rfl, hB0⟩ := hcut
  go_upto_region 2 with fail
  go_cut [8, 9] (fun p0 e0 wx => ∃ b0, p0 = .pointer (some ⟨b0, 0, none⟩) ∧ e0 = .int .i64 (x) ∧ BW wc wx ∧ H3 wx b0 (t) (m) ⟨#[]⟩)
  case first =>
    go_wp2_with (first | (go_at_call 21; refine (of_any _ _).mono ?_; rintro e v1 ⟨rfl, hb⟩; have hz := hb.size; (try simp at hz); (try have hq0 := fun o => hb.cells (wc.heap.size) o (by first | omega | (simp; done) | (simp; omega))); (try have hr0 := fun o => hb.froz (wc.heap.size) o (by first | omega | (simp; done) | (simp; omega)))) | (go_at_call 19; refine (h19 _).mono ?_; rintro e v2 ⟨rfl, hb⟩; have hz := hb.size; (try simp at hz); (try have hq0 := fun o => hb.cells (wc.heap.size) o (by first | omega | (simp; done) | (simp; omega))); (try have hr0 := fun o => hb.froz (wc.heap.size) o (by first | omega | (simp; done) | (simp; omega))); (try have hq1 := fun o => hb.cells (v1.heap.size) o (by first | omega | (simp; done) | (simp; omega))); (try have hr1 := fun o => hb.froz (v1.heap.size) o (by first | omega | (simp; done) | (simp; omega)))))
    all_goals (go_meet; case rel => exact ⟨_, rfl, rfl, (by repeat (first | exact BW.refl _ | assumption | apply BW.alloc | apply BW.drew | (refine BW.setCell ?_ (by first | omega | (simp; done) | (simp; omega)) _) | (refine BW.trans ?_ (by assumption)))), (by refine ⟨?_, ?_, ?_⟩ <;> simp [go_sem, *])⟩)
  case rest =>
  obtain ⟨bx, rfl, rfl, hB1, Hbx⟩ := hcut
  have Lbx := Hbx.lt
  have cbx0 := Hbx.1
  have cbx1 := Hbx.2.1
  have cbx2 := Hbx.2.2
  replace hB1 := hB0.trans hB1
  clear hB0
  go_upto_region 3 with fail
  go_cut [10, 11] (fun p0 e0 wx => ∃ b0, p0 = .pointer (some ⟨b0, 0, none⟩) ∧ e0 = .int .i64 (x) ∧ BW wc wx ∧ H3 wx b0 (t) (m) ⟨#[]⟩)
  case first =>
    go_wp2_with (first | (go_at_call 22; refine (int_any _ _).mono ?_; rintro e v1 ⟨rfl, hb⟩; have hz := hb.size; (try simp at hz); have hc0 := fun o => hb.cells bx o (by first | omega | (simp; done) | (simp; omega)); have hd00 : ¬ bx = wc.heap.size := (by omega); have he00 : ¬ wc.heap.size = bx := (by omega); have hd01 : ¬ bx = v1.heap.size := (by omega); have he01 : ¬ v1.heap.size = bx := (by omega); (try have hq0 := fun o => hb.cells (wc.heap.size) o (by first | omega | (simp; done) | (simp; omega))); (try have hr0 := fun o => hb.froz (wc.heap.size) o (by first | omega | (simp; done) | (simp; omega)))) | (go_at_call 20; refine (h20 _).mono ?_; rintro e v2 ⟨rfl, hb⟩; have hz := hb.size; (try simp at hz); have hc0 := fun o => hb.cells bx o (by first | omega | (simp; done) | (simp; omega)); have hd00 : ¬ bx = wc.heap.size := (by omega); have he00 : ¬ wc.heap.size = bx := (by omega); have hd01 : ¬ bx = v2.heap.size := (by omega); have he01 : ¬ v2.heap.size = bx := (by omega); (try have hq0 := fun o => hb.cells (wc.heap.size) o (by first | omega | (simp; done) | (simp; omega))); (try have hr0 := fun o => hb.froz (wc.heap.size) o (by first | omega | (simp; done) | (simp; omega))); (try have hq1 := fun o => hb.cells (v1.heap.size) o (by first | omega | (simp; done) | (simp; omega))); (try have hr1 := fun o => hb.froz (v1.heap.size) o (by first | omega | (simp; done) | (simp; omega)))))
    all_goals (go_meet; case rel => exact ⟨_, rfl, rfl, (by repeat (first | exact BW.refl _ | assumption | apply BW.alloc | apply BW.drew | (refine BW.setCell ?_ (by first | omega | (simp; done) | (simp; omega)) _) | (refine BW.trans ?_ (by assumption)))), (by refine ⟨?_, ?_, ?_⟩ <;> simp [go_sem, *])⟩)
  case rest =>
  obtain ⟨by_, rfl, rfl, hB2, Hby_⟩ := hcut
  replace Hbx := Hbx.bw hB2
  replace Lbx := Hbx.lt
  replace cbx0 := Hbx.1
  replace cbx1 := Hbx.2.1
  replace cbx2 := Hbx.2.2
  have Lby_ := Hby_.lt
  have cby_0 := Hby_.1
  have cby_1 := Hby_.2.1
  have cby_2 := Hby_.2.2
  replace hB2 := hB1.trans hB2
  clear hB1
  go_upto_region 6 with fail
  clear Hbx Lbx cbx0 cbx1 cbx2
  clear Hby_ Lby_ cby_0 cby_1 cby_2
  go_cut [12, 13] (fun p0 e0 wx => ∃ b0, p0 = .pointer (some ⟨b0, 0, none⟩) ∧ e0 = .int .i64 (qx) ∧ BW wc wx ∧ H3 wx b0 (qt) (qn) ⟨#[]⟩)
  case first =>
    go_wp2_with (first | (go_at_call 21; refine (of_any _ _).mono ?_; rintro e v1 ⟨rfl, hb⟩; have hz := hb.size; (try simp at hz); (try have hq0 := fun o => hb.cells (wc.heap.size) o (by first | omega | (simp; done) | (simp; omega))); (try have hr0 := fun o => hb.froz (wc.heap.size) o (by first | omega | (simp; done) | (simp; omega)))) | (go_at_call 19; refine (hq _).mono ?_; rintro e v2 ⟨rfl, hb⟩; have hz := hb.size; (try simp at hz); (try have hq0 := fun o => hb.cells (wc.heap.size) o (by first | omega | (simp; done) | (simp; omega))); (try have hr0 := fun o => hb.froz (wc.heap.size) o (by first | omega | (simp; done) | (simp; omega))); (try have hq1 := fun o => hb.cells (v1.heap.size) o (by first | omega | (simp; done) | (simp; omega))); (try have hr1 := fun o => hb.froz (v1.heap.size) o (by first | omega | (simp; done) | (simp; omega)))))
    all_goals (go_meet; case rel => exact ⟨_, rfl, rfl, (by repeat (first | exact BW.refl _ | assumption | apply BW.alloc | apply BW.drew | (refine BW.setCell ?_ (by first | omega | (simp; done) | (simp; omega)) _) | (refine BW.trans ?_ (by assumption)))), (by refine ⟨?_, ?_, ?_⟩ <;> simp [go_sem, *])⟩)
  case rest =>
  obtain ⟨bq, rfl, rfl, hB3, Hbq⟩ := hcut
  have Lbq := Hbq.lt
  have cbq0 := Hbq.1
  have cbq1 := Hbq.2.1
  have cbq2 := Hbq.2.2
  replace hB3 := hB2.trans hB3
  clear hB2
  go_upto_region 7 with fail
  go_cut [14, 15] (fun p0 e0 wx => ∃ b0, p0 = .pointer (some ⟨b0, 0, none⟩) ∧ e0 = .int .i64 (rx) ∧ BW wc wx ∧ H3 wx b0 (rt) (rn) ⟨#[]⟩)
  case first =>
    go_wp2_with (first | (go_at_call 21; refine (of_any _ _).mono ?_; rintro e v1 ⟨rfl, hb⟩; have hz := hb.size; (try simp at hz); have hc0 := fun o => hb.cells bq o (by first | omega | (simp; done) | (simp; omega)); have hd00 : ¬ bq = wc.heap.size := (by omega); have he00 : ¬ wc.heap.size = bq := (by omega); have hd01 : ¬ bq = v1.heap.size := (by omega); have he01 : ¬ v1.heap.size = bq := (by omega); (try have hq0 := fun o => hb.cells (wc.heap.size) o (by first | omega | (simp; done) | (simp; omega))); (try have hr0 := fun o => hb.froz (wc.heap.size) o (by first | omega | (simp; done) | (simp; omega)))) | (go_at_call 19; refine (hr _).mono ?_; rintro e v2 ⟨rfl, hb⟩; have hz := hb.size; (try simp at hz); have hc0 := fun o => hb.cells bq o (by first | omega | (simp; done) | (simp; omega)); have hd00 : ¬ bq = wc.heap.size := (by omega); have he00 : ¬ wc.heap.size = bq := (by omega); have hd01 : ¬ bq = v2.heap.size := (by omega); have he01 : ¬ v2.heap.size = bq := (by omega); (try have hq0 := fun o => hb.cells (wc.heap.size) o (by first | omega | (simp; done) | (simp; omega))); (try have hr0 := fun o => hb.froz (wc.heap.size) o (by first | omega | (simp; done) | (simp; omega))); (try have hq1 := fun o => hb.cells (v1.heap.size) o (by first | omega | (simp; done) | (simp; omega))); (try have hr1 := fun o => hb.froz (v1.heap.size) o (by first | omega | (simp; done) | (simp; omega)))))
    all_goals (go_meet; case rel => exact ⟨_, rfl, rfl, (by repeat (first | exact BW.refl _ | assumption | apply BW.alloc | apply BW.drew | (refine BW.setCell ?_ (by first | omega | (simp; done) | (simp; omega)) _) | (refine BW.trans ?_ (by assumption)))), (by refine ⟨?_, ?_, ?_⟩ <;> simp [go_sem, *])⟩)
  case rest =>
  obtain ⟨br, rfl, rfl, hB4, Hbr⟩ := hcut
  replace Hbq := Hbq.bw hB4
  replace Lbq := Hbq.lt
  replace cbq0 := Hbq.1
  replace cbq1 := Hbq.2.1
  replace cbq2 := Hbq.2.2
  have Lbr := Hbr.lt
  have cbr0 := Hbr.1
  have cbr1 := Hbr.2.1
  have cbr2 := Hbr.2.2
  replace hB4 := hB3.trans hB4
  clear hB3
  go_upto_region 10 with fail
  clear Hbq Lbq cbq0 cbq1 cbq2
  clear Hbr Lbr cbr0 cbr1 cbr2
  go_cut [16, 17] (fun p0 e0 wx => ∃ b0, p0 = .pointer (some ⟨b0, 0, none⟩) ∧ e0 = .int .i64 (sx) ∧ BW wc wx ∧ H3 wx b0 (st) (sn) ⟨#[]⟩)
  case first =>
    go_wp2_with (first | (go_at_call 21; refine (of_any _ _).mono ?_; rintro e v1 ⟨rfl, hb⟩; have hz := hb.size; (try simp at hz); (try have hq0 := fun o => hb.cells (wc.heap.size) o (by first | omega | (simp; done) | (simp; omega))); (try have hr0 := fun o => hb.froz (wc.heap.size) o (by first | omega | (simp; done) | (simp; omega)))) | (go_at_call 19; refine (hs _).mono ?_; rintro e v2 ⟨rfl, hb⟩; have hz := hb.size; (try simp at hz); (try have hq0 := fun o => hb.cells (wc.heap.size) o (by first | omega | (simp; done) | (simp; omega))); (try have hr0 := fun o => hb.froz (wc.heap.size) o (by first | omega | (simp; done) | (simp; omega))); (try have hq1 := fun o => hb.cells (v1.heap.size) o (by first | omega | (simp; done) | (simp; omega))); (try have hr1 := fun o => hb.froz (v1.heap.size) o (by first | omega | (simp; done) | (simp; omega)))))
    all_goals (go_meet; case rel => exact ⟨_, rfl, rfl, (by repeat (first | exact BW.refl _ | assumption | apply BW.alloc | apply BW.drew | (refine BW.setCell ?_ (by first | omega | (simp; done) | (simp; omega)) _) | (refine BW.trans ?_ (by assumption)))), (by refine ⟨?_, ?_, ?_⟩ <;> simp [go_sem, *])⟩)
  case rest =>
  obtain ⟨bs, rfl, rfl, hB5, Hbs⟩ := hcut
  have Lbs := Hbs.lt
  have cbs0 := Hbs.1
  have cbs1 := Hbs.2.1
  have cbs2 := Hbs.2.2
  replace hB5 := hB4.trans hB5
  clear hB4
  go_upto_region 11 with fail
  go_cut [18, 19] (fun p0 e0 wx => ∃ b0, p0 = .pointer (some ⟨b0, 0, none⟩) ∧ e0 = .int .i64 (sx) ∧ BW wc wx ∧ H3 wx b0 (st) (sn) ⟨#[]⟩)
  case first =>
    go_wp2_with (first | (go_at_call 21; refine (of_any _ _).mono ?_; rintro e v1 ⟨rfl, hb⟩; have hz := hb.size; (try simp at hz); have hc0 := fun o => hb.cells bs o (by first | omega | (simp; done) | (simp; omega)); have hd00 : ¬ bs = wc.heap.size := (by omega); have he00 : ¬ wc.heap.size = bs := (by omega); have hd01 : ¬ bs = v1.heap.size := (by omega); have he01 : ¬ v1.heap.size = bs := (by omega); (try have hq0 := fun o => hb.cells (wc.heap.size) o (by first | omega | (simp; done) | (simp; omega))); (try have hr0 := fun o => hb.froz (wc.heap.size) o (by first | omega | (simp; done) | (simp; omega)))) | (go_at_call 19; refine (ht _).mono ?_; rintro e v2 ⟨rfl, hb⟩; have hz := hb.size; (try simp at hz); have hc0 := fun o => hb.cells bs o (by first | omega | (simp; done) | (simp; omega)); have hd00 : ¬ bs = wc.heap.size := (by omega); have he00 : ¬ wc.heap.size = bs := (by omega); have hd01 : ¬ bs = v2.heap.size := (by omega); have he01 : ¬ v2.heap.size = bs := (by omega); (try have hq0 := fun o => hb.cells (wc.heap.size) o (by first | omega | (simp; done) | (simp; omega))); (try have hr0 := fun o => hb.froz (wc.heap.size) o (by first | omega | (simp; done) | (simp; omega))); (try have hq1 := fun o => hb.cells (v1.heap.size) o (by first | omega | (simp; done) | (simp; omega))); (try have hr1 := fun o => hb.froz (v1.heap.size) o (by first | omega | (simp; done) | (simp; omega)))))
    all_goals (go_meet; case rel => exact ⟨_, rfl, rfl, (by repeat (first | exact BW.refl _ | assumption | apply BW.alloc | apply BW.drew | (refine BW.setCell ?_ (by first | omega | (simp; done) | (simp; omega)) _) | (refine BW.trans ?_ (by assumption)))), (by refine ⟨?_, ?_, ?_⟩ <;> simp [go_sem, *])⟩)
  case rest =>
  obtain ⟨bt, rfl, rfl, hB6, Hbt⟩ := hcut
  replace Hbs := Hbs.bw hB6
  replace Lbs := Hbs.lt
  replace cbs0 := Hbs.1
  replace cbs1 := Hbs.2.1
  replace cbs2 := Hbs.2.2
  have Lbt := Hbt.lt
  have cbt0 := Hbt.1
  have cbt1 := Hbt.2.1
  have cbt2 := Hbt.2.2
  replace hB6 := hB5.trans hB6
  clear hB5
  go_wp2_with (first | (go_at_call 13; refine (awake_any _).mono ?_; rintro e v1 ⟨rfl, hb⟩; have hz := hb.size; (try simp at hz); have hc0 := fun o => hb.cells bs o (by first | omega | (simp; done) | (simp; omega)); have hc1 := fun o => hb.cells bt o (by first | omega | (simp; done) | (simp; omega)); have hd00 : ¬ bs = wc.heap.size := (by omega); have he00 : ¬ wc.heap.size = bs := (by omega); have hd01 : ¬ bs = v1.heap.size := (by omega); have he01 : ¬ v1.heap.size = bs := (by omega); have hd10 : ¬ bt = wc.heap.size := (by omega); have he10 : ¬ wc.heap.size = bt := (by omega); have hd11 : ¬ bt = v1.heap.size := (by omega); have he11 : ¬ v1.heap.size = bt := (by omega); (try have hq0 := fun o => hb.cells (wc.heap.size) o (by first | omega | (simp; done) | (simp; omega))); (try have hr0 := fun o => hb.froz (wc.heap.size) o (by first | omega | (simp; done) | (simp; omega)))))
  go_ret
  exact ⟨rfl, (by repeat (first | exact BW.refl _ | assumption | apply BW.alloc | apply BW.drew | (refine BW.setCell ?_ (by first | omega | (simp; done) | (simp; omega)) _) | (refine BW.trans ?_ (by assumption))))⟩
set_option maxRecDepth 100000 in
set_option maxHeartbeats 4000000 in
theorem ints_yes (n a b : Int) (n0 : 0 ≤ n) (n1 : n ≤ 255) (wd : ByteArray) (hlt : (n % 11).toNat < twosL.length) (Hw : Hid (twosL[(n % 11).toNat] = wd)) (t m x qt qn qx rt rn rx st sn sx : Int) (h19 : Val2 wd a b t m x) (h20 : Ref2 wd a b t m x) (hq : Val2 ⟨#[47]⟩ a b qt qn 0) (hr : Val2 ⟨#[37]⟩ a b rt rn 0) (hs : Val2 ⟨#[43]⟩ a b st sn sx) (ht : Val2 ⟨#[43]⟩ b a st sn sx) (hx : (wrap64 (wrap64 (qn * b) + rn) != a) = false) (w : World) :
    Calls Try.prog 5 #[.int .u8 n, .int .i64 a, .int .i64 b] w fun e w' => e = .returned (.bool true) ∧ BW w w' := by
  have hm0 : 0 ≤ n % 11 := by omega
  have hm1 : n % 11 < 15 := by omega
  go_enter Try.func5, Try.ntmps5
  go_upto_region 1 with fail
  go_cut [7] (fun s wx => s = .string wd ∧ BW w wx)
  case first =>
    go_wp2_with (go_at_call 18; refine (twos_any _).mono ?_; rintro e v1 ⟨⟨b, rfl, hbb, hrow⟩, hb⟩; have hcell := hrow (n % 11).toNat (by show (n % 11).toNat < 15; omega); have hrow' : Hid (Row v1 b twosL) := hrow; clear hrow; rw [Hw.out] at hcell)
    all_goals (go_meet; case rel => exact ⟨rfl, (by repeat (first | exact BW.refl _ | assumption | apply BW.alloc | apply BW.drew | (refine BW.setCell ?_ (by first | omega | (simp; done) | (simp; omega)) _) | (refine BW.trans ?_ (by assumption))))⟩)
  case rest =>
  obtain ⟨rfl, hB0⟩ := hcut
  go_upto_region 2 with fail
  go_cut [8, 9] (fun p0 e0 wx => ∃ b0, p0 = .pointer (some ⟨b0, 0, none⟩) ∧ e0 = .int .i64 (x) ∧ BW wc wx ∧ H3 wx b0 (t) (m) ⟨#[]⟩)
  case first =>
    go_wp2_with (first | (go_at_call 21; refine (of_any _ _).mono ?_; rintro e v1 ⟨rfl, hb⟩; have hz := hb.size; (try simp at hz); (try have hq0 := fun o => hb.cells (wc.heap.size) o (by first | omega | (simp; done) | (simp; omega))); (try have hr0 := fun o => hb.froz (wc.heap.size) o (by first | omega | (simp; done) | (simp; omega)))) | (go_at_call 19; refine (h19 _).mono ?_; rintro e v2 ⟨rfl, hb⟩; have hz := hb.size; (try simp at hz); (try have hq0 := fun o => hb.cells (wc.heap.size) o (by first | omega | (simp; done) | (simp; omega))); (try have hr0 := fun o => hb.froz (wc.heap.size) o (by first | omega | (simp; done) | (simp; omega))); (try have hq1 := fun o => hb.cells (v1.heap.size) o (by first | omega | (simp; done) | (simp; omega))); (try have hr1 := fun o => hb.froz (v1.heap.size) o (by first | omega | (simp; done) | (simp; omega)))))
    all_goals (go_meet; case rel => exact ⟨_, rfl, rfl, (by repeat (first | exact BW.refl _ | assumption | apply BW.alloc | apply BW.drew | (refine BW.setCell ?_ (by first | omega | (simp; done) | (simp; omega)) _) | (refine BW.trans ?_ (by assumption)))), (by refine ⟨?_, ?_, ?_⟩ <;> simp [go_sem, *])⟩)
  case rest =>
  obtain ⟨bx, rfl, rfl, hB1, Hbx⟩ := hcut
  have Lbx := Hbx.lt
  have cbx0 := Hbx.1
  have cbx1 := Hbx.2.1
  have cbx2 := Hbx.2.2
  replace hB1 := hB0.trans hB1
  clear hB0
  go_upto_region 3 with fail
  go_cut [10, 11] (fun p0 e0 wx => ∃ b0, p0 = .pointer (some ⟨b0, 0, none⟩) ∧ e0 = .int .i64 (x) ∧ BW wc wx ∧ H3 wx b0 (t) (m) ⟨#[]⟩)
  case first =>
    go_wp2_with (first | (go_at_call 22; refine (int_any _ _).mono ?_; rintro e v1 ⟨rfl, hb⟩; have hz := hb.size; (try simp at hz); have hc0 := fun o => hb.cells bx o (by first | omega | (simp; done) | (simp; omega)); have hd00 : ¬ bx = wc.heap.size := (by omega); have he00 : ¬ wc.heap.size = bx := (by omega); have hd01 : ¬ bx = v1.heap.size := (by omega); have he01 : ¬ v1.heap.size = bx := (by omega); (try have hq0 := fun o => hb.cells (wc.heap.size) o (by first | omega | (simp; done) | (simp; omega))); (try have hr0 := fun o => hb.froz (wc.heap.size) o (by first | omega | (simp; done) | (simp; omega)))) | (go_at_call 20; refine (h20 _).mono ?_; rintro e v2 ⟨rfl, hb⟩; have hz := hb.size; (try simp at hz); have hc0 := fun o => hb.cells bx o (by first | omega | (simp; done) | (simp; omega)); have hd00 : ¬ bx = wc.heap.size := (by omega); have he00 : ¬ wc.heap.size = bx := (by omega); have hd01 : ¬ bx = v2.heap.size := (by omega); have he01 : ¬ v2.heap.size = bx := (by omega); (try have hq0 := fun o => hb.cells (wc.heap.size) o (by first | omega | (simp; done) | (simp; omega))); (try have hr0 := fun o => hb.froz (wc.heap.size) o (by first | omega | (simp; done) | (simp; omega))); (try have hq1 := fun o => hb.cells (v1.heap.size) o (by first | omega | (simp; done) | (simp; omega))); (try have hr1 := fun o => hb.froz (v1.heap.size) o (by first | omega | (simp; done) | (simp; omega)))))
    all_goals (go_meet; case rel => exact ⟨_, rfl, rfl, (by repeat (first | exact BW.refl _ | assumption | apply BW.alloc | apply BW.drew | (refine BW.setCell ?_ (by first | omega | (simp; done) | (simp; omega)) _) | (refine BW.trans ?_ (by assumption)))), (by refine ⟨?_, ?_, ?_⟩ <;> simp [go_sem, *])⟩)
  case rest =>
  obtain ⟨by_, rfl, rfl, hB2, Hby_⟩ := hcut
  replace Hbx := Hbx.bw hB2
  replace Lbx := Hbx.lt
  replace cbx0 := Hbx.1
  replace cbx1 := Hbx.2.1
  replace cbx2 := Hbx.2.2
  have Lby_ := Hby_.lt
  have cby_0 := Hby_.1
  have cby_1 := Hby_.2.1
  have cby_2 := Hby_.2.2
  replace hB2 := hB1.trans hB2
  clear hB1
  go_upto_region 6 with fail
  clear Hbx Lbx cbx0 cbx1 cbx2
  clear Hby_ Lby_ cby_0 cby_1 cby_2
  go_cut [12, 13] (fun p0 e0 wx => ∃ b0, p0 = .pointer (some ⟨b0, 0, none⟩) ∧ e0 = .int .i64 (0) ∧ BW wc wx ∧ H3 wx b0 (qt) (qn) ⟨#[]⟩)
  case first =>
    go_wp2_with (first | (go_at_call 21; refine (of_any _ _).mono ?_; rintro e v1 ⟨rfl, hb⟩; have hz := hb.size; (try simp at hz); (try have hq0 := fun o => hb.cells (wc.heap.size) o (by first | omega | (simp; done) | (simp; omega))); (try have hr0 := fun o => hb.froz (wc.heap.size) o (by first | omega | (simp; done) | (simp; omega)))) | (go_at_call 19; refine (hq _).mono ?_; rintro e v2 ⟨rfl, hb⟩; have hz := hb.size; (try simp at hz); (try have hq0 := fun o => hb.cells (wc.heap.size) o (by first | omega | (simp; done) | (simp; omega))); (try have hr0 := fun o => hb.froz (wc.heap.size) o (by first | omega | (simp; done) | (simp; omega))); (try have hq1 := fun o => hb.cells (v1.heap.size) o (by first | omega | (simp; done) | (simp; omega))); (try have hr1 := fun o => hb.froz (v1.heap.size) o (by first | omega | (simp; done) | (simp; omega)))))
    all_goals (go_meet; case rel => exact ⟨_, rfl, rfl, (by repeat (first | exact BW.refl _ | assumption | apply BW.alloc | apply BW.drew | (refine BW.setCell ?_ (by first | omega | (simp; done) | (simp; omega)) _) | (refine BW.trans ?_ (by assumption)))), (by refine ⟨?_, ?_, ?_⟩ <;> simp [go_sem, *])⟩)
  case rest =>
  obtain ⟨bq, rfl, rfl, hB3, Hbq⟩ := hcut
  have Lbq := Hbq.lt
  have cbq0 := Hbq.1
  have cbq1 := Hbq.2.1
  have cbq2 := Hbq.2.2
  replace hB3 := hB2.trans hB3
  clear hB2
  go_upto_region 7 with fail
  go_cut [14, 15] (fun p0 e0 wx => ∃ b0, p0 = .pointer (some ⟨b0, 0, none⟩) ∧ e0 = .int .i64 (0) ∧ BW wc wx ∧ H3 wx b0 (rt) (rn) ⟨#[]⟩)
  case first =>
    go_wp2_with (first | (go_at_call 21; refine (of_any _ _).mono ?_; rintro e v1 ⟨rfl, hb⟩; have hz := hb.size; (try simp at hz); have hc0 := fun o => hb.cells bq o (by first | omega | (simp; done) | (simp; omega)); have hd00 : ¬ bq = wc.heap.size := (by omega); have he00 : ¬ wc.heap.size = bq := (by omega); have hd01 : ¬ bq = v1.heap.size := (by omega); have he01 : ¬ v1.heap.size = bq := (by omega); (try have hq0 := fun o => hb.cells (wc.heap.size) o (by first | omega | (simp; done) | (simp; omega))); (try have hr0 := fun o => hb.froz (wc.heap.size) o (by first | omega | (simp; done) | (simp; omega)))) | (go_at_call 19; refine (hr _).mono ?_; rintro e v2 ⟨rfl, hb⟩; have hz := hb.size; (try simp at hz); have hc0 := fun o => hb.cells bq o (by first | omega | (simp; done) | (simp; omega)); have hd00 : ¬ bq = wc.heap.size := (by omega); have he00 : ¬ wc.heap.size = bq := (by omega); have hd01 : ¬ bq = v2.heap.size := (by omega); have he01 : ¬ v2.heap.size = bq := (by omega); (try have hq0 := fun o => hb.cells (wc.heap.size) o (by first | omega | (simp; done) | (simp; omega))); (try have hr0 := fun o => hb.froz (wc.heap.size) o (by first | omega | (simp; done) | (simp; omega))); (try have hq1 := fun o => hb.cells (v1.heap.size) o (by first | omega | (simp; done) | (simp; omega))); (try have hr1 := fun o => hb.froz (v1.heap.size) o (by first | omega | (simp; done) | (simp; omega)))))
    all_goals (go_meet; case rel => exact ⟨_, rfl, rfl, (by repeat (first | exact BW.refl _ | assumption | apply BW.alloc | apply BW.drew | (refine BW.setCell ?_ (by first | omega | (simp; done) | (simp; omega)) _) | (refine BW.trans ?_ (by assumption)))), (by refine ⟨?_, ?_, ?_⟩ <;> simp [go_sem, *])⟩)
  case rest =>
  obtain ⟨br, rfl, rfl, hB4, Hbr⟩ := hcut
  replace Hbq := Hbq.bw hB4
  replace Lbq := Hbq.lt
  replace cbq0 := Hbq.1
  replace cbq1 := Hbq.2.1
  replace cbq2 := Hbq.2.2
  have Lbr := Hbr.lt
  have cbr0 := Hbr.1
  have cbr1 := Hbr.2.1
  have cbr2 := Hbr.2.2
  replace hB4 := hB3.trans hB4
  clear hB3
  go_upto_region 10 with fail
  clear Hbq Lbq cbq0 cbq1 cbq2
  clear Hbr Lbr cbr0 cbr1 cbr2
  go_cut [16, 17] (fun p0 e0 wx => ∃ b0, p0 = .pointer (some ⟨b0, 0, none⟩) ∧ e0 = .int .i64 (sx) ∧ BW wc wx ∧ H3 wx b0 (st) (sn) ⟨#[]⟩)
  case first =>
    go_wp2_with (first | (go_at_call 21; refine (of_any _ _).mono ?_; rintro e v1 ⟨rfl, hb⟩; have hz := hb.size; (try simp at hz); (try have hq0 := fun o => hb.cells (wc.heap.size) o (by first | omega | (simp; done) | (simp; omega))); (try have hr0 := fun o => hb.froz (wc.heap.size) o (by first | omega | (simp; done) | (simp; omega)))) | (go_at_call 19; refine (hs _).mono ?_; rintro e v2 ⟨rfl, hb⟩; have hz := hb.size; (try simp at hz); (try have hq0 := fun o => hb.cells (wc.heap.size) o (by first | omega | (simp; done) | (simp; omega))); (try have hr0 := fun o => hb.froz (wc.heap.size) o (by first | omega | (simp; done) | (simp; omega))); (try have hq1 := fun o => hb.cells (v1.heap.size) o (by first | omega | (simp; done) | (simp; omega))); (try have hr1 := fun o => hb.froz (v1.heap.size) o (by first | omega | (simp; done) | (simp; omega)))))
    all_goals (go_meet; case rel => exact ⟨_, rfl, rfl, (by repeat (first | exact BW.refl _ | assumption | apply BW.alloc | apply BW.drew | (refine BW.setCell ?_ (by first | omega | (simp; done) | (simp; omega)) _) | (refine BW.trans ?_ (by assumption)))), (by refine ⟨?_, ?_, ?_⟩ <;> simp [go_sem, *])⟩)
  case rest =>
  obtain ⟨bs, rfl, rfl, hB5, Hbs⟩ := hcut
  have Lbs := Hbs.lt
  have cbs0 := Hbs.1
  have cbs1 := Hbs.2.1
  have cbs2 := Hbs.2.2
  replace hB5 := hB4.trans hB5
  clear hB4
  go_upto_region 11 with fail
  go_cut [18, 19] (fun p0 e0 wx => ∃ b0, p0 = .pointer (some ⟨b0, 0, none⟩) ∧ e0 = .int .i64 (sx) ∧ BW wc wx ∧ H3 wx b0 (st) (sn) ⟨#[]⟩)
  case first =>
    go_wp2_with (first | (go_at_call 21; refine (of_any _ _).mono ?_; rintro e v1 ⟨rfl, hb⟩; have hz := hb.size; (try simp at hz); have hc0 := fun o => hb.cells bs o (by first | omega | (simp; done) | (simp; omega)); have hd00 : ¬ bs = wc.heap.size := (by omega); have he00 : ¬ wc.heap.size = bs := (by omega); have hd01 : ¬ bs = v1.heap.size := (by omega); have he01 : ¬ v1.heap.size = bs := (by omega); (try have hq0 := fun o => hb.cells (wc.heap.size) o (by first | omega | (simp; done) | (simp; omega))); (try have hr0 := fun o => hb.froz (wc.heap.size) o (by first | omega | (simp; done) | (simp; omega)))) | (go_at_call 19; refine (ht _).mono ?_; rintro e v2 ⟨rfl, hb⟩; have hz := hb.size; (try simp at hz); have hc0 := fun o => hb.cells bs o (by first | omega | (simp; done) | (simp; omega)); have hd00 : ¬ bs = wc.heap.size := (by omega); have he00 : ¬ wc.heap.size = bs := (by omega); have hd01 : ¬ bs = v2.heap.size := (by omega); have he01 : ¬ v2.heap.size = bs := (by omega); (try have hq0 := fun o => hb.cells (wc.heap.size) o (by first | omega | (simp; done) | (simp; omega))); (try have hr0 := fun o => hb.froz (wc.heap.size) o (by first | omega | (simp; done) | (simp; omega))); (try have hq1 := fun o => hb.cells (v1.heap.size) o (by first | omega | (simp; done) | (simp; omega))); (try have hr1 := fun o => hb.froz (v1.heap.size) o (by first | omega | (simp; done) | (simp; omega)))))
    all_goals (go_meet; case rel => exact ⟨_, rfl, rfl, (by repeat (first | exact BW.refl _ | assumption | apply BW.alloc | apply BW.drew | (refine BW.setCell ?_ (by first | omega | (simp; done) | (simp; omega)) _) | (refine BW.trans ?_ (by assumption)))), (by refine ⟨?_, ?_, ?_⟩ <;> simp [go_sem, *])⟩)
  case rest =>
  obtain ⟨bt, rfl, rfl, hB6, Hbt⟩ := hcut
  replace Hbs := Hbs.bw hB6
  replace Lbs := Hbs.lt
  replace cbs0 := Hbs.1
  replace cbs1 := Hbs.2.1
  replace cbs2 := Hbs.2.2
  have Lbt := Hbt.lt
  have cbt0 := Hbt.1
  have cbt1 := Hbt.2.1
  have cbt2 := Hbt.2.2
  replace hB6 := hB5.trans hB6
  clear hB5
  go_wp2_with (first | (go_at_call 13; refine (awake_any _).mono ?_; rintro e v1 ⟨rfl, hb⟩; have hz := hb.size; (try simp at hz); have hc0 := fun o => hb.cells bs o (by first | omega | (simp; done) | (simp; omega)); have hc1 := fun o => hb.cells bt o (by first | omega | (simp; done) | (simp; omega)); have hd00 : ¬ bs = wc.heap.size := (by omega); have he00 : ¬ wc.heap.size = bs := (by omega); have hd01 : ¬ bs = v1.heap.size := (by omega); have he01 : ¬ v1.heap.size = bs := (by omega); have hd10 : ¬ bt = wc.heap.size := (by omega); have he10 : ¬ wc.heap.size = bt := (by omega); have hd11 : ¬ bt = v1.heap.size := (by omega); have he11 : ¬ v1.heap.size = bt := (by omega); (try have hq0 := fun o => hb.cells (wc.heap.size) o (by first | omega | (simp; done) | (simp; omega))); (try have hr0 := fun o => hb.froz (wc.heap.size) o (by first | omega | (simp; done) | (simp; omega)))))
  go_ret
  exact ⟨rfl, (by repeat (first | exact BW.refl _ | assumption | apply BW.alloc | apply BW.drew | (refine BW.setCell ?_ (by first | omega | (simp; done) | (simp; omega)) _) | (refine BW.trans ?_ (by assumption))))⟩
theorem back (a b : Int) (ha : InR a) (hb : InR b) : (wrap64 (wrap64 (a.tdiv b * b) + a.tmod b) != a) = false := by
  have h1 := Int.mul_tdiv_add_tmod a b
  rw [Int.mul_comm] at h1
  obtain ⟨q, hq⟩ := wrap_dist (a.tdiv b * b)
  have h2 : wrap64 (wrap64 (a.tdiv b * b) + a.tmod b) = a := by
    rw [hq]
    generalize a.tdiv b * b = y at *
    generalize a.tmod b = z at *
    unfold InR at ha
    unfold wrap64
    omega
  rw [h2]; simp
theorem sums (a b : Int) (ha : InR a) (hb : InR b) : ∃ t n x, Val2 ⟨#[43]⟩ a b t n x ∧ Val2 ⟨#[43]⟩ b a t n x := by
  by_cases h : InR (a + b)
  · refine ⟨1, a + b, 0, (add_in ha hb h).val _ _, ?_⟩
    have h' : InR (b + a) := by rw [Int.add_comm]; exact h
    have := (add_in hb ha h').val ⟨#[]⟩ ⟨#[]⟩
    rw [Int.add_comm] at this
    exact this
  · exact ⟨0, 0, 3, (add_out ha hb h).val _ _, (add_out hb ha (by rw [Int.add_comm]; exact h)).val _ _⟩
theorem twos_eleven (m : Nat) (hm : m < 11) (h : m < twosL.length) : twosL[m] = elevenL[m]'hm := by
  obtain rfl | rfl | rfl | rfl | rfl | rfl | rfl | rfl | rfl | rfl | rfl : m = 0 ∨ m = 1 ∨ m = 2 ∨ m = 3 ∨ m = 4 ∨ m = 5 ∨ m = 6 ∨ m = 7 ∨ m = 8 ∨ m = 9 ∨ m = 10 := by omega
  all_goals rfl
theorem ints_walk (n a b : Int) (n0 : 0 ≤ n) (n1 : n ≤ 255) (ha : InR a) (hb : InR b) (w : World) :
    Calls Try.prog 5 #[.int .u8 n, .int .i64 a, .int .i64 b] w fun e w' => e = .returned (.bool true) ∧ BW w w' := by
  have hm : (n % 11).toNat < 11 := by omega
  have hlt : (n % 11).toNat < twosL.length := by show (n % 11).toNat < 15; omega
  obtain ⟨t, m, x, hp⟩ := pair_all (n % 11).toNat hm a b ha hb
  obtain ⟨qt, qn, qx, hq, hq'⟩ := quo_all a b ha hb
  obtain ⟨st, sn, sx, hs, ht⟩ := sums a b ha hb
  have hw := twos_eleven (n % 11).toNat hm hlt
  have h20 : Ref2 (elevenL[(n % 11).toNat]'hm) a b t m x := fun w => two20 _ (n % 11).toNat hm rfl a b t m x _ _ hp w
  rcases hq' with hq' | ⟨rfl, bz, rfl⟩
  · obtain ⟨rt, rn, rx, hr, _⟩ := rem_all a b ha hb
    exact ints_no n a b n0 n1 _ hlt hw t m x qt qn qx rt rn rx st sn sx (hp.val _ _) h20 (hq.val _ _) (hr.val _ _) hs ht hq' w
  · exact ints_yes n a b n0 n1 _ hlt hw t m x qt _ 0 1 _ 0 st sn sx (hp.val _ _) h20 (hq.val _ _) ((rem_in a b ha hb bz).val _ _) hs ht (back a b ha hb) w
end Go.Proofs.Ytbiahgjlgojhdaa
