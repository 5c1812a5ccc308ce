import Derived.Test.YtbiahgjlgojhdaaM1
import Derived.Test.YtbiahgjlgojhdaaB4
import Derived.Deep.RegionWith
import Derived.Deep.RegionHeld3
import Derived.Deep.DeepCutAuto
namespace Go.Proofs.Ytbiahgjlgojhdaa
open Go.RowKit
set_option linter.unusedVariables false
/-- A value that lies in a variable's block. -/
def H3 (w : World) (b : Nat) (t n : Int) (s : ByteArray) : Prop := w.cell? ⟨b, 0, none⟩ = some (.int .u8 t) ∧ w.cell? ⟨b, 1, none⟩ = some (.int .i64 n) ∧ w.cell? ⟨b, 2, none⟩ = some (.string s)
theorem H3.lt {w : World} {b : Nat} {t n : Int} {s : ByteArray} (h : H3 w b t n s) : b < w.heap.size := World.block_lt_of_cell? w _ h.1
theorem H3.bw {w w' : World} {b : Nat} {t n : Int} {s : ByteArray} (h : H3 w b t n s) (k : BW w w') : H3 w' b t n s :=
  ⟨(k.cells b 0 h.lt).trans h.1, (k.cells b 1 h.lt).trans h.2.1, (k.cells b 2 h.lt).trans h.2.2⟩
set_option maxRecDepth 100000 in
set_option maxHeartbeats 400000 in
theorem shifts_walk (a n m : Int) (h0 : 0 ≤ n) (hn' : n ≤ 255) (hm : 0 ≤ m) (hm' : m ≤ 255) (w : World) :
    Calls Try.prog 8 #[.int .i64 a, .int .u8 n, .int .u8 m] w fun e w' => e = .returned (.bool true) ∧ BW w w' := by
  go_enter Try.func8, Try.ntmps8
  go_upto_region 2 with fail
  go_cut [9, 10] (fun p e wx => ∃ b, p = .pointer (some ⟨b, 0, none⟩) ∧ e = .int .i64 0 ∧ BW w wx ∧ H3 wx b (1) (wrap64 (a * 2 ^ (n % 64).toNat)) ⟨#[]⟩)
  case first =>
    go_wp2_with (first | (go_at_call 21; refine (of_any _ _).mono ?_; rintro e v1 ⟨rfl, hb⟩; have hz := hb.size; (try simp at hz); (try have hq0 := fun o => hb.cells (w.heap.size) o (by first | omega | (simp; done) | (simp; omega))); (try have hr0 := fun o => hb.froz (w.heap.size) o (by first | omega | (simp; done) | (simp; omega)))) | (go_at_call_of 19 (Value.string ⟨#[115, 104, 108]⟩); refine (two_shl _ _ (shl_ok _ _ (by omega) (by omega)) _).mono ?_; rintro e v2 ⟨rfl, hb⟩; have hz := hb.size; (try simp at hz); (try have hq0 := fun o => hb.cells (w.heap.size) o (by first | omega | (simp; done) | (simp; omega))); (try have hr0 := fun o => hb.froz (w.heap.size) o (by first | omega | (simp; done) | (simp; omega))); (try have hq1 := fun o => hb.cells (v1.heap.size) o (by first | omega | (simp; done) | (simp; omega))); (try have hr1 := fun o => hb.froz (v1.heap.size) o (by first | omega | (simp; done) | (simp; omega)))))
    all_goals (go_meet; case rel => exact ⟨_, rfl, rfl, (by repeat (first | exact BW.refl _ | assumption | apply BW.alloc | apply BW.drew | (refine BW.setCell ?_ (by first | omega | (simp; done) | (simp; omega)) _) | (refine BW.trans ?_ (by assumption)))), by refine ⟨?_, ?_, ?_⟩ <;> simp [go_sem, *]⟩)
  case rest =>
  obtain ⟨b9, rfl, rfl, hB0, Hb9⟩ := hcut
  have Lb9 := Hb9.lt
  have cb90 := Hb9.1
  have cb91 := Hb9.2.1
  have cb92 := Hb9.2.2
  go_upto_region 3 with fail
  go_cut [11, 12] (fun p e wx => ∃ b, p = .pointer (some ⟨b, 0, none⟩) ∧ e = .int .i64 0 ∧ BW wc wx ∧ H3 wx b (1) (wrap64 (IntKind.u64.wrap (wrap64 (a * 2 ^ (n % 64).toNat)) / 2 ^ (n % 64).toNat)) ⟨#[]⟩)
  case first =>
    go_region_held3 (fun w' => w'.cell? ⟨b9, 0, none⟩ = some (.int .u8 (1)) ∧ w'.cell? ⟨b9, 1, none⟩ = some (.int .i64 (wrap64 (a * 2 ^ (n % 64).toNat))) ∧ w'.cell? ⟨b9, 2, none⟩ = some (.string ⟨#[]⟩)) (go_keep) (first | (go_at_call 21; refine (of_any _ _).mono ?_; rintro e v1 ⟨rfl, hb⟩; have hz := hb.size; (try simp at hz); have hc0 := fun o => hb.cells (b9) o (by first | omega | (simp; done) | (simp; omega)); have hd00 : ¬ b9 = wc.heap.size := (by omega); have he00 : ¬ wc.heap.size = b9 := (by omega); have hd01 : ¬ b9 = v1.heap.size := (by omega); have he01 : ¬ v1.heap.size = b9 := (by omega); (try have hq0 := fun o => hb.cells (wc.heap.size) o (by first | omega | (simp; done) | (simp; omega))); (try have hr0 := fun o => hb.froz (wc.heap.size) o (by first | omega | (simp; done) | (simp; omega)))) | (go_at_call_of 19 (Value.string ⟨#[117, 115, 104, 114]⟩); refine (two_ushr _ _ (ushr_ok _ _ (by omega) (by omega)) _).mono ?_; rintro e v2 ⟨rfl, hb⟩; have hz := hb.size; (try simp at hz); have hc0 := fun o => hb.cells (b9) o (by first | omega | (simp; done) | (simp; omega)); have hd00 : ¬ b9 = v2.heap.size := (by omega); have he00 : ¬ v2.heap.size = b9 := (by omega); (try have hq0 := fun o => hb.cells (wc.heap.size) o (by first | omega | (simp; done) | (simp; omega))); (try have hr0 := fun o => hb.froz (wc.heap.size) o (by first | omega | (simp; done) | (simp; omega))); (try have hq1 := fun o => hb.cells (v1.heap.size) o (by first | omega | (simp; done) | (simp; omega))); (try have hr1 := fun o => hb.froz (v1.heap.size) o (by first | omega | (simp; done) | (simp; omega)))))
    all_goals go_wp2_with fail
    all_goals (go_meet; case rel => exact ⟨_, rfl, rfl, (by repeat (first | exact BW.refl _ | assumption | apply BW.alloc | apply BW.drew | (refine BW.setCell ?_ (by first | omega | (simp; done) | (simp; omega)) _) | (refine BW.trans ?_ (by assumption)))), by refine ⟨?_, ?_, ?_⟩ <;> simp [go_sem, *]⟩)
  case rest =>
  obtain ⟨b11, rfl, rfl, hB1, Hb11⟩ := hcut
  have Lb11 := Hb11.lt
  have cb110 := Hb11.1
  have cb111 := Hb11.2.1
  have cb112 := Hb11.2.2
  replace Hb9 := Hb9.bw hB1
  replace Lb9 := Hb9.lt
  replace cb90 := Hb9.1
  replace cb91 := Hb9.2.1
  replace cb92 := Hb9.2.2
  replace hB1 := hB0.trans hB1
  clear hB0
  clear Hb9 Lb9 cb90 cb91 cb92
  go_upto_region 4 with fail
  go_cut [13, 14] (fun p e wx => ∃ b, p = .pointer (some ⟨b, 0, none⟩) ∧ e = .int .i64 0 ∧ BW wc wx ∧ H3 wx b (1) (wrap64 (IntKind.u64.wrap (-1) / 2 ^ (n % 64).toNat)) ⟨#[]⟩)
  case first =>
    go_wp2_with (first | (go_at_call 21; refine (of_any _ _).mono ?_; rintro e v1 ⟨rfl, hb⟩; have hz := hb.size; (try simp at hz); have hc0 := fun o => hb.cells (b11) o (by first | omega | (simp; done) | (simp; omega)); have hd00 : ¬ b11 = wc.heap.size := (by omega); have he00 : ¬ wc.heap.size = b11 := (by omega); have hd01 : ¬ b11 = v1.heap.size := (by omega); have he01 : ¬ v1.heap.size = b11 := (by omega); (try have hq0 := fun o => hb.cells (wc.heap.size) o (by first | omega | (simp; done) | (simp; omega))); (try have hr0 := fun o => hb.froz (wc.heap.size) o (by first | omega | (simp; done) | (simp; omega)))) | (go_at_call_of 19 (Value.string ⟨#[117, 115, 104, 114]⟩); refine (two_ushr _ _ (ushr_ok _ _ (by omega) (by omega)) _).mono ?_; rintro e v2 ⟨rfl, hb⟩; have hz := hb.size; (try simp at hz); have hc0 := fun o => hb.cells (b11) o (by first | omega | (simp; done) | (simp; omega)); have hd00 : ¬ b11 = v2.heap.size := (by omega); have he00 : ¬ v2.heap.size = b11 := (by omega); (try have hq0 := fun o => hb.cells (wc.heap.size) o (by first | omega | (simp; done) | (simp; omega))); (try have hr0 := fun o => hb.froz (wc.heap.size) o (by first | omega | (simp; done) | (simp; omega))); (try have hq1 := fun o => hb.cells (v1.heap.size) o (by first | omega | (simp; done) | (simp; omega))); (try have hr1 := fun o => hb.froz (v1.heap.size) o (by first | omega | (simp; done) | (simp; omega)))))
    all_goals (go_meet; case rel => exact ⟨_, rfl, rfl, (by repeat (first | exact BW.refl _ | assumption | apply BW.alloc | apply BW.drew | (refine BW.setCell ?_ (by first | omega | (simp; done) | (simp; omega)) _) | (refine BW.trans ?_ (by assumption)))), by refine ⟨?_, ?_, ?_⟩ <;> simp [go_sem, *]⟩)
  case rest =>
  obtain ⟨b13, rfl, rfl, hB2, Hb13⟩ := hcut
  have Lb13 := Hb13.lt
  have cb130 := Hb13.1
  have cb131 := Hb13.2.1
  have cb132 := Hb13.2.2
  replace Hb11 := Hb11.bw hB2
  replace Lb11 := Hb11.lt
  replace cb110 := Hb11.1
  replace cb111 := Hb11.2.1
  replace cb112 := Hb11.2.2
  replace hB2 := hB1.trans hB2
  clear hB1
  go_upto_region 5 with fail
  go_cut [15, 16] (fun p e wx => ∃ b, p = .pointer (some ⟨b, 0, none⟩) ∧ e = .int .i64 0 ∧ BW wc wx ∧ H3 wx b (1) (bits .and .i64 a (wrap64 (IntKind.u64.wrap (-1) / 2 ^ (n % 64).toNat))) ⟨#[]⟩)
  case first =>
    go_region_held3 (fun w' => w'.cell? ⟨b13, 0, none⟩ = some (.int .u8 (1)) ∧ w'.cell? ⟨b13, 1, none⟩ = some (.int .i64 (wrap64 (IntKind.u64.wrap (-1) / 2 ^ (n % 64).toNat))) ∧ w'.cell? ⟨b13, 2, none⟩ = some (.string ⟨#[]⟩)) (go_keep) (first | (go_at_call 21; refine (of_any _ _).mono ?_; rintro e v1 ⟨rfl, hb⟩; have hz := hb.size; (try simp at hz); have hc0 := fun o => hb.cells (b11) o (by first | omega | (simp; done) | (simp; omega)); have hc1 := fun o => hb.cells (b13) o (by first | omega | (simp; done) | (simp; omega)); have hd00 : ¬ b11 = wc.heap.size := (by omega); have he00 : ¬ wc.heap.size = b11 := (by omega); have hd01 : ¬ b11 = v1.heap.size := (by omega); have he01 : ¬ v1.heap.size = b11 := (by omega); have hd10 : ¬ b13 = wc.heap.size := (by omega); have he10 : ¬ wc.heap.size = b13 := (by omega); have hd11 : ¬ b13 = v1.heap.size := (by omega); have he11 : ¬ v1.heap.size = b13 := (by omega); (try have hq0 := fun o => hb.cells (wc.heap.size) o (by first | omega | (simp; done) | (simp; omega))); (try have hr0 := fun o => hb.froz (wc.heap.size) o (by first | omega | (simp; done) | (simp; omega)))) | (go_at_call_of 19 (Value.string ⟨#[97, 110, 100]⟩); refine (two_and _ _ (reck_and _ _) _).mono ?_; rintro e v2 ⟨rfl, hb⟩; have hz := hb.size; (try simp at hz); have hc0 := fun o => hb.cells (b11) o (by first | omega | (simp; done) | (simp; omega)); have hc1 := fun o => hb.cells (b13) o (by first | omega | (simp; done) | (simp; omega)); have hd00 : ¬ b11 = v2.heap.size := (by omega); have he00 : ¬ v2.heap.size = b11 := (by omega); have hd10 : ¬ b13 = v2.heap.size := (by omega); have he10 : ¬ v2.heap.size = b13 := (by omega); (try have hq0 := fun o => hb.cells (wc.heap.size) o (by first | omega | (simp; done) | (simp; omega))); (try have hr0 := fun o => hb.froz (wc.heap.size) o (by first | omega | (simp; done) | (simp; omega))); (try have hq1 := fun o => hb.cells (v1.heap.size) o (by first | omega | (simp; done) | (simp; omega))); (try have hr1 := fun o => hb.froz (v1.heap.size) o (by first | omega | (simp; done) | (simp; omega)))))
    all_goals go_wp2_with fail
    all_goals (go_meet; case rel => exact ⟨_, rfl, rfl, (by repeat (first | exact BW.refl _ | assumption | apply BW.alloc | apply BW.drew | (refine BW.setCell ?_ (by first | omega | (simp; done) | (simp; omega)) _) | (refine BW.trans ?_ (by assumption)))), by refine ⟨?_, ?_, ?_⟩ <;> simp [go_sem, *]⟩)
  case rest =>
  obtain ⟨b15, rfl, rfl, hB3, Hb15⟩ := hcut
  have Lb15 := Hb15.lt
  have cb150 := Hb15.1
  have cb151 := Hb15.2.1
  have cb152 := Hb15.2.2
  replace Hb11 := Hb11.bw hB3
  replace Lb11 := Hb11.lt
  replace cb110 := Hb11.1
  replace cb111 := Hb11.2.1
  replace cb112 := Hb11.2.2
  replace Hb13 := Hb13.bw hB3
  replace Lb13 := Hb13.lt
  replace cb130 := Hb13.1
  replace cb131 := Hb13.2.1
  replace cb132 := Hb13.2.2
  replace hB3 := hB2.trans hB3
  clear hB2
  have hE := shifts_math a (n % 64).toNat (by omega)
  by_cases hkj : 63 < n % 64 + m % 64
  · go_wp2_with (first | (go_at_call 13; refine (awake_any _).mono ?_; rintro e v1 ⟨rfl, hb⟩))
    go_ret
    exact ⟨rfl, (by repeat (first | exact BW.refl _ | assumption | apply BW.alloc | apply BW.drew | (refine BW.setCell ?_ (by first | omega | (simp; done) | (simp; omega)) _) | (refine BW.trans ?_ (by assumption))))⟩
  go_upto_region 10 with fail
  clear hE Hb11 Lb11 cb110 cb111 cb112 Hb13 Lb13 cb130 cb131 cb132 Hb15 Lb15 cb150 cb151 cb152
  go_upto_region 10 with fail
  go_cut [17, 18] (fun p e wx => ∃ b, p = .pointer (some ⟨b, 0, none⟩) ∧ e = .int .i64 0 ∧ BW wc wx ∧ H3 wx b (1) (a / 2 ^ (n % 64).toNat) ⟨#[]⟩)
  case first =>
    go_wp2_with (first | (go_at_call 21; refine (of_any _ _).mono ?_; rintro e v1 ⟨rfl, hb⟩; have hz := hb.size; (try simp at hz); (try have hq0 := fun o => hb.cells (wc.heap.size) o (by first | omega | (simp; done) | (simp; omega))); (try have hr0 := fun o => hb.froz (wc.heap.size) o (by first | omega | (simp; done) | (simp; omega)))) | (go_at_call_of 19 (Value.string ⟨#[115, 104, 114]⟩); refine (two_shr _ _ (shr_ok _ _ (by omega) (by omega)) _).mono ?_; rintro e v2 ⟨rfl, hb⟩; have hz := hb.size; (try simp at hz); (try have hq0 := fun o => hb.cells (wc.heap.size) o (by first | omega | (simp; done) | (simp; omega))); (try have hr0 := fun o => hb.froz (wc.heap.size) o (by first | omega | (simp; done) | (simp; omega))); (try have hq1 := fun o => hb.cells (v1.heap.size) o (by first | omega | (simp; done) | (simp; omega))); (try have hr1 := fun o => hb.froz (v1.heap.size) o (by first | omega | (simp; done) | (simp; omega)))))
    all_goals (go_meet; case rel => exact ⟨_, rfl, rfl, (by repeat (first | exact BW.refl _ | assumption | apply BW.alloc | apply BW.drew | (refine BW.setCell ?_ (by first | omega | (simp; done) | (simp; omega)) _) | (refine BW.trans ?_ (by assumption)))), by refine ⟨?_, ?_, ?_⟩ <;> simp [go_sem, *]⟩)
  case rest =>
  obtain ⟨b17, rfl, rfl, hB4, Hb17⟩ := hcut
  have Lb17 := Hb17.lt
  have cb170 := Hb17.1
  have cb171 := Hb17.2.1
  have cb172 := Hb17.2.2
  replace hB4 := hB3.trans hB4
  clear hB3
  go_upto_region 11 with fail
  go_cut [19, 20] (fun p e wx => ∃ b, p = .pointer (some ⟨b, 0, none⟩) ∧ e = .int .i64 0 ∧ BW wc wx ∧ H3 wx b (1) (a / 2 ^ (n % 64).toNat / 2 ^ (m % 64).toNat) ⟨#[]⟩)
  case first =>
    go_region_held3 (fun w' => w'.cell? ⟨b17, 0, none⟩ = some (.int .u8 (1)) ∧ w'.cell? ⟨b17, 1, none⟩ = some (.int .i64 (a / 2 ^ (n % 64).toNat)) ∧ w'.cell? ⟨b17, 2, none⟩ = some (.string ⟨#[]⟩)) (go_keep) (first | (go_at_call 21; refine (of_any _ _).mono ?_; rintro e v1 ⟨rfl, hb⟩; have hz := hb.size; (try simp at hz); have hc0 := fun o => hb.cells (b17) o (by first | omega | (simp; done) | (simp; omega)); have hd00 : ¬ b17 = wc.heap.size := (by omega); have he00 : ¬ wc.heap.size = b17 := (by omega); have hd01 : ¬ b17 = v1.heap.size := (by omega); have he01 : ¬ v1.heap.size = b17 := (by omega); (try have hq0 := fun o => hb.cells (wc.heap.size) o (by first | omega | (simp; done) | (simp; omega))); (try have hr0 := fun o => hb.froz (wc.heap.size) o (by first | omega | (simp; done) | (simp; omega)))) | (go_at_call_of 19 (Value.string ⟨#[115, 104, 114]⟩); refine (two_shr _ _ (shr_ok _ _ (by omega) (by omega)) _).mono ?_; rintro e v2 ⟨rfl, hb⟩; have hz := hb.size; (try simp at hz); have hc0 := fun o => hb.cells (b17) o (by first | omega | (simp; done) | (simp; omega)); have hd00 : ¬ b17 = v2.heap.size := (by omega); have he00 : ¬ v2.heap.size = b17 := (by omega); (try have hq0 := fun o => hb.cells (wc.heap.size) o (by first | omega | (simp; done) | (simp; omega))); (try have hr0 := fun o => hb.froz (wc.heap.size) o (by first | omega | (simp; done) | (simp; omega))); (try have hq1 := fun o => hb.cells (v1.heap.size) o (by first | omega | (simp; done) | (simp; omega))); (try have hr1 := fun o => hb.froz (v1.heap.size) o (by first | omega | (simp; done) | (simp; omega)))))
    all_goals go_wp2_with fail
    all_goals (go_meet; case rel => exact ⟨_, rfl, rfl, (by repeat (first | exact BW.refl _ | assumption | apply BW.alloc | apply BW.drew | (refine BW.setCell ?_ (by first | omega | (simp; done) | (simp; omega)) _) | (refine BW.trans ?_ (by assumption)))), by refine ⟨?_, ?_, ?_⟩ <;> simp [go_sem, *]⟩)
  case rest =>
  obtain ⟨b19, rfl, rfl, hB5, Hb19⟩ := hcut
  have Lb19 := Hb19.lt
  have cb190 := Hb19.1
  have cb191 := Hb19.2.1
  have cb192 := Hb19.2.2
  replace Hb17 := Hb17.bw hB5
  replace Lb17 := Hb17.lt
  replace cb170 := Hb17.1
  replace cb171 := Hb17.2.1
  replace cb172 := Hb17.2.2
  replace hB5 := hB4.trans hB5
  clear hB4
  go_upto_region 12 with fail
  go_cut [21, 22] (fun p e wx => ∃ b, p = .pointer (some ⟨b, 0, none⟩) ∧ e = .int .i64 0 ∧ BW wc wx ∧ H3 wx b (1) (a / 2 ^ (n % 64 + m % 64).toNat) ⟨#[]⟩)
  case first =>
    go_wp2_with (first | (go_at_call 21; refine (of_any _ _).mono ?_; rintro e v1 ⟨rfl, hb⟩; have hz := hb.size; (try simp at hz); have hc0 := fun o => hb.cells (b19) o (by first | omega | (simp; done) | (simp; omega)); have hd00 : ¬ b19 = wc.heap.size := (by omega); have he00 : ¬ wc.heap.size = b19 := (by omega); have hd01 : ¬ b19 = v1.heap.size := (by omega); have he01 : ¬ v1.heap.size = b19 := (by omega); (try have hq0 := fun o => hb.cells (wc.heap.size) o (by first | omega | (simp; done) | (simp; omega))); (try have hr0 := fun o => hb.froz (wc.heap.size) o (by first | omega | (simp; done) | (simp; omega)))) | (go_at_call_of 19 (Value.string ⟨#[115, 104, 114]⟩); refine (two_shr _ _ (shr_ok _ _ (by omega) (by omega)) _).mono ?_; rintro e v2 ⟨rfl, hb⟩; have hz := hb.size; (try simp at hz); have hc0 := fun o => hb.cells (b19) o (by first | omega | (simp; done) | (simp; omega)); have hd00 : ¬ b19 = v2.heap.size := (by omega); have he00 : ¬ v2.heap.size = b19 := (by omega); (try have hq0 := fun o => hb.cells (wc.heap.size) o (by first | omega | (simp; done) | (simp; omega))); (try have hr0 := fun o => hb.froz (wc.heap.size) o (by first | omega | (simp; done) | (simp; omega))); (try have hq1 := fun o => hb.cells (v1.heap.size) o (by first | omega | (simp; done) | (simp; omega))); (try have hr1 := fun o => hb.froz (v1.heap.size) o (by first | omega | (simp; done) | (simp; omega)))))
    all_goals (go_meet; case rel => exact ⟨_, rfl, rfl, (by repeat (first | exact BW.refl _ | assumption | apply BW.alloc | apply BW.drew | (refine BW.setCell ?_ (by first | omega | (simp; done) | (simp; omega)) _) | (refine BW.trans ?_ (by assumption)))), by refine ⟨?_, ?_, ?_⟩ <;> simp [go_sem, *]⟩)
  case rest =>
  obtain ⟨b21, rfl, rfl, hB6, Hb21⟩ := hcut
  have Lb21 := Hb21.lt
  have cb210 := Hb21.1
  have cb211 := Hb21.2.1
  have cb212 := Hb21.2.2
  replace Hb19 := Hb19.bw hB6
  replace Lb19 := Hb19.lt
  replace cb190 := Hb19.1
  replace cb191 := Hb19.2.1
  replace cb192 := Hb19.2.2
  replace hB6 := hB5.trans hB6
  clear hB5
  have hE := shr_math a (n % 64) (m % 64) (by omega) (by omega)
  go_wp2_with (first | (go_at_call 13; refine (awake_any _).mono ?_; rintro e v1 ⟨rfl, hb⟩))
  go_ret
  exact ⟨rfl, (by repeat (first | exact BW.refl _ | assumption | apply BW.alloc | apply BW.drew | (refine BW.setCell ?_ (by first | omega | (simp; done) | (simp; omega)) _) | (refine BW.trans ?_ (by assumption))))⟩
end Go.Proofs.Ytbiahgjlgojhdaa
