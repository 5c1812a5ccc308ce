import Derived.Test.YtbiahgjlgojhdaaB5
import Derived.Test.YtbiahgjlgojhdaaB21
import Derived.Deep.RegionWith
import Derived.Deep.RegionHeld3
import Derived.Deep.DeepCutAuto
namespace Go.Proofs.Ytbiahgjlgojhdaa
open Go.RowKit
set_option linter.unusedVariables false
set_option maxRecDepth 100000 in
set_option maxHeartbeats 400000 in
theorem word_in (L : List ByteArray) (b : Nat) (i : Nat) (raw : ByteArray) (hl : L.length ≤ 100) (hi : i < L.length) (w : World) (hr : Row w b L) :
    Calls Try.prog 14 #[.slice (some ⟨b, 0, none⟩) L.length L.length, .int .u8 (i : Int), .string raw] w fun e w' => e = .returned (.string L[i]) ∧ BW w w' := by
  have hc := hr i hi
  have Hr : Hid (Row w b L) := hr
  clear hr
  have h1 : (i : Int) < (L.length : Int) := by omega
  go_enter Try.func14, Try.ntmps14
  go_wp2
  go_ret
  exact ⟨rfl, BW.refl _⟩
set_option maxRecDepth 100000 in
set_option maxHeartbeats 400000 in
theorem word_raw (n : Nat) (b : Nat) (i : Nat) (raw : ByteArray) (hl : n ≤ 100) (hi : n ≤ i) (hi' : i ≤ 255) (w : World) :
    Calls Try.prog 14 #[.slice (some ⟨b, 0, none⟩) n n, .int .u8 (i : Int), .string raw] w fun e w' => e = .returned (.string raw) ∧ BW w w' := by
  have h1 : (n : Int) ≤ (i : Int) := by omega
  have h2 : (i : Int) ≤ 255 := by omega
  go_enter Try.func14, Try.ntmps14
  go_wp2
  go_ret
  exact ⟨rfl, BW.refl _⟩
/-- The word that a number, or a raw text, stands for. -/
def Word (L : List ByteArray) (k : Nat) (n : Int) (raw wd : ByteArray) : Prop := ∀ (b : Nat) (w : World), Row w b L → Calls Try.prog 14 #[.slice (some ⟨b, 0, none⟩) k k, .int .u8 n, .string raw] w fun e w' => e = .returned (.string wd) ∧ BW w w'
set_option maxRecDepth 100000 in
set_option maxHeartbeats 400000 in
theorem twos_a (n ta a tb b : Int) (raw sa sb : ByteArray) (t0 : 0 ≤ ta) (t1 : 0 ≤ tb) (za : sa.size ≤ maxLen) (zb : sb.size ≤ maxLen) (ha : mayB ta a sa = false) (w : World) :
    Calls Try.prog 4 #[.int .u8 n, .string raw, V ta a sa, V tb b sb] w fun e w' => e = .returned (.bool true) ∧ BW w w' := by
  go_enter Try.func4, Try.ntmps4
  go_wp2_with (first | (go_at_call 12; refine (may_any _ _ _ (by assumption) (by assumption) _).mono ?_; rintro e v1 ⟨rfl, hb⟩; have hz := hb.size; (try simp at hz); have hc0 := fun o => hb.cells (w.heap.size) o (by first | omega | (simp; done) | (simp; omega)); have hc1 := fun o => hb.cells (w.heap.size + 1) o (by first | omega | (simp; done) | (simp; omega))) | (go_at_call 13; refine (awake_any _).mono ?_; rintro e v1 ⟨rfl, hb⟩; have hz := hb.size; (try simp at hz); have hc0 := fun o => hb.cells (w.heap.size) o (by first | omega | (simp; done) | (simp; omega)); have hc1 := fun o => hb.cells (w.heap.size + 1) o (by first | omega | (simp; done) | (simp; omega))))
  go_ret
  exact ⟨rfl, (by repeat (first | exact BW.refl _ | assumption | apply BW.alloc | apply BW.drew | (refine BW.setCell ?_ (by first | omega | (simp; done) | (simp; omega)) _) | (refine BW.trans ?_ (by assumption))))⟩
set_option maxRecDepth 100000 in
set_option maxHeartbeats 400000 in
theorem twos_b (n ta a tb b : Int) (raw sa sb : ByteArray) (t0 : 0 ≤ ta) (t1 : 0 ≤ tb) (za : sa.size ≤ maxLen) (zb : sb.size ≤ maxLen) (ha : mayB ta a sa = true) (hb0 : mayB tb b sb = false) (w : World) :
    Calls Try.prog 4 #[.int .u8 n, .string raw, V ta a sa, V tb b sb] w fun e w' => e = .returned (.bool true) ∧ BW w w' := by
  go_enter Try.func4, Try.ntmps4
  go_wp2_with (first | (go_at_call 12; refine (may_any _ _ _ (by assumption) (by assumption) _).mono ?_; rintro e v1 ⟨rfl, hb⟩; have hz := hb.size; (try simp at hz); have hc0 := fun o => hb.cells (w.heap.size) o (by first | omega | (simp; done) | (simp; omega)); have hc1 := fun o => hb.cells (w.heap.size + 1) o (by first | omega | (simp; done) | (simp; omega))) | (go_at_call 13; refine (awake_any _).mono ?_; rintro e v1 ⟨rfl, hb⟩; have hz := hb.size; (try simp at hz); have hc0 := fun o => hb.cells (w.heap.size) o (by first | omega | (simp; done) | (simp; omega)); have hc1 := fun o => hb.cells (w.heap.size + 1) o (by first | omega | (simp; done) | (simp; omega))))
  go_ret
  exact ⟨rfl, (by repeat (first | exact BW.refl _ | assumption | apply BW.alloc | apply BW.drew | (refine BW.setCell ?_ (by first | omega | (simp; done) | (simp; omega)) _) | (refine BW.trans ?_ (by assumption))))⟩
set_option maxRecDepth 100000 in
set_option maxHeartbeats 400000 in
theorem twos_l (n ta a tb b : Int) (raw sa sb : ByteArray) (t0 : 0 ≤ ta) (t1 : 0 ≤ tb) (za : sa.size ≤ maxLen) (zb : sb.size ≤ maxLen) (ha : mayB ta a sa = true) (hb0 : mayB tb b sb = true) (hl : 100 < (raw.size : Int)) (hl' : (raw.size : Int) ≤ 9223372036854775807) (w : World) :
    Calls Try.prog 4 #[.int .u8 n, .string raw, V ta a sa, V tb b sb] w fun e w' => e = .returned (.bool true) ∧ BW w w' := by
  go_enter Try.func4, Try.ntmps4
  go_wp2_with (first | (go_at_call 12; refine (may_any _ _ _ (by assumption) (by assumption) _).mono ?_; rintro e v1 ⟨rfl, hb⟩; have hz := hb.size; (try simp at hz); have hc0 := fun o => hb.cells (w.heap.size) o (by first | omega | (simp; done) | (simp; omega)); have hc1 := fun o => hb.cells (w.heap.size + 1) o (by first | omega | (simp; done) | (simp; omega))) | (go_at_call 13; refine (awake_any _).mono ?_; rintro e v1 ⟨rfl, hb⟩; have hz := hb.size; (try simp at hz); have hc0 := fun o => hb.cells (w.heap.size) o (by first | omega | (simp; done) | (simp; omega)); have hc1 := fun o => hb.cells (w.heap.size + 1) o (by first | omega | (simp; done) | (simp; omega))))
  go_ret
  exact ⟨rfl, (by repeat (first | exact BW.refl _ | assumption | apply BW.alloc | apply BW.drew | (refine BW.setCell ?_ (by first | omega | (simp; done) | (simp; omega)) _) | (refine BW.trans ?_ (by assumption))))⟩
set_option maxRecDepth 100000 in
set_option maxHeartbeats 4000000 in
theorem twos_main (n ta a tb b : Int) (raw sa sb : ByteArray) (t0 : 0 ≤ ta) (t1 : 0 ≤ tb) (za : sa.size ≤ maxLen) (zb : sb.size ≤ maxLen) (ha : mayB ta a sa = true) (hb0 : mayB tb b sb = true) (hl : (raw.size : Int) ≤ 100) (wd : ByteArray) (hW : Word twosL 15 n raw wd) (t m x : Int) (s : ByteArray) (hS : Same wd ta a tb b sa sb t m x s) (w : World) :
    Calls Try.prog 4 #[.int .u8 n, .string raw, V ta a sa, V tb b sb] w fun e w' => e = .returned (.bool true) ∧ BW w w' := by
  go_enter Try.func4, Try.ntmps4
  go_upto_region 1 with fail
  go_cut [6, 7, 26] (fun p q x wx => ∃ ba bb, p = .pointer (some ⟨ba, 0, none⟩) ∧ q = .pointer (some ⟨bb, 0, none⟩) ∧ x = .bool (decide (100 < (raw.size : Int))) ∧ BW w wx ∧ H3 wx ba ta a sa ∧ H3 wx bb tb b sb)
  case first =>
    go_wp2_with (first | (go_at_call 12; refine (may_any _ _ _ (by assumption) (by assumption) _).mono ?_; rintro e v1 ⟨rfl, hb⟩; have hz := hb.size; (try simp at hz); have hc0 := fun o => hb.cells (w.heap.size) o (by first | omega | (simp; done) | (simp; omega)); have hc1 := fun o => hb.cells (w.heap.size + 1) o (by first | omega | (simp; done) | (simp; omega))))
    all_goals (go_meet; case rel => exact ⟨_, _, rfl, rfl, rfl, (by repeat (first | exact BW.refl _ | assumption | apply BW.alloc | apply BW.drew | (refine BW.setCell ?_ (by first | omega | (simp; done) | (simp; omega)) _) | (refine BW.trans ?_ (by assumption)))), (by refine ⟨?_, ?_, ?_⟩ <;> simp [go_sem, *]), (by refine ⟨?_, ?_, ?_⟩ <;> simp [go_sem, *])⟩)
  case rest =>
  obtain ⟨ba, bb, rfl, rfl, rfl, hB0, Hba, Hbb⟩ := hcut
  clear ha hb0
  have Lba := Hba.lt
  have cba0 := Hba.1
  have cba1 := Hba.2.1
  have cba2 := Hba.2.2
  have Lbb := Hbb.lt
  have cbb0 := Hbb.1
  have cbb1 := Hbb.2.1
  have cbb2 := Hbb.2.2
  go_upto_region 3 with fail
  go_cut [9] (fun s wx => s = .string wd ∧ BW wc wx)
  case first =>
    go_wp2_with (first | (go_at_call 18; refine (twos_any _).mono ?_; rintro e v1 ⟨⟨b9, rfl, hbb, hrow⟩, hb⟩; have Hrow : Hid (Row v1 b9 twosL) := hrow; clear hrow) | (go_at_call 14; refine (hW _ _ Hrow.out).mono ?_; rintro e v2 ⟨rfl, hb⟩))
    all_goals (go_meet; case rel => exact ⟨rfl, (by repeat (first | exact BW.refl _ | assumption | apply BW.alloc | apply BW.drew | (refine BW.setCell ?_ (by first | omega | (simp; done) | (simp; omega)) _) | (refine BW.trans ?_ (by assumption))))⟩)
  case rest =>
  obtain ⟨rfl, hB1⟩ := hcut
  replace Hba := Hba.bw hB1
  replace Lba := Hba.lt
  replace cba0 := Hba.1
  replace cba1 := Hba.2.1
  replace cba2 := Hba.2.2
  replace Hbb := Hbb.bw hB1
  replace Lbb := Hbb.lt
  replace cbb0 := Hbb.1
  replace cbb1 := Hbb.2.1
  replace cbb2 := Hbb.2.2
  replace hB1 := hB0.trans hB1
  clear hB0
  go_upto_region 4 with fail
  go_cut [10, 11] (fun p0 e0 wx => ∃ b0, p0 = .pointer (some ⟨b0, 0, none⟩) ∧ e0 = .int .i64 (x) ∧ BW wc wx ∧ H3 wx b0 (t) (m) s)
  case first =>
    go_wp2_with (first | (go_at_call 19; refine (hS.val _).mono ?_; rintro e v1 ⟨rfl, hb⟩; have hz := hb.size; (try simp at hz); have hc0 := fun o => hb.cells ba o (by first | omega | (simp; done) | (simp; omega)); have hc1 := fun o => hb.cells bb o (by first | omega | (simp; done) | (simp; omega)); have hd00 : ¬ ba = wc.heap.size := (by omega); have he00 : ¬ wc.heap.size = ba := (by omega); have hd01 : ¬ ba = v1.heap.size := (by omega); have he01 : ¬ v1.heap.size = ba := (by omega); have hd10 : ¬ bb = wc.heap.size := (by omega); have he10 : ¬ wc.heap.size = bb := (by omega); have hd11 : ¬ bb = v1.heap.size := (by omega); have he11 : ¬ v1.heap.size = bb := (by omega); (try have hq0 := fun o => hb.cells (wc.heap.size) o (by first | omega | (simp; done) | (simp; omega))); (try have hr0 := fun o => hb.froz (wc.heap.size) o (by first | omega | (simp; done) | (simp; omega)))))
    all_goals (go_meet; case rel => exact ⟨_, rfl, rfl, (by repeat (first | exact BW.refl _ | assumption | apply BW.alloc | apply BW.drew | (refine BW.setCell ?_ (by first | omega | (simp; done) | (simp; omega)) _) | (refine BW.trans ?_ (by assumption)))), (by refine ⟨?_, ?_, ?_⟩ <;> simp [go_sem, *])⟩)
  case rest =>
  obtain ⟨bx, rfl, rfl, hB2, Hbx⟩ := hcut
  replace Hba := Hba.bw hB2
  replace Lba := Hba.lt
  replace cba0 := Hba.1
  replace cba1 := Hba.2.1
  replace cba2 := Hba.2.2
  replace Hbb := Hbb.bw hB2
  replace Lbb := Hbb.lt
  replace cbb0 := Hbb.1
  replace cbb1 := Hbb.2.1
  replace cbb2 := Hbb.2.2
  have Lbx := Hbx.lt
  have cbx0 := Hbx.1
  have cbx1 := Hbx.2.1
  have cbx2 := Hbx.2.2
  replace hB2 := hB1.trans hB2
  clear hB1
  go_upto_region 5 with fail
  go_cut [12, 13] (fun p0 e0 wx => ∃ b0, p0 = .pointer (some ⟨b0, 0, none⟩) ∧ e0 = .int .i64 (x) ∧ BW wc wx ∧ H3 wx b0 (t) (m) s)
  case first =>
    go_wp2_with (first | (go_at_call 20; refine (hS.ref _).mono ?_; rintro e v1 ⟨rfl, hb⟩; have hz := hb.size; (try simp at hz); have hc0 := fun o => hb.cells ba o (by first | omega | (simp; done) | (simp; omega)); have hc1 := fun o => hb.cells bb o (by first | omega | (simp; done) | (simp; omega)); have hc2 := fun o => hb.cells bx o (by first | omega | (simp; done) | (simp; omega)); have hd00 : ¬ ba = wc.heap.size := (by omega); have he00 : ¬ wc.heap.size = ba := (by omega); have hd01 : ¬ ba = v1.heap.size := (by omega); have he01 : ¬ v1.heap.size = ba := (by omega); have hd10 : ¬ bb = wc.heap.size := (by omega); have he10 : ¬ wc.heap.size = bb := (by omega); have hd11 : ¬ bb = v1.heap.size := (by omega); have he11 : ¬ v1.heap.size = bb := (by omega); have hd20 : ¬ bx = wc.heap.size := (by omega); have he20 : ¬ wc.heap.size = bx := (by omega); have hd21 : ¬ bx = v1.heap.size := (by omega); have he21 : ¬ v1.heap.size = bx := (by omega); (try have hq0 := fun o => hb.cells (wc.heap.size) o (by first | omega | (simp; done) | (simp; omega))); (try have hr0 := fun o => hb.froz (wc.heap.size) o (by first | omega | (simp; done) | (simp; omega)))))
    all_goals (go_meet; case rel => exact ⟨_, rfl, rfl, (by repeat (first | exact BW.refl _ | assumption | apply BW.alloc | apply BW.drew | (refine BW.setCell ?_ (by first | omega | (simp; done) | (simp; omega)) _) | (refine BW.trans ?_ (by assumption)))), (by refine ⟨?_, ?_, ?_⟩ <;> simp [go_sem, *])⟩)
  case rest =>
  obtain ⟨bz, rfl, rfl, hB3, Hbz⟩ := hcut
  replace Hba := Hba.bw hB3
  replace Lba := Hba.lt
  replace cba0 := Hba.1
  replace cba1 := Hba.2.1
  replace cba2 := Hba.2.2
  replace Hbb := Hbb.bw hB3
  replace Lbb := Hbb.lt
  replace cbb0 := Hbb.1
  replace cbb1 := Hbb.2.1
  replace cbb2 := Hbb.2.2
  replace Hbx := Hbx.bw hB3
  replace Lbx := Hbx.lt
  replace cbx0 := Hbx.1
  replace cbx1 := Hbx.2.1
  replace cbx2 := Hbx.2.2
  have Lbz := Hbz.lt
  have cbz0 := Hbz.1
  have cbz1 := Hbz.2.1
  have cbz2 := Hbz.2.2
  replace hB3 := hB2.trans hB3
  clear hB2
  have ht0 := hS.tag
  have hts := hS.siz
  have hmay := hS.may
  go_wp2_with (first | (go_at_call 12; refine (may_any _ _ _ (by assumption) (by assumption) _).mono ?_; rintro e v1 ⟨rfl, hb⟩; have hz := hb.size; (try simp at hz); have hc0 := fun o => hb.cells ba o (by first | omega | (simp; done) | (simp; omega)); have hc1 := fun o => hb.cells bb o (by first | omega | (simp; done) | (simp; omega)); have hc2 := fun o => hb.cells bx o (by first | omega | (simp; done) | (simp; omega)); have hc3 := fun o => hb.cells bz o (by first | omega | (simp; done) | (simp; omega)); have hd00 : ¬ ba = wc.heap.size := (by omega); have he00 : ¬ wc.heap.size = ba := (by omega); have hd01 : ¬ ba = v1.heap.size := (by omega); have he01 : ¬ v1.heap.size = ba := (by omega); have hd10 : ¬ bb = wc.heap.size := (by omega); have he10 : ¬ wc.heap.size = bb := (by omega); have hd11 : ¬ bb = v1.heap.size := (by omega); have he11 : ¬ v1.heap.size = bb := (by omega); have hd20 : ¬ bx = wc.heap.size := (by omega); have he20 : ¬ wc.heap.size = bx := (by omega); have hd21 : ¬ bx = v1.heap.size := (by omega); have he21 : ¬ v1.heap.size = bx := (by omega); have hd30 : ¬ bz = wc.heap.size := (by omega); have he30 : ¬ wc.heap.size = bz := (by omega); have hd31 : ¬ bz = v1.heap.size := (by omega); have he31 : ¬ v1.heap.size = bz := (by omega); (try have hq0 := fun o => hb.cells (wc.heap.size) o (by first | omega | (simp; done) | (simp; omega))); (try have hr0 := fun o => hb.froz (wc.heap.size) o (by first | omega | (simp; done) | (simp; omega)))) | (go_at_call 13; refine (awake_any _).mono ?_; rintro e v2 ⟨rfl, hb⟩; have hz := hb.size; (try simp at hz); have hc0 := fun o => hb.cells ba o (by first | omega | (simp; done) | (simp; omega)); have hc1 := fun o => hb.cells bb o (by first | omega | (simp; done) | (simp; omega)); have hc2 := fun o => hb.cells bx o (by first | omega | (simp; done) | (simp; omega)); have hc3 := fun o => hb.cells bz o (by first | omega | (simp; done) | (simp; omega)); have hd00 : ¬ ba = wc.heap.size := (by omega); have he00 : ¬ wc.heap.size = ba := (by omega); have hd01 : ¬ ba = v2.heap.size := (by omega); have he01 : ¬ v2.heap.size = ba := (by omega); have hd10 : ¬ bb = wc.heap.size := (by omega); have he10 : ¬ wc.heap.size = bb := (by omega); have hd11 : ¬ bb = v2.heap.size := (by omega); have he11 : ¬ v2.heap.size = bb := (by omega); have hd20 : ¬ bx = wc.heap.size := (by omega); have he20 : ¬ wc.heap.size = bx := (by omega); have hd21 : ¬ bx = v2.heap.size := (by omega); have he21 : ¬ v2.heap.size = bx := (by omega); have hd30 : ¬ bz = wc.heap.size := (by omega); have he30 : ¬ wc.heap.size = bz := (by omega); have hd31 : ¬ bz = v2.heap.size := (by omega); have he31 : ¬ v2.heap.size = bz := (by omega); (try have hq0 := fun o => hb.cells (wc.heap.size) o (by first | omega | (simp; done) | (simp; omega))); (try have hr0 := fun o => hb.froz (wc.heap.size) o (by first | omega | (simp; done) | (simp; omega))); (try have hq1 := fun o => hb.cells (v1.heap.size) o (by first | omega | (simp; done) | (simp; omega))); (try have hr1 := fun o => hb.froz (v1.heap.size) o (by first | omega | (simp; done) | (simp; omega)))))
  go_ret
  exact ⟨rfl, (by repeat (first | exact BW.refl _ | assumption | apply BW.alloc | apply BW.drew | (refine BW.setCell ?_ (by first | omega | (simp; done) | (simp; omega)) _) | (refine BW.trans ?_ (by assumption))))⟩
end Go.Proofs.Ytbiahgjlgojhdaa
