import Derived.Test.YtbiahgjlgojhdaaB28
import Derived.Deep.RegionWith
import Derived.Deep.RegionHeld3
import Derived.Deep.DeepCutAuto
namespace Go.Proofs.Ytbiahgjlgojhdaa
open Go.RowKit
set_option linter.unusedVariables false
theorem if_wanted {c : Bool} {A B : Prop} (hw : c = true) (h : A) : if c = true then A else B := by rw [if_pos hw]; exact h
set_option maxRecDepth 100000 in
set_option maxHeartbeats 4000000 in
theorem cats_in (s t u : ByteArray) (hs : s.size ≤ 1000) (ht : t.size ≤ 1000) (hu : u.size ≤ 1000) (a : Nat) (hza : a < (s ++ t ++ u).size) (ha' : (a : Int) < (s.size : Int) + (t.size : Int) + (u.size : Int)) (c : UInt8) (Hc : Hid ((s ++ t ++ u)[a] = c)) (w : World) :
    Calls Try.prog 10 #[.string s, .string t, .string u, .int .i64 ((a : Int))] w fun e w' => e = .returned (.bool true) ∧ BW w w' := by
  have hst : (s ++ t).size ≤ 3000 := by rw [ByteArray.size_append]; omega
  go_enter Try.func10, Try.ntmps10
  go_upto_region 3 with fail
  go_cut [9, 10] (fun p0 e0 wx => ∃ b0, p0 = .pointer (some ⟨b0, 0, none⟩) ∧ e0 = .int .i64 (0) ∧ BW w wx ∧ H3 wx b0 (3) (0) (s ++ t))
  case first =>
    go_wp2_with (first | (go_at_call 24; refine (text_any _ _).mono ?_; rintro e v1 ⟨rfl, hb⟩; have hz := hb.size; (try simp at hz); (try have hq0 := fun o => hb.cells (w.heap.size) o (by first | omega | (simp; done) | (simp; omega))); (try have hr0 := fun o => hb.froz (w.heap.size) o (by first | omega | (simp; done) | (simp; omega)))) | (go_at_call_of 19 (Value.string ⟨#[99, 97, 116]⟩); refine (cat_ok _ _ (by omega) (by omega) _).mono ?_; rintro e v2 ⟨rfl, hb⟩; have hz := hb.size; (try simp at hz); (try have hq0 := fun o => hb.cells (w.heap.size) o (by first | omega | (simp; done) | (simp; omega))); (try have hr0 := fun o => hb.froz (w.heap.size) o (by first | omega | (simp; done) | (simp; omega))); (try have hq1 := fun o => hb.cells (v1.heap.size) o (by first | omega | (simp; done) | (simp; omega))); (try have hr1 := fun o => hb.froz (v1.heap.size) o (by first | omega | (simp; done) | (simp; omega)))))
    all_goals (go_meet; case rel => exact ⟨_, rfl, rfl, (by repeat (first | exact BW.refl _ | assumption | apply BW.alloc | apply BW.drew | (refine BW.setCell ?_ (by first | omega | (simp; done) | (simp; omega)) _) | (refine BW.trans ?_ (by assumption)))), (by refine ⟨?_, ?_, ?_⟩ <;> simp [go_sem, *])⟩)
  case rest =>
  obtain ⟨ba, rfl, rfl, hB0, Hba⟩ := hcut
  have Lba := Hba.lt
  have cba0 := Hba.1
  have cba1 := Hba.2.1
  have cba2 := Hba.2.2
  go_upto_region 4 with fail
  go_cut [11, 12] (fun p0 e0 wx => ∃ b0, p0 = .pointer (some ⟨b0, 0, none⟩) ∧ e0 = .int .i64 (0) ∧ BW wc wx ∧ H3 wx b0 (3) (0) (s ++ t ++ u))
  case first =>
    go_region_held3 (fun w' => w'.cell? ⟨ba, 0, none⟩ = some (.int .u8 (3)) ∧ w'.cell? ⟨ba, 1, none⟩ = some (.int .i64 (0)) ∧ w'.cell? ⟨ba, 2, none⟩ = some (.string (s ++ t))) (go_keep) (first | (go_at_call 24; refine (text_any _ _).mono ?_; rintro e v1 ⟨rfl, hb⟩; have hz := hb.size; (try simp at hz); have hc0 := fun o => hb.cells ba o (by first | omega | (simp; done) | (simp; omega)); have hd00 : ¬ ba = wc.heap.size := (by omega); have he00 : ¬ wc.heap.size = ba := (by omega); have hd01 : ¬ ba = v1.heap.size := (by omega); have he01 : ¬ v1.heap.size = ba := (by omega); (try have hq0 := fun o => hb.cells (wc.heap.size) o (by first | omega | (simp; done) | (simp; omega))); (try have hr0 := fun o => hb.froz (wc.heap.size) o (by first | omega | (simp; done) | (simp; omega)))) | (go_at_call_of 19 (Value.string ⟨#[99, 97, 116]⟩); refine (cat_ok _ _ hst (by omega) _).mono ?_; rintro e v2 ⟨rfl, hb⟩; have hz := hb.size; (try simp at hz); have hc0 := fun o => hb.cells ba o (by first | omega | (simp; done) | (simp; omega)); have hd00 : ¬ ba = wc.heap.size := (by omega); have he00 : ¬ wc.heap.size = ba := (by omega); have hd01 : ¬ ba = v2.heap.size := (by omega); have he01 : ¬ v2.heap.size = ba := (by omega); (try have hq0 := fun o => hb.cells (wc.heap.size) o (by first | omega | (simp; done) | (simp; omega))); (try have hr0 := fun o => hb.froz (wc.heap.size) o (by first | omega | (simp; done) | (simp; omega))); (try have hq1 := fun o => hb.cells (v1.heap.size) o (by first | omega | (simp; done) | (simp; omega))); (try have hr1 := fun o => hb.froz (v1.heap.size) o (by first | omega | (simp; done) | (simp; omega)))))
    all_goals go_wp2_with fail
    all_goals (go_meet; case rel => exact ⟨_, rfl, rfl, (by repeat (first | exact BW.refl _ | assumption | apply BW.alloc | apply BW.drew | (refine BW.setCell ?_ (by first | omega | (simp; done) | (simp; omega)) _) | (refine BW.trans ?_ (by assumption)))), (by refine ⟨?_, ?_, ?_⟩ <;> simp [go_sem, *])⟩)
  case rest =>
  obtain ⟨bb, rfl, rfl, hB1, Hbb⟩ := hcut
  replace Hba := Hba.bw hB1
  replace Lba := Hba.lt
  replace cba0 := Hba.1
  replace cba1 := Hba.2.1
  replace cba2 := Hba.2.2
  have Lbb := Hbb.lt
  have cbb0 := Hbb.1
  have cbb1 := Hbb.2.1
  have cbb2 := Hbb.2.2
  replace hB1 := hB0.trans hB1
  clear hB0
  clear Hba Lba cba0 cba1 cba2
  go_upto_region 5 with fail
  go_cut [13, 14] (fun p0 e0 wx => ∃ b0, p0 = .pointer (some ⟨b0, 0, none⟩) ∧ e0 = .int .i64 (0) ∧ BW wc wx ∧ H3 wx b0 (3) (0) (t ++ u))
  case first =>
    go_wp2_with (first | (go_at_call 24; refine (text_any _ _).mono ?_; rintro e v1 ⟨rfl, hb⟩; have hz := hb.size; (try simp at hz); have hc0 := fun o => hb.cells bb o (by first | omega | (simp; done) | (simp; omega)); have hd00 : ¬ bb = wc.heap.size := (by omega); have he00 : ¬ wc.heap.size = bb := (by omega); have hd01 : ¬ bb = v1.heap.size := (by omega); have he01 : ¬ v1.heap.size = bb := (by omega); (try have hq0 := fun o => hb.cells (wc.heap.size) o (by first | omega | (simp; done) | (simp; omega))); (try have hr0 := fun o => hb.froz (wc.heap.size) o (by first | omega | (simp; done) | (simp; omega)))) | (go_at_call_of 19 (Value.string ⟨#[99, 97, 116]⟩); refine (cat_ok _ _ (by omega) (by omega) _).mono ?_; rintro e v2 ⟨rfl, hb⟩; have hz := hb.size; (try simp at hz); have hc0 := fun o => hb.cells bb o (by first | omega | (simp; done) | (simp; omega)); have hd00 : ¬ bb = wc.heap.size := (by omega); have he00 : ¬ wc.heap.size = bb := (by omega); have hd01 : ¬ bb = v2.heap.size := (by omega); have he01 : ¬ v2.heap.size = bb := (by omega); (try have hq0 := fun o => hb.cells (wc.heap.size) o (by first | omega | (simp; done) | (simp; omega))); (try have hr0 := fun o => hb.froz (wc.heap.size) o (by first | omega | (simp; done) | (simp; omega))); (try have hq1 := fun o => hb.cells (v1.heap.size) o (by first | omega | (simp; done) | (simp; omega))); (try have hr1 := fun o => hb.froz (v1.heap.size) o (by first | omega | (simp; done) | (simp; omega)))))
    all_goals (go_meet; case rel => exact ⟨_, rfl, rfl, (by repeat (first | exact BW.refl _ | assumption | apply BW.alloc | apply BW.drew | (refine BW.setCell ?_ (by first | omega | (simp; done) | (simp; omega)) _) | (refine BW.trans ?_ (by assumption)))), (by refine ⟨?_, ?_, ?_⟩ <;> simp [go_sem, *])⟩)
  case rest =>
  obtain ⟨bc, rfl, rfl, hB2, Hbc⟩ := hcut
  replace Hbb := Hbb.bw hB2
  replace Lbb := Hbb.lt
  replace cbb0 := Hbb.1
  replace cbb1 := Hbb.2.1
  replace cbb2 := Hbb.2.2
  have Lbc := Hbc.lt
  have cbc0 := Hbc.1
  have cbc1 := Hbc.2.1
  have cbc2 := Hbc.2.2
  replace hB2 := hB1.trans hB2
  clear hB1
  go_upto_region 6 with fail
  go_cut [15, 16] (fun p0 e0 wx => ∃ b0, p0 = .pointer (some ⟨b0, 0, none⟩) ∧ e0 = .int .i64 (0) ∧ BW wc wx ∧ H3 wx b0 (3) (0) (s ++ t ++ u))
  case first =>
    go_region_held3 (fun w' => w'.cell? ⟨bc, 0, none⟩ = some (.int .u8 (3)) ∧ w'.cell? ⟨bc, 1, none⟩ = some (.int .i64 (0)) ∧ w'.cell? ⟨bc, 2, none⟩ = some (.string (t ++ u))) (go_keep) (first | (go_at_call 24; refine (text_any _ _).mono ?_; rintro e v1 ⟨rfl, hb⟩; have hz := hb.size; (try simp at hz); have hc0 := fun o => hb.cells bb o (by first | omega | (simp; done) | (simp; omega)); have hc1 := fun o => hb.cells bc o (by first | omega | (simp; done) | (simp; omega)); have hd00 : ¬ bb = wc.heap.size := (by omega); have he00 : ¬ wc.heap.size = bb := (by omega); have hd01 : ¬ bb = v1.heap.size := (by omega); have he01 : ¬ v1.heap.size = bb := (by omega); have hd10 : ¬ bc = wc.heap.size := (by omega); have he10 : ¬ wc.heap.size = bc := (by omega); have hd11 : ¬ bc = v1.heap.size := (by omega); have he11 : ¬ v1.heap.size = bc := (by omega); (try have hq0 := fun o => hb.cells (wc.heap.size) o (by first | omega | (simp; done) | (simp; omega))); (try have hr0 := fun o => hb.froz (wc.heap.size) o (by first | omega | (simp; done) | (simp; omega)))) | (go_at_call_of 19 (Value.string ⟨#[99, 97, 116]⟩); refine (cat_r _ _ _ hs ht hu _).mono ?_; rintro e v2 ⟨rfl, hb⟩; have hz := hb.size; (try simp at hz); have hc0 := fun o => hb.cells bb o (by first | omega | (simp; done) | (simp; omega)); have hc1 := fun o => hb.cells bc o (by first | omega | (simp; done) | (simp; omega)); have hd00 : ¬ bb = wc.heap.size := (by omega); have he00 : ¬ wc.heap.size = bb := (by omega); have hd01 : ¬ bb = v2.heap.size := (by omega); have he01 : ¬ v2.heap.size = bb := (by omega); have hd10 : ¬ bc = wc.heap.size := (by omega); have he10 : ¬ wc.heap.size = bc := (by omega); have hd11 : ¬ bc = v2.heap.size := (by omega); have he11 : ¬ v2.heap.size = bc := (by omega); (try have hq0 := fun o => hb.cells (wc.heap.size) o (by first | omega | (simp; done) | (simp; omega))); (try have hr0 := fun o => hb.froz (wc.heap.size) o (by first | omega | (simp; done) | (simp; omega))); (try have hq1 := fun o => hb.cells (v1.heap.size) o (by first | omega | (simp; done) | (simp; omega))); (try have hr1 := fun o => hb.froz (v1.heap.size) o (by first | omega | (simp; done) | (simp; omega)))))
    all_goals go_wp2_with fail
    all_goals (go_meet; case rel => exact ⟨_, rfl, rfl, (by repeat (first | exact BW.refl _ | assumption | apply BW.alloc | apply BW.drew | (refine BW.setCell ?_ (by first | omega | (simp; done) | (simp; omega)) _) | (refine BW.trans ?_ (by assumption)))), (by refine ⟨?_, ?_, ?_⟩ <;> simp [go_sem, *])⟩)
  case rest =>
  obtain ⟨bd, rfl, rfl, hB3, Hbd⟩ := hcut
  replace Hbb := Hbb.bw hB3
  replace Lbb := Hbb.lt
  replace cbb0 := Hbb.1
  replace cbb1 := Hbb.2.1
  replace cbb2 := Hbb.2.2
  replace Hbc := Hbc.bw hB3
  replace Lbc := Hbc.lt
  replace cbc0 := Hbc.1
  replace cbc1 := Hbc.2.1
  replace cbc2 := Hbc.2.2
  have Lbd := Hbd.lt
  have cbd0 := Hbd.1
  have cbd1 := Hbd.2.1
  have cbd2 := Hbd.2.2
  replace hB3 := hB2.trans hB3
  clear hB2
  clear Hbc Lbc cbc0 cbc1 cbc2
  go_upto_region 7 with fail
  go_cut [17, 18] (fun p0 e0 wx => ∃ b0, p0 = .pointer (some ⟨b0, 0, none⟩) ∧ e0 = .int .i64 (0) ∧ BW wc wx ∧ H3 wx b0 (1) ((s.size : Int) + (t.size : Int) + (u.size : Int)) ⟨#[]⟩)
  case first =>
    go_wp2_with (first | (go_at_call 16; refine (len_ok _ _ _ hs ht hu _).mono ?_; rintro e v1 ⟨rfl, hb⟩; have hz := hb.size; (try simp at hz); have hc0 := fun o => hb.cells bb o (by first | omega | (simp; done) | (simp; omega)); have hc1 := fun o => hb.cells bd o (by first | omega | (simp; done) | (simp; omega)); have hd00 : ¬ bb = wc.heap.size := (by omega); have he00 : ¬ wc.heap.size = bb := (by omega); have hd01 : ¬ bb = v1.heap.size := (by omega); have he01 : ¬ v1.heap.size = bb := (by omega); have hd10 : ¬ bd = wc.heap.size := (by omega); have he10 : ¬ wc.heap.size = bd := (by omega); have hd11 : ¬ bd = v1.heap.size := (by omega); have he11 : ¬ v1.heap.size = bd := (by omega); (try have hq0 := fun o => hb.cells (wc.heap.size) o (by first | omega | (simp; done) | (simp; omega))); (try have hr0 := fun o => hb.froz (wc.heap.size) o (by first | omega | (simp; done) | (simp; omega)))))
    all_goals (go_meet; case rel => exact ⟨_, rfl, rfl, (by repeat (first | exact BW.refl _ | assumption | apply BW.alloc | apply BW.drew | (refine BW.setCell ?_ (by first | omega | (simp; done) | (simp; omega)) _) | (refine BW.trans ?_ (by assumption)))), (by refine ⟨?_, ?_, ?_⟩ <;> simp [go_sem, *])⟩)
  case rest =>
  obtain ⟨bn, rfl, rfl, hB4, Hbn⟩ := hcut
  replace Hbb := Hbb.bw hB4
  replace Lbb := Hbb.lt
  replace cbb0 := Hbb.1
  replace cbb1 := Hbb.2.1
  replace cbb2 := Hbb.2.2
  replace Hbd := Hbd.bw hB4
  replace Lbd := Hbd.lt
  replace cbd0 := Hbd.1
  replace cbd1 := Hbd.2.1
  replace cbd2 := Hbd.2.2
  have Lbn := Hbn.lt
  have cbn0 := Hbn.1
  have cbn1 := Hbn.2.1
  have cbn2 := Hbn.2.2
  replace hB4 := hB3.trans hB4
  clear hB3
  go_upto_region 10 with fail
  clear Hbd Lbd cbd0 cbd1 cbd2
  go_cut [19, 20] (fun p0 e0 wx => ∃ b0, p0 = .pointer (some ⟨b0, 0, none⟩) ∧ e0 = .int .i64 (0) ∧ BW wc wx ∧ H3 wx b0 (1) ((c.toNat : Int)) ⟨#[]⟩)
  case first =>
    go_region_held3 (fun w' => w'.cell? ⟨bb, 0, none⟩ = some (.int .u8 (3)) ∧ w'.cell? ⟨bb, 1, none⟩ = some (.int .i64 (0)) ∧ w'.cell? ⟨bb, 2, none⟩ = some (.string (s ++ t ++ u))) (go_keep) (first | (go_at_call 21; refine (of_any _ _).mono ?_; rintro e v1 ⟨rfl, hb⟩; have hz := hb.size; (try simp at hz); have hc0 := fun o => hb.cells bb o (by first | omega | (simp; done) | (simp; omega)); have hc1 := fun o => hb.cells bn o (by first | omega | (simp; done) | (simp; omega)); have hd00 : ¬ bb = wc.heap.size := (by omega); have he00 : ¬ wc.heap.size = bb := (by omega); have hd01 : ¬ bb = v1.heap.size := (by omega); have he01 : ¬ v1.heap.size = bb := (by omega); have hd10 : ¬ bn = wc.heap.size := (by omega); have he10 : ¬ wc.heap.size = bn := (by omega); have hd11 : ¬ bn = v1.heap.size := (by omega); have he11 : ¬ v1.heap.size = bn := (by omega); (try have hq0 := fun o => hb.cells (wc.heap.size) o (by first | omega | (simp; done) | (simp; omega))); (try have hr0 := fun o => hb.froz (wc.heap.size) o (by first | omega | (simp; done) | (simp; omega)))) | (go_at_call_of 19 (Value.string ⟨#[97, 116]⟩); refine (at_in (s ++ t ++ u) (by rw [ByteArray.size_append, ByteArray.size_append]; omega) a hza c Hc.out _).mono ?_; rintro e v2 ⟨rfl, hb⟩; have hz := hb.size; (try simp at hz); have hc0 := fun o => hb.cells bb o (by first | omega | (simp; done) | (simp; omega)); have hc1 := fun o => hb.cells bn o (by first | omega | (simp; done) | (simp; omega)); have hd00 : ¬ bb = wc.heap.size := (by omega); have he00 : ¬ wc.heap.size = bb := (by omega); have hd01 : ¬ bb = v2.heap.size := (by omega); have he01 : ¬ v2.heap.size = bb := (by omega); have hd10 : ¬ bn = wc.heap.size := (by omega); have he10 : ¬ wc.heap.size = bn := (by omega); have hd11 : ¬ bn = v2.heap.size := (by omega); have he11 : ¬ v2.heap.size = bn := (by omega); (try have hq0 := fun o => hb.cells (wc.heap.size) o (by first | omega | (simp; done) | (simp; omega))); (try have hr0 := fun o => hb.froz (wc.heap.size) o (by first | omega | (simp; done) | (simp; omega))); (try have hq1 := fun o => hb.cells (v1.heap.size) o (by first | omega | (simp; done) | (simp; omega))); (try have hr1 := fun o => hb.froz (v1.heap.size) o (by first | omega | (simp; done) | (simp; omega)))))
    all_goals go_wp2_with fail
    all_goals (go_meet; case rel => exact ⟨_, rfl, rfl, (by repeat (first | exact BW.refl _ | assumption | apply BW.alloc | apply BW.drew | (refine BW.setCell ?_ (by first | omega | (simp; done) | (simp; omega)) _) | (refine BW.trans ?_ (by assumption)))), (by refine ⟨?_, ?_, ?_⟩ <;> simp [go_sem, *])⟩)
  case rest =>
  obtain ⟨bx, rfl, rfl, hB5, Hbx⟩ := hcut
  replace Hbb := Hbb.bw hB5
  replace Lbb := Hbb.lt
  replace cbb0 := Hbb.1
  replace cbb1 := Hbb.2.1
  replace cbb2 := Hbb.2.2
  replace Hbn := Hbn.bw hB5
  replace Lbn := Hbn.lt
  replace cbn0 := Hbn.1
  replace cbn1 := Hbn.2.1
  replace cbn2 := Hbn.2.2
  have Lbx := Hbx.lt
  have cbx0 := Hbx.1
  have cbx1 := Hbx.2.1
  have cbx2 := Hbx.2.2
  replace hB5 := hB4.trans hB5
  clear hB4
  clear Hbb Lbb cbb0 cbb1 cbb2
  go_upto_region 11 with fail
  go_cut [112] (fun p wx => p = .bool false ∧ wx = wc)
  case first =>
    go_wp2_with fail
    all_goals (go_meet; case rel => exact ⟨by first | rfl | (congr 1; simp; omega), rfl⟩)
  case rest =>
  obtain ⟨rfl, rfl⟩ := hcut
  obtain ⟨q, hq⟩ : ∃ q, q = s ++ t ++ u := ⟨_, rfl⟩
  have hadd1 := fun wz => run_string_add_sum (P := Try.prog) (w := wz) s t (by omega)
  have hadd2 : ∀ wz, (Op.stringOp .add (s ++ t) u).run Try.prog wz = .ok (.string q) wz := fun wz => by rw [hq]; exact run_string_add_sum (w := wz) (s ++ t) u (by omega)
  have hqs : a < q.size := by rw [hq]; exact hza
  have hcc : q[a] = c := by have := Hc.out; subst hq; exact this
  have hidx := fun wz => index_at q a hqs c hcc wz
  have hwb := wrap64_byte c
  have hwc := c.toNat_lt
  have hwb2 : IntKind.i64.wrap (c.toNat : Int) = (c.toNat : Int) := by rw [IntKind.wrap_i64]; omega
  have hbe : ((c.toNat : Int) == (c.toNat : Int)) = true := by simp
  have hq0 : (a : Int) < q.size := by omega
  clear Hc hq hcc
  clear hs ht hu hst hza ha'
  clear Hbn Lbn cbn0 cbn1 cbn2 cbx0 cbx2 Hbx
  go_upto_region 13 with fail
  go_region_held3 (fun w' => w'.cell? ⟨bx, 1, none⟩ = some (.int .i64 (c.toNat : Int))) (go_keep) (first | (refine if_wanted (by kernel_rfl) ?_; go_step; refine (awake_any _).mono ?_; rintro e v1 ⟨rfl, hb⟩; have hz := hb.size; have hc1 := fun o => hb.cells bx o (by first | omega | (simp; done) | (simp; omega)); (try dsimp only)))
  all_goals go_wp2_with fail
  all_goals (go_ret; exact ⟨rfl, (by repeat (first | exact BW.refl _ | assumption | apply BW.alloc | apply BW.drew | (refine BW.setCell ?_ (by first | omega | (simp; done) | (simp; omega)) _) | (refine BW.trans ?_ (by assumption))))⟩)
theorem cats_walk (s t u : ByteArray) (a : Int) (m1 : s.size ≤ maxLen) (m2 : t.size ≤ maxLen) (m3 : u.size ≤ maxLen) (w : World) :
    Calls Try.prog 10 #[.string s, .string t, .string u, .int .i64 a] w fun e w' => e = .returned (.bool true) ∧ BW w w' := by
  by_cases h1 : 1000 < s.size
  · exact cats_l1 s t u a m1 m2 m3 h1 w
  · by_cases h2 : 1000 < t.size
    · exact cats_l2 s t u a m1 m2 m3 (by omega) h2 w
    · by_cases h3 : 1000 < u.size
      · exact cats_l3 s t u a m1 m2 m3 (by omega) (by omega) h3 w
      · have z : (s ++ t ++ u).size = s.size + t.size + u.size := by rw [ByteArray.size_append, ByteArray.size_append]
        by_cases h4 : a < 0
        · exact cats_lo s t u (by omega) (by omega) (by omega) a h4 w
        · obtain ⟨x, rfl⟩ := Int.eq_ofNat_of_zero_le (show 0 ≤ a by omega)
          by_cases h5 : x < s.size + t.size + u.size
          · exact cats_in s t u (by omega) (by omega) (by omega) x (by omega) (by omega) _ (show _ = _ from rfl) w
          · exact cats_hi s t u (by omega) (by omega) (by omega) x (by omega) (by omega) w
end Go.Proofs.Ytbiahgjlgojhdaa
