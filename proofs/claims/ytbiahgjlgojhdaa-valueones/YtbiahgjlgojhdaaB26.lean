import Derived.Test.YtbiahgjlgojhdaaB5
import Derived.Test.YtbiahgjlgojhdaaB8
import Derived.Test.YtbiahgjlgojhdaaB22
import Derived.Test.YtbiahgjlgojhdaaB24
import Derived.Test.YtbiahgjlgojhdaaB25
import Derived.Deep.RegionWith
import Derived.Deep.RegionHeld3
import Derived.Deep.DeepCutAuto
namespace Go.Proofs.Ytbiahgjlgojhdaa
open Go.RowKit
set_option linter.unusedVariables false
theorem ne_forms {s : ByteArray} (h : s.toList.isEmpty = false) : (¬ s.toList = []) ∧ (s.toList == []) = false := by
  have h1 : ¬ s.toList = [] := fun e => by rw [e] at h; cases h
  exact ⟨h1, beq_eq_false_iff_ne.2 h1⟩
theorem vmay_any (t n : Int) (s : ByteArray) (t0 : 0 ≤ t) (hs : s.size ≤ maxLen) (w : World) :
    Calls Try.prog 11 #[V t n s] w fun e w' => e = .returned (.bool (mayB t n s)) ∧ BW w w' := by
  by_cases h7 : 7 < t
  · have e : mayB t n s = false := by simp [mayB, h7]
    rw [e]; exact vm_big t n s h7 w
  · by_cases h3 : t = 3
    · subst h3
      by_cases hn : n = 0
      · subst hn
        have e : mayB 3 0 s = decide ((s.size : Int) ≤ 65536) := by
          by_cases hl : 65536 < s.size
          · simp [mayB, hl]; omega
          · simp [mayB, hl]; omega
        rw [e]; exact vm_3y s (by unfold maxLen at hs; omega) w
      · have e : mayB 3 n s = false := by simp [mayB, hn]
        rw [e]; exact vm_3n n s (beq_f hn) w
    · cases he : s.toList.isEmpty with
      | false =>
        have e : mayB t n s = false := by simp [mayB, h7, h3, he]
        obtain ⟨g1, g2⟩ := ne_forms he
        rw [e]
        obtain rfl | rfl | rfl | rfl | rfl | rfl | rfl : t = 0 ∨ t = 1 ∨ t = 2 ∨ t = 4 ∨ t = 5 ∨ t = 6 ∨ t = 7 := by omega
        · exact vm_0s n s he g1 g2 w
        · exact vm_1s n s he g1 g2 w
        · exact vm_2s n s he g1 g2 w
        · exact vm_4s n s he g1 g2 w
        · exact vm_5s n s he g1 g2 w
        · exact vm_6s n s he g1 g2 w
        · exact vm_7s n s he g1 g2 w
      | true =>
        obtain rfl := empty_of he
        obtain rfl | rfl | rfl | rfl | rfl | rfl | rfl : t = 0 ∨ t = 1 ∨ t = 2 ∨ t = 4 ∨ t = 5 ∨ t = 6 ∨ t = 7 := by omega
        · by_cases hn : n = 0
          · subst hn; rw [may_unit]; exact vm_0y w
          · have e : mayB 0 n ⟨#[]⟩ = false := by simp [mayB, nilS, hn]
            rw [e]; exact vm_0n n (beq_f hn) w
        · rw [may_int]; exact vm_1y n w
        · by_cases hn : n = 0
          · subst hn; rw [show mayB 2 0 ⟨#[]⟩ = true from may_bool false]; exact vm_2a w
          · by_cases hn1 : n = 1
            · subst hn1; rw [show mayB 2 1 ⟨#[]⟩ = true from may_bool true]; exact vm_2b w
            · have e : mayB 2 n ⟨#[]⟩ = false := by simp [mayB, nilS, hn, hn1]
              rw [e]; exact vm_2n n (beq_f hn) (beq_f hn1) w
        · rw [show mayB 4 n ⟨#[]⟩ = decide (0 ≤ n) by simp [mayB, nilS]]; exact vm_4y n w
        · rw [show mayB 5 n ⟨#[]⟩ = decide (0 ≤ n) by simp [mayB, nilS]]; exact vm_5y n w
        · rw [show mayB 6 n ⟨#[]⟩ = decide (0 ≤ n) by simp [mayB, nilS]]; exact vm_6y n w
        · rw [show mayB 7 n ⟨#[]⟩ = decide (0 ≤ n) by simp [mayB, nilS]]; exact vm_7y n w
/-- At a word and a value the program's answer is the document's, and may be. -/
structure Same1 (wd : ByteArray) (ta a : Int) (sa : ByteArray) (t n x : Int) (s : ByteArray) : Prop where
  val : ∀ w : World, Calls Try.prog 16 #[.string wd, V ta a sa] w fun e w' => e = .returned (.tuple #[V t n s, .int .i64 x]) ∧ BW w w'
  ref : ∀ w : World, Calls Try.prog 17 #[.string wd, V ta a sa] w fun e w' => e = .returned (.tuple #[V t n s, .int .i64 x]) ∧ BW w w'
  may : mayB t n s = true
  tag : 0 ≤ t
  siz : s.size ≤ maxLen
theorem one_err {wd : ByteArray} {ta a : Int} {sa : ByteArray} {x : Int}
    (v : ∀ w : World, Calls Try.prog 16 #[.string wd, V ta a sa] w fun e w' => e = .returned (.tuple #[V 0 0 ⟨#[]⟩, .int .i64 x]) ∧ BW w w')
    (r : ∀ w : World, Calls Try.prog 17 #[.string wd, V ta a sa] w fun e w' => e = .returned (.tuple #[V 0 0 ⟨#[]⟩, .int .i64 x]) ∧ BW w w') :
    ∃ t n x s, Same1 wd ta a sa t n x s := ⟨0, 0, x, ⟨#[]⟩, v, r, may_unit, by decide, nil_siz⟩
theorem one_num {wd : ByteArray} {ta a : Int} {sa : ByteArray} {n : Int}
    (v : ∀ w : World, Calls Try.prog 16 #[.string wd, V ta a sa] w fun e w' => e = .returned (.tuple #[V 1 n ⟨#[]⟩, .int .i64 0]) ∧ BW w w')
    (r : ∀ w : World, Calls Try.prog 17 #[.string wd, V ta a sa] w fun e w' => e = .returned (.tuple #[V 1 n ⟨#[]⟩, .int .i64 0]) ∧ BW w w') :
    ∃ t n x s, Same1 wd ta a sa t n x s := ⟨1, n, 0, ⟨#[]⟩, v, r, may_int n, by decide, nil_siz⟩
theorem one_all_neg (t a : Int) (sa : ByteArray) (ra : InR a) : ∃ t' n x s, Same1 ⟨#[110, 101, 103]⟩ t a sa t' n x s := by
  by_cases h : t = 1
  · subst h
    by_cases hl : a = -9223372036854775808
    · exact one_err (fun w => one_neg (fun w => negative_no a sa (diff_out 0 a ⟨by decide, by decide⟩ ra (by unfold InR; omega)) w) w) (fun w => r17_neg_no a sa (beq_t hl) w)
    · exact one_num (fun w => one_neg (fun w => negative_ok a sa (diff_in 0 a ⟨by decide, by decide⟩ ra (by unfold InR at *; omega)) w) w) (fun w => r17_neg_ok a sa (beq_f hl) w)
  · exact one_err (fun w => one_neg (fun w => negative_tag t a sa (bne_t h) w) w) (fun w => r17_neg_tag t a sa (bne_t h) w)
theorem one_all_not (t a : Int) (sa : ByteArray) (hm : mayB t a sa = true) : ∃ t' n x s, Same1 ⟨#[110, 111, 116]⟩ t a sa t' n x s := by
  by_cases h : t = 2
  · obtain ⟨_, _, hs, _, h2⟩ := may_tells hm
    obtain rfl := hs (by omega)
    subst h
    rcases h2 rfl with rfl | rfl
    · exact ⟨2, bN true, 0, ⟨#[]⟩, fun w => one_not (fun w => opposite_0 w) w, fun w => r17_not_ok 0 ⟨#[]⟩ w, may_bool true, by decide, nil_siz⟩
    · exact ⟨2, bN false, 0, ⟨#[]⟩, fun w => one_not (fun w => opposite_1 w) w, fun w => r17_not_ok 1 ⟨#[]⟩ w, may_bool false, by decide, nil_siz⟩
  · exact one_err (fun w => one_not (fun w => opposite_tag t a sa (bne_t h) w) w) (fun w => r17_not_tag t a sa (bne_t h) w)
theorem one_all_len (t a : Int) (sa : ByteArray) (hz : sa.size ≤ 65536) : ∃ t' n x s, Same1 ⟨#[108, 101, 110]⟩ t a sa t' n x s := by
  by_cases h : t = 3
  · subst h
    exact one_num (fun w => one_len (fun w => length_ok a sa hz w) w) (fun w => r17_len_ok a sa (by omega) w)
  · exact one_err (fun w => one_len (fun w => length_tag t a sa (bne_t h) w) w) (fun w => r17_len_tag t a sa (bne_t h) w)
theorem one_all_i8 (t a : Int) (sa : ByteArray) : ∃ t' n x s, Same1 ⟨#[105, 56]⟩ t a sa t' n x s := by
  have hz : Sz ⟨#[105, 56]⟩ a (s8 a) true := fun w => sized_i8 a w
  by_cases h : t = 1
  · subst h
    exact one_num (fun w => one_i8 a (s8 a) sa hz w) (fun w => r17_i8_ok a sa w)
  · exact one_err (fun w => one_i8_tag t a (s8 a) sa hz (bne_t h) w) (fun w => r17_i8_tag t a sa (bne_t h) w)
theorem one_all_i16 (t a : Int) (sa : ByteArray) : ∃ t' n x s, Same1 ⟨#[105, 49, 54]⟩ t a sa t' n x s := by
  have hz : Sz ⟨#[105, 49, 54]⟩ a (s16 a) true := fun w => sized_i16 a w
  by_cases h : t = 1
  · subst h
    exact one_num (fun w => one_i16 a (s16 a) sa hz w) (fun w => r17_i16_ok a sa w)
  · exact one_err (fun w => one_i16_tag t a (s16 a) sa hz (bne_t h) w) (fun w => r17_i16_tag t a sa (bne_t h) w)
theorem one_all_i32 (t a : Int) (sa : ByteArray) : ∃ t' n x s, Same1 ⟨#[105, 51, 50]⟩ t a sa t' n x s := by
  have hz : Sz ⟨#[105, 51, 50]⟩ a (s32 a) true := fun w => sized_i32 a w
  by_cases h : t = 1
  · subst h
    exact one_num (fun w => one_i32 a (s32 a) sa hz w) (fun w => r17_i32_ok a sa w)
  · exact one_err (fun w => one_i32_tag t a (s32 a) sa hz (bne_t h) w) (fun w => r17_i32_tag t a sa (bne_t h) w)
theorem one_all_u8 (t a : Int) (sa : ByteArray) : ∃ t' n x s, Same1 ⟨#[117, 56]⟩ t a sa t' n x s := by
  have hz : Sz ⟨#[117, 56]⟩ a (z8 a) true := fun w => sized_u8 a w
  by_cases h : t = 1
  · subst h
    exact one_num (fun w => one_u8 a (z8 a) sa hz w) (fun w => r17_u8_ok a sa w)
  · exact one_err (fun w => one_u8_tag t a (z8 a) sa hz (bne_t h) w) (fun w => r17_u8_tag t a sa (bne_t h) w)
theorem one_all_u16 (t a : Int) (sa : ByteArray) : ∃ t' n x s, Same1 ⟨#[117, 49, 54]⟩ t a sa t' n x s := by
  have hz : Sz ⟨#[117, 49, 54]⟩ a (z16 a) true := fun w => sized_u16 a w
  by_cases h : t = 1
  · subst h
    exact one_num (fun w => one_u16 a (z16 a) sa hz w) (fun w => r17_u16_ok a sa w)
  · exact one_err (fun w => one_u16_tag t a (z16 a) sa hz (bne_t h) w) (fun w => r17_u16_tag t a sa (bne_t h) w)
theorem one_all_u32 (t a : Int) (sa : ByteArray) : ∃ t' n x s, Same1 ⟨#[117, 51, 50]⟩ t a sa t' n x s := by
  have hz : Sz ⟨#[117, 51, 50]⟩ a (z32 a) true := fun w => sized_u32 a w
  by_cases h : t = 1
  · subst h
    exact one_num (fun w => one_u32 a (z32 a) sa hz w) (fun w => r17_u32_ok a sa w)
  · exact one_err (fun w => one_u32_tag t a (z32 a) sa hz (bne_t h) w) (fun w => r17_u32_tag t a sa (bne_t h) w)
theorem beq_flip {l m : List UInt8} (h : (l == m) = false) : (m == l) = false := by
  rw [beq_eq_false_iff_ne] at h ⊢
  exact fun e => h e.symm
theorem one_all (wd : ByteArray) (t a : Int) (sa : ByteArray) (ra : InR a) (hm : mayB t a sa = true) : ∃ t' n x s, Same1 wd t a sa t' n x s := by
  by_cases h0 : wd = ⟨#[110, 101, 103]⟩
  · subst h0; exact one_all_neg t a sa ra
  by_cases h1 : wd = ⟨#[110, 111, 116]⟩
  · subst h1; exact one_all_not t a sa hm
  by_cases h2 : wd = ⟨#[108, 101, 110]⟩
  · subst h2; exact one_all_len t a sa (may_tells hm).2.1
  by_cases h3 : wd = ⟨#[105, 56]⟩
  · subst h3; exact one_all_i8 t a sa
  by_cases h4 : wd = ⟨#[105, 49, 54]⟩
  · subst h4; exact one_all_i16 t a sa
  by_cases h5 : wd = ⟨#[105, 51, 50]⟩
  · subst h5; exact one_all_i32 t a sa
  by_cases h6 : wd = ⟨#[117, 56]⟩
  · subst h6; exact one_all_u8 t a sa
  by_cases h7 : wd = ⟨#[117, 49, 54]⟩
  · subst h7; exact one_all_u16 t a sa
  by_cases h8 : wd = ⟨#[117, 51, 50]⟩
  · subst h8; exact one_all_u32 t a sa
  have n0 : (wd.toList == [110, 101, 103]) = false := neq_list h0
  have n1 : (wd.toList == [110, 111, 116]) = false := neq_list h1
  have n2 : (wd.toList == [108, 101, 110]) = false := neq_list h2
  have n3 : (wd.toList == [105, 56]) = false := neq_list h3
  have n4 : (wd.toList == [105, 49, 54]) = false := neq_list h4
  have n5 : (wd.toList == [105, 51, 50]) = false := neq_list h5
  have n6 : (wd.toList == [117, 56]) = false := neq_list h6
  have n7 : (wd.toList == [117, 49, 54]) = false := neq_list h7
  have n8 : (wd.toList == [117, 51, 50]) = false := neq_list h8
  exact one_err (fun w => one_none wd t a sa (fun w => sized_no wd a n3 n4 n5 n6 n7 n8 w) n0 n1 n2 w) (fun w => r17_none wd n0 (beq_flip n0) n1 (beq_flip n1) n2 (beq_flip n2) n3 (beq_flip n3) n4 (beq_flip n4) n5 (beq_flip n5) n6 (beq_flip n6) n7 (beq_flip n7) n8 (beq_flip n8) t a sa w)
set_option maxRecDepth 100000 in
set_option maxHeartbeats 400000 in
theorem ones_a (n ta a : Int) (raw sa : ByteArray) (t0 : 0 ≤ ta) (za : sa.size ≤ maxLen) (ha : mayB ta a sa = false) (w : World) :
    Calls Try.prog 3 #[.int .u8 n, .string raw, V ta a sa] w fun e w' => e = .returned (.bool true) ∧ BW w w' := by
  go_enter Try.func3, Try.ntmps3
  go_upto_region 1 with fail
  go_cut [5, 16] (fun p x wx => ∃ ba, p = .pointer (some ⟨ba, 0, none⟩) ∧ x = .bool false ∧ BW w wx ∧ H3 wx ba ta a sa)
  case first =>
    go_region_held3 (fun w' => w'.cell? ⟨w.heap.size, 0, none⟩ = some (.int .u8 ta) ∧ w'.cell? ⟨w.heap.size, 1, none⟩ = some (.int .i64 a) ∧ w'.cell? ⟨w.heap.size, 2, none⟩ = some (.string sa)) (go_keep) (first | (go_at_call 11; refine (vmay_any _ _ _ (by assumption) (by assumption) _).mono ?_; rintro e v1 ⟨rfl, hb⟩; have hz := hb.size; (try simp at hz); have hc0 := fun o => hb.cells (w.heap.size) o (by first | omega | (simp; done) | (simp; omega))) | (go_at_call 12; refine (may_any _ _ _ (by assumption) (by assumption) _).mono ?_; rintro e v1 ⟨rfl, hb⟩; have hz := hb.size; (try simp at hz); have hc0 := fun o => hb.cells (w.heap.size) o (by first | omega | (simp; done) | (simp; omega))))
    all_goals go_wp2_with fail
    all_goals (go_meet; case rel => exact ⟨_, rfl, rfl, (by repeat (first | exact BW.refl _ | assumption | apply BW.alloc | apply BW.drew | (refine BW.setCell ?_ (by first | omega | (simp; done) | (simp; omega)) _) | (refine BW.trans ?_ (by assumption)))), (by refine ⟨?_, ?_, ?_⟩ <;> simp [go_sem, *])⟩)
  case rest =>
  obtain ⟨ba, rfl, rfl, hB0, Hba⟩ := hcut
  have Lba := Hba.lt
  have cba0 := Hba.1
  have cba1 := Hba.2.1
  have cba2 := Hba.2.2
  go_wp2_with (first | (go_at_call 12; refine (may_any _ _ _ (by assumption) (by assumption) _).mono ?_; rintro e v1 ⟨rfl, hb⟩; have hz := hb.size; (try simp at hz); have hc0 := fun o => hb.cells ba o (by first | omega | (simp; done) | (simp; omega)); have hd00 : ¬ ba = wc.heap.size := (by omega); have he00 : ¬ wc.heap.size = ba := (by omega); have hd01 : ¬ ba = v1.heap.size := (by omega); have he01 : ¬ v1.heap.size = ba := (by omega); (try have hq0 := fun o => hb.cells (wc.heap.size) o (by first | omega | (simp; done) | (simp; omega))); (try have hr0 := fun o => hb.froz (wc.heap.size) o (by first | omega | (simp; done) | (simp; omega)))) | (go_at_call 13; refine (awake_any _).mono ?_; rintro e v2 ⟨rfl, hb⟩; have hz := hb.size; (try simp at hz); have hc0 := fun o => hb.cells ba o (by first | omega | (simp; done) | (simp; omega)); have hd00 : ¬ ba = wc.heap.size := (by omega); have he00 : ¬ wc.heap.size = ba := (by omega); have hd01 : ¬ ba = v2.heap.size := (by omega); have he01 : ¬ v2.heap.size = ba := (by omega); (try have hq0 := fun o => hb.cells (wc.heap.size) o (by first | omega | (simp; done) | (simp; omega))); (try have hr0 := fun o => hb.froz (wc.heap.size) o (by first | omega | (simp; done) | (simp; omega))); (try have hq1 := fun o => hb.cells (v1.heap.size) o (by first | omega | (simp; done) | (simp; omega))); (try have hr1 := fun o => hb.froz (v1.heap.size) o (by first | omega | (simp; done) | (simp; omega)))))
  go_ret
  exact ⟨rfl, (by repeat (first | exact BW.refl _ | assumption | apply BW.alloc | apply BW.drew | (refine BW.setCell ?_ (by first | omega | (simp; done) | (simp; omega)) _) | (refine BW.trans ?_ (by assumption))))⟩
set_option maxRecDepth 100000 in
set_option maxHeartbeats 400000 in
theorem ones_l (n ta a : Int) (raw sa : ByteArray) (t0 : 0 ≤ ta) (za : sa.size ≤ maxLen) (ha : mayB ta a sa = true) (hl : 100 < (raw.size : Int)) (hl' : (raw.size : Int) ≤ 9223372036854775807) (w : World) :
    Calls Try.prog 3 #[.int .u8 n, .string raw, V ta a sa] w fun e w' => e = .returned (.bool true) ∧ BW w w' := by
  go_enter Try.func3, Try.ntmps3
  go_upto_region 1 with fail
  go_cut [5, 16] (fun p x wx => ∃ ba, p = .pointer (some ⟨ba, 0, none⟩) ∧ x = .bool false ∧ BW w wx ∧ H3 wx ba ta a sa)
  case first =>
    go_region_held3 (fun w' => w'.cell? ⟨w.heap.size, 0, none⟩ = some (.int .u8 ta) ∧ w'.cell? ⟨w.heap.size, 1, none⟩ = some (.int .i64 a) ∧ w'.cell? ⟨w.heap.size, 2, none⟩ = some (.string sa)) (go_keep) (first | (go_at_call 11; refine (vmay_any _ _ _ (by assumption) (by assumption) _).mono ?_; rintro e v1 ⟨rfl, hb⟩; have hz := hb.size; (try simp at hz); have hc0 := fun o => hb.cells (w.heap.size) o (by first | omega | (simp; done) | (simp; omega))) | (go_at_call 12; refine (may_any _ _ _ (by assumption) (by assumption) _).mono ?_; rintro e v1 ⟨rfl, hb⟩; have hz := hb.size; (try simp at hz); have hc0 := fun o => hb.cells (w.heap.size) o (by first | omega | (simp; done) | (simp; omega))))
    all_goals go_wp2_with fail
    all_goals (go_meet; case rel => exact ⟨_, rfl, rfl, (by repeat (first | exact BW.refl _ | assumption | apply BW.alloc | apply BW.drew | (refine BW.setCell ?_ (by first | omega | (simp; done) | (simp; omega)) _) | (refine BW.trans ?_ (by assumption)))), (by refine ⟨?_, ?_, ?_⟩ <;> simp [go_sem, *])⟩)
  case rest =>
  obtain ⟨ba, rfl, rfl, hB0, Hba⟩ := hcut
  have Lba := Hba.lt
  have cba0 := Hba.1
  have cba1 := Hba.2.1
  have cba2 := Hba.2.2
  go_wp2_with (first | (go_at_call 12; refine (may_any _ _ _ (by assumption) (by assumption) _).mono ?_; rintro e v1 ⟨rfl, hb⟩; have hz := hb.size; (try simp at hz); have hc0 := fun o => hb.cells ba o (by first | omega | (simp; done) | (simp; omega)); have hd00 : ¬ ba = wc.heap.size := (by omega); have he00 : ¬ wc.heap.size = ba := (by omega); have hd01 : ¬ ba = v1.heap.size := (by omega); have he01 : ¬ v1.heap.size = ba := (by omega); (try have hq0 := fun o => hb.cells (wc.heap.size) o (by first | omega | (simp; done) | (simp; omega))); (try have hr0 := fun o => hb.froz (wc.heap.size) o (by first | omega | (simp; done) | (simp; omega)))) | (go_at_call 13; refine (awake_any _).mono ?_; rintro e v2 ⟨rfl, hb⟩; have hz := hb.size; (try simp at hz); have hc0 := fun o => hb.cells ba o (by first | omega | (simp; done) | (simp; omega)); have hd00 : ¬ ba = wc.heap.size := (by omega); have he00 : ¬ wc.heap.size = ba := (by omega); have hd01 : ¬ ba = v2.heap.size := (by omega); have he01 : ¬ v2.heap.size = ba := (by omega); (try have hq0 := fun o => hb.cells (wc.heap.size) o (by first | omega | (simp; done) | (simp; omega))); (try have hr0 := fun o => hb.froz (wc.heap.size) o (by first | omega | (simp; done) | (simp; omega))); (try have hq1 := fun o => hb.cells (v1.heap.size) o (by first | omega | (simp; done) | (simp; omega))); (try have hr1 := fun o => hb.froz (v1.heap.size) o (by first | omega | (simp; done) | (simp; omega)))))
  go_ret
  exact ⟨rfl, (by repeat (first | exact BW.refl _ | assumption | apply BW.alloc | apply BW.drew | (refine BW.setCell ?_ (by first | omega | (simp; done) | (simp; omega)) _) | (refine BW.trans ?_ (by assumption))))⟩
set_option maxRecDepth 100000 in
set_option maxHeartbeats 4000000 in
theorem ones_main (n ta a : Int) (raw sa : ByteArray) (t0 : 0 ≤ ta) (za : sa.size ≤ maxLen) (ha : mayB ta a sa = true) (hl : (raw.size : Int) ≤ 100) (wd : ByteArray) (hW : Word onesL 9 n raw wd) (t m x : Int) (s : ByteArray) (hS : Same1 wd ta a sa t m x s) (w : World) :
    Calls Try.prog 3 #[.int .u8 n, .string raw, V ta a sa] w fun e w' => e = .returned (.bool true) ∧ BW w w' := by
  go_enter Try.func3, Try.ntmps3
  go_upto_region 1 with fail
  go_cut [5, 16] (fun p x wx => ∃ ba, p = .pointer (some ⟨ba, 0, none⟩) ∧ x = .bool false ∧ BW w wx ∧ H3 wx ba ta a sa)
  case first =>
    go_region_held3 (fun w' => w'.cell? ⟨w.heap.size, 0, none⟩ = some (.int .u8 ta) ∧ w'.cell? ⟨w.heap.size, 1, none⟩ = some (.int .i64 a) ∧ w'.cell? ⟨w.heap.size, 2, none⟩ = some (.string sa)) (go_keep) (first | (go_at_call 11; refine (vmay_any _ _ _ (by assumption) (by assumption) _).mono ?_; rintro e v1 ⟨rfl, hb⟩; have hz := hb.size; (try simp at hz); have hc0 := fun o => hb.cells (w.heap.size) o (by first | omega | (simp; done) | (simp; omega))) | (go_at_call 12; refine (may_any _ _ _ (by assumption) (by assumption) _).mono ?_; rintro e v1 ⟨rfl, hb⟩; have hz := hb.size; (try simp at hz); have hc0 := fun o => hb.cells (w.heap.size) o (by first | omega | (simp; done) | (simp; omega))))
    all_goals go_wp2_with fail
    all_goals (go_meet; case rel => exact ⟨_, rfl, rfl, (by repeat (first | exact BW.refl _ | assumption | apply BW.alloc | apply BW.drew | (refine BW.setCell ?_ (by first | omega | (simp; done) | (simp; omega)) _) | (refine BW.trans ?_ (by assumption)))), (by refine ⟨?_, ?_, ?_⟩ <;> simp [go_sem, *])⟩)
  case rest =>
  obtain ⟨ba, rfl, rfl, hB0, Hba⟩ := hcut
  have Lba := Hba.lt
  have cba0 := Hba.1
  have cba1 := Hba.2.1
  have cba2 := Hba.2.2
  go_upto_region 5 with (first | (go_at_call 12; refine (may_any _ _ _ (by assumption) (by assumption) _).mono ?_; rintro e v1 ⟨rfl, hb⟩; have hz := hb.size; (try simp at hz); have hc0 := fun o => hb.cells (ba) o (by first | omega | (simp; done) | (simp; omega))))
  go_cut [7] (fun s wx => s = .string wd ∧ BW w wx ∧ H3 wx ba ta a sa)
  case first =>
    go_wp2_with (first | (go_at_call 15; refine (ones_any _).mono ?_; rintro e v2 ⟨⟨b9, rfl, hbb, hrow⟩, hb⟩; have Hrow : Hid (Row v2 b9 onesL) := hrow; clear hrow) | (go_at_call 14; refine (hW _ _ Hrow.out).mono ?_; rintro e v3 ⟨rfl, hb⟩))
    all_goals (go_meet; case rel => exact ⟨rfl, (by repeat (first | exact BW.refl _ | assumption | apply BW.alloc | apply BW.drew | (refine BW.setCell ?_ (by first | omega | (simp; done) | (simp; omega)) _) | (refine BW.trans ?_ (by assumption)))), (Hba.bw (by repeat (first | exact BW.refl _ | assumption | apply BW.alloc | apply BW.drew | (refine BW.setCell ?_ (by first | omega | (simp; done) | (simp; omega)) _) | (refine BW.trans ?_ (by assumption)))))⟩)
  case rest =>
  clear hB0 Hba Lba cba0 cba1 cba2
  obtain ⟨rfl, hB1, Hba⟩ := hcut
  have Lba := Hba.lt
  have cba0 := Hba.1
  have cba1 := Hba.2.1
  have cba2 := Hba.2.2
  go_upto_region 6 with fail
  go_cut [8, 9] (fun p0 e0 wx => ∃ b0, p0 = .pointer (some ⟨b0, 0, none⟩) ∧ e0 = .int .i64 (x) ∧ BW wc wx ∧ H3 wx b0 (t) (m) s)
  case first =>
    go_wp2_with (first | (go_at_call 16; refine (hS.val _).mono ?_; rintro e v1 ⟨rfl, hb⟩; have hz := hb.size; (try simp at hz); have hc0 := fun o => hb.cells ba o (by first | omega | (simp; done) | (simp; omega)); have hd00 : ¬ ba = wc.heap.size := (by omega); have he00 : ¬ wc.heap.size = ba := (by omega); have hd01 : ¬ ba = v1.heap.size := (by omega); have he01 : ¬ v1.heap.size = ba := (by omega); (try have hq0 := fun o => hb.cells (wc.heap.size) o (by first | omega | (simp; done) | (simp; omega))); (try have hr0 := fun o => hb.froz (wc.heap.size) o (by first | omega | (simp; done) | (simp; omega)))))
    all_goals (go_meet; case rel => exact ⟨_, rfl, rfl, (by repeat (first | exact BW.refl _ | assumption | apply BW.alloc | apply BW.drew | (refine BW.setCell ?_ (by first | omega | (simp; done) | (simp; omega)) _) | (refine BW.trans ?_ (by assumption)))), (by refine ⟨?_, ?_, ?_⟩ <;> simp [go_sem, *])⟩)
  case rest =>
  obtain ⟨bx, rfl, rfl, hB2, Hbx⟩ := hcut
  replace Hba := Hba.bw hB2
  replace Lba := Hba.lt
  replace cba0 := Hba.1
  replace cba1 := Hba.2.1
  replace cba2 := Hba.2.2
  have Lbx := Hbx.lt
  have cbx0 := Hbx.1
  have cbx1 := Hbx.2.1
  have cbx2 := Hbx.2.2
  replace hB2 := hB1.trans hB2
  clear hB1
  go_upto_region 7 with fail
  go_cut [10, 11] (fun p0 e0 wx => ∃ b0, p0 = .pointer (some ⟨b0, 0, none⟩) ∧ e0 = .int .i64 (x) ∧ BW wc wx ∧ H3 wx b0 (t) (m) s)
  case first =>
    go_wp2_with (first | (go_at_call 17; refine (hS.ref _).mono ?_; rintro e v1 ⟨rfl, hb⟩; have hz := hb.size; (try simp at hz); have hc0 := fun o => hb.cells ba o (by first | omega | (simp; done) | (simp; omega)); have hc1 := fun o => hb.cells bx o (by first | omega | (simp; done) | (simp; omega)); have hd00 : ¬ ba = wc.heap.size := (by omega); have he00 : ¬ wc.heap.size = ba := (by omega); have hd01 : ¬ ba = v1.heap.size := (by omega); have he01 : ¬ v1.heap.size = ba := (by omega); have hd10 : ¬ bx = wc.heap.size := (by omega); have he10 : ¬ wc.heap.size = bx := (by omega); have hd11 : ¬ bx = v1.heap.size := (by omega); have he11 : ¬ v1.heap.size = bx := (by omega); (try have hq0 := fun o => hb.cells (wc.heap.size) o (by first | omega | (simp; done) | (simp; omega))); (try have hr0 := fun o => hb.froz (wc.heap.size) o (by first | omega | (simp; done) | (simp; omega)))))
    all_goals (go_meet; case rel => exact ⟨_, rfl, rfl, (by repeat (first | exact BW.refl _ | assumption | apply BW.alloc | apply BW.drew | (refine BW.setCell ?_ (by first | omega | (simp; done) | (simp; omega)) _) | (refine BW.trans ?_ (by assumption)))), (by refine ⟨?_, ?_, ?_⟩ <;> simp [go_sem, *])⟩)
  case rest =>
  obtain ⟨bz, rfl, rfl, hB3, Hbz⟩ := hcut
  replace Hba := Hba.bw hB3
  replace Lba := Hba.lt
  replace cba0 := Hba.1
  replace cba1 := Hba.2.1
  replace cba2 := Hba.2.2
  replace Hbx := Hbx.bw hB3
  replace Lbx := Hbx.lt
  replace cbx0 := Hbx.1
  replace cbx1 := Hbx.2.1
  replace cbx2 := Hbx.2.2
  have Lbz := Hbz.lt
  have cbz0 := Hbz.1
  have cbz1 := Hbz.2.1
  have cbz2 := Hbz.2.2
  replace hB3 := hB2.trans hB3
  clear hB2
  have ht0 := hS.tag
  have hts := hS.siz
  have hmay := hS.may
  go_wp2_with (first | (go_at_call 12; refine (may_any _ _ _ (by assumption) (by assumption) _).mono ?_; rintro e v1 ⟨rfl, hb⟩; have hz := hb.size; (try simp at hz); have hc0 := fun o => hb.cells ba o (by first | omega | (simp; done) | (simp; omega)); have hc1 := fun o => hb.cells bx o (by first | omega | (simp; done) | (simp; omega)); have hc2 := fun o => hb.cells bz o (by first | omega | (simp; done) | (simp; omega)); have hd00 : ¬ ba = wc.heap.size := (by omega); have he00 : ¬ wc.heap.size = ba := (by omega); have hd01 : ¬ ba = v1.heap.size := (by omega); have he01 : ¬ v1.heap.size = ba := (by omega); have hd10 : ¬ bx = wc.heap.size := (by omega); have he10 : ¬ wc.heap.size = bx := (by omega); have hd11 : ¬ bx = v1.heap.size := (by omega); have he11 : ¬ v1.heap.size = bx := (by omega); have hd20 : ¬ bz = wc.heap.size := (by omega); have he20 : ¬ wc.heap.size = bz := (by omega); have hd21 : ¬ bz = v1.heap.size := (by omega); have he21 : ¬ v1.heap.size = bz := (by omega); (try have hq0 := fun o => hb.cells (wc.heap.size) o (by first | omega | (simp; done) | (simp; omega))); (try have hr0 := fun o => hb.froz (wc.heap.size) o (by first | omega | (simp; done) | (simp; omega)))) | (go_at_call 13; refine (awake_any _).mono ?_; rintro e v2 ⟨rfl, hb⟩; have hz := hb.size; (try simp at hz); have hc0 := fun o => hb.cells ba o (by first | omega | (simp; done) | (simp; omega)); have hc1 := fun o => hb.cells bx o (by first | omega | (simp; done) | (simp; omega)); have hc2 := fun o => hb.cells bz o (by first | omega | (simp; done) | (simp; omega)); have hd00 : ¬ ba = wc.heap.size := (by omega); have he00 : ¬ wc.heap.size = ba := (by omega); have hd01 : ¬ ba = v2.heap.size := (by omega); have he01 : ¬ v2.heap.size = ba := (by omega); have hd10 : ¬ bx = wc.heap.size := (by omega); have he10 : ¬ wc.heap.size = bx := (by omega); have hd11 : ¬ bx = v2.heap.size := (by omega); have he11 : ¬ v2.heap.size = bx := (by omega); have hd20 : ¬ bz = wc.heap.size := (by omega); have he20 : ¬ wc.heap.size = bz := (by omega); have hd21 : ¬ bz = v2.heap.size := (by omega); have he21 : ¬ v2.heap.size = bz := (by omega); (try have hq0 := fun o => hb.cells (wc.heap.size) o (by first | omega | (simp; done) | (simp; omega))); (try have hr0 := fun o => hb.froz (wc.heap.size) o (by first | omega | (simp; done) | (simp; omega))); (try have hq1 := fun o => hb.cells (v1.heap.size) o (by first | omega | (simp; done) | (simp; omega))); (try have hr1 := fun o => hb.froz (v1.heap.size) o (by first | omega | (simp; done) | (simp; omega)))))
  go_ret
  exact ⟨rfl, (by repeat (first | exact BW.refl _ | assumption | apply BW.alloc | apply BW.drew | (refine BW.setCell ?_ (by first | omega | (simp; done) | (simp; omega)) _) | (refine BW.trans ?_ (by assumption))))⟩
end Go.Proofs.Ytbiahgjlgojhdaa
