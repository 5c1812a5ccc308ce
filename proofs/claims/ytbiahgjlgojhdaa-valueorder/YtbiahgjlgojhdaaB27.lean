import Derived.Test.YtbiahgjlgojhdaaB5
import Derived.LoopTactic
import Derived.Deep.RegionHeld3
namespace Go.Proofs.Ytbiahgjlgojhdaa
open Go.RowKit
set_option linter.unusedVariables false
set_option linter.unusedSimpArgs false
/-- Just one of three is so. -/
theorem less_three : ∀ (x y : List UInt8), bN (Op.bytesLess x y) + bN (Op.bytesLess y x) + bN (decide (x = y)) = 1
  | [], [] => by simp [Op.bytesLess, bN]
  | [], b :: y => by simp [Op.bytesLess, bN]
  | a :: x, [] => by simp [Op.bytesLess, bN]
  | a :: x, b :: y => by
    have ih := less_three x y
    by_cases h1 : a < b
    · have h2 : ¬ b < a := fun h => absurd (UInt8.lt_trans h1 h) (UInt8.lt_irrefl _)
      have h3 : ¬ a = b := fun h => UInt8.lt_irrefl b (h ▸ h1)
      have h4 : ¬ b = a := fun h => h3 h.symm
      simp [Op.bytesLess, bN, h1, h2, h3, h4]
    · by_cases h2 : b < a
      · have h3 : ¬ a = b := fun h => h1 (h ▸ h2)
        have h4 : ¬ b = a := fun h => h3 h.symm
        simp [Op.bytesLess, bN, h1, h2, h3, h4]
      · have h3 : a = b := by
          have e1 := UInt8.not_lt.1 h1
          have e2 := UInt8.not_lt.1 h2
          exact UInt8.le_antisymm e2 e1
        subst h3
        simpa [Op.bytesLess, h1] using ih
theorem bN_bd (b : Bool) : 0 ≤ bN b ∧ bN b ≤ 1 := by cases b <;> simp [bN]
theorem int_three (a b : Int) : bN (decide (a < b)) + bN (decide (b < a)) + bN (decide (a = b ∧ (⟨#[]⟩ : ByteArray) = ⟨#[]⟩)) = 1 := by
  rcases Int.lt_trichotomy a b with h | h | h
  · have h2 : ¬ b < a := by omega
    have h3 : ¬ a = b := by omega
    simp [bN, h, h2, h3]
  · subst h; simp [bN]
  · have h2 : ¬ a < b := by omega
    have h3 : ¬ a = b := by omega
    simp [bN, h, h2, h3]
theorem str_three (s t : ByteArray) : bN (Op.bytesLess s.toList t.toList) + bN (Op.bytesLess t.toList s.toList) + bN (decide ((0 : Int) = 0 ∧ s = t)) = 1 := by
  have h := less_three s.toList t.toList
  have e : decide ((0 : Int) = 0 ∧ s = t) = decide (s.toList = t.toList) := by
    by_cases h : s = t
    · subst h; simp
    · have := toList_ne h
      simp [h, this]
  rw [e]; exact h
/-- The four values in their row. -/
def Row4 (w : World) (g : Nat) (a b : Int) (s t : ByteArray) : Prop := w.heap[g]? = some (.cells #[.int .u8 1, .int .i64 a, .string ⟨#[]⟩, .int .u8 1, .int .i64 b, .string ⟨#[]⟩, .int .u8 3, .int .i64 0, .string s, .int .u8 3, .int .i64 0, .string t] 23 (0, 0))
theorem Row4.lt {w : World} {g : Nat} {a b : Int} {s t : ByteArray} (h : Row4 w g a b s t) : g < w.heap.size := (Array.getElem?_eq_some_iff.1 h).1
theorem Row4.bw {w w' : World} {g : Nat} {a b : Int} {s t : ByteArray} (h : Row4 w g a b s t) (k : BW w w') : Row4 w' g a b s t := (k.block g h.lt).trans h
theorem Row4.c0 {w : World} {g : Nat} {a b : Int} {s t : ByteArray} (h : Row4 w g a b s t) : w.cell? ⟨g, 0, none⟩ = some (.int .u8 1) := by unfold Row4 at h; simp [World.cell?, h]
theorem Row4.c1 {w : World} {g : Nat} {a b : Int} {s t : ByteArray} (h : Row4 w g a b s t) : w.cell? ⟨g, 1, none⟩ = some (.int .i64 a) := by unfold Row4 at h; simp [World.cell?, h]
theorem Row4.c2 {w : World} {g : Nat} {a b : Int} {s t : ByteArray} (h : Row4 w g a b s t) : w.cell? ⟨g, 2, none⟩ = some (.string ⟨#[]⟩) := by unfold Row4 at h; simp [World.cell?, h]
theorem Row4.c3 {w : World} {g : Nat} {a b : Int} {s t : ByteArray} (h : Row4 w g a b s t) : w.cell? ⟨g, 3, none⟩ = some (.int .u8 1) := by unfold Row4 at h; simp [World.cell?, h]
theorem Row4.c4 {w : World} {g : Nat} {a b : Int} {s t : ByteArray} (h : Row4 w g a b s t) : w.cell? ⟨g, 4, none⟩ = some (.int .i64 b) := by unfold Row4 at h; simp [World.cell?, h]
theorem Row4.c5 {w : World} {g : Nat} {a b : Int} {s t : ByteArray} (h : Row4 w g a b s t) : w.cell? ⟨g, 5, none⟩ = some (.string ⟨#[]⟩) := by unfold Row4 at h; simp [World.cell?, h]
theorem Row4.c6 {w : World} {g : Nat} {a b : Int} {s t : ByteArray} (h : Row4 w g a b s t) : w.cell? ⟨g, 6, none⟩ = some (.int .u8 3) := by unfold Row4 at h; simp [World.cell?, h]
theorem Row4.c7 {w : World} {g : Nat} {a b : Int} {s t : ByteArray} (h : Row4 w g a b s t) : w.cell? ⟨g, 7, none⟩ = some (.int .i64 0) := by unfold Row4 at h; simp [World.cell?, h]
theorem Row4.c8 {w : World} {g : Nat} {a b : Int} {s t : ByteArray} (h : Row4 w g a b s t) : w.cell? ⟨g, 8, none⟩ = some (.string s) := by unfold Row4 at h; simp [World.cell?, h]
theorem Row4.c9 {w : World} {g : Nat} {a b : Int} {s t : ByteArray} (h : Row4 w g a b s t) : w.cell? ⟨g, 9, none⟩ = some (.int .u8 3) := by unfold Row4 at h; simp [World.cell?, h]
theorem Row4.c10 {w : World} {g : Nat} {a b : Int} {s t : ByteArray} (h : Row4 w g a b s t) : w.cell? ⟨g, 10, none⟩ = some (.int .i64 0) := by unfold Row4 at h; simp [World.cell?, h]
theorem Row4.c11 {w : World} {g : Nat} {a b : Int} {s t : ByteArray} (h : Row4 w g a b s t) : w.cell? ⟨g, 11, none⟩ = some (.string t) := by unfold Row4 at h; simp [World.cell?, h]
/-- The two values that stand at k and k + 1 of the row. -/
def Two4 (w : World) (g k : Nat) (t x : Int) (p : ByteArray) (y : Int) (q : ByteArray) : Prop := w.cell? ⟨g, k * 3, none⟩ = some (.int .u8 t) ∧ w.cell? ⟨g, k * 3 + 1, none⟩ = some (.int .i64 x) ∧ w.cell? ⟨g, k * 3 + 2, none⟩ = some (.string p) ∧ w.cell? ⟨g, (k + 1) * 3, none⟩ = some (.int .u8 t) ∧ w.cell? ⟨g, (k + 1) * 3 + 1, none⟩ = some (.int .i64 y) ∧ w.cell? ⟨g, (k + 1) * 3 + 2, none⟩ = some (.string q)
theorem Two4.lt {w : World} {g k : Nat} {t x : Int} {p : ByteArray} {y : Int} {q : ByteArray} (h : Two4 w g k t x p y q) : g < w.heap.size := World.block_lt_of_cell? w _ h.1
theorem Two4.bw {w w' : World} {g k : Nat} {t x : Int} {p : ByteArray} {y : Int} {q : ByteArray} (h : Two4 w g k t x p y q) (b : BW w w') : Two4 w' g k t x p y q :=
  ⟨(b.cells g _ h.lt).trans h.1, (b.cells g _ h.lt).trans h.2.1, (b.cells g _ h.lt).trans h.2.2.1, (b.cells g _ h.lt).trans h.2.2.2.1, (b.cells g _ h.lt).trans h.2.2.2.2.1, (b.cells g _ h.lt).trans h.2.2.2.2.2⟩
theorem Row4.zero {w : World} {g : Nat} {a b : Int} {s t : ByteArray} (h : Row4 w g a b s t) : Two4 w g 0 1 a ⟨#[]⟩ b ⟨#[]⟩ := ⟨h.c0, h.c1, h.c2, h.c3, h.c4, h.c5⟩
theorem Row4.two {w : World} {g : Nat} {a b : Int} {s t : ByteArray} (h : Row4 w g a b s t) : Two4 w g 2 3 0 s 0 t := ⟨h.c6, h.c7, h.c8, h.c9, h.c10, h.c11⟩
set_option maxRecDepth 100000 in
set_option maxHeartbeats 1000000 in
theorem order_far (a b : Int) (s t : ByteArray) (hs : s.size ≤ maxLen) (ht : t.size ≤ maxLen) (h : 1000 < s.size ∨ 1000 < t.size) (w : World) :
    Calls Try.prog 9 #[.int .i64 a, .int .i64 b, .string s, .string t] w fun e w' => e = .returned (.bool true) ∧ BW w w' := by
  unfold maxLen at hs ht
  by_cases h1 : 1000 < s.size
  · have hd : decide ((1000 : Int) < s.size) = true := by simp; omega
    go_enter Try.func9, Try.ntmps9
    go_wp2_with (go_at_call 13; refine (awake_any _).mono ?_; rintro e v1 ⟨rfl, hb1⟩)
    go_ret
    exact ⟨rfl, (by repeat (first | exact BW.refl _ | assumption | apply BW.alloc | apply BW.drew | (refine BW.setCell ?_ (by first | omega | (simp; done) | (simp; omega)) _) | (refine BW.trans ?_ (by assumption))))⟩
  · have h2 : 1000 < t.size := by omega
    go_enter Try.func9, Try.ntmps9
    go_wp2_with (go_at_call 13; refine (awake_any _).mono ?_; rintro e v1 ⟨rfl, hb1⟩)
    go_ret
    exact ⟨rfl, (by repeat (first | exact BW.refl _ | assumption | apply BW.alloc | apply BW.drew | (refine BW.setCell ?_ (by first | omega | (simp; done) | (simp; omega)) _) | (refine BW.trans ?_ (by assumption))))⟩
set_option maxRecDepth 100000 in
set_option maxHeartbeats 8000000 in
theorem order_in (a b : Int) (s t : ByteArray) (hs : s.size ≤ 1000) (ht : t.size ≤ 1000)
    (HH : ∀ k wr g, k = 0 ∨ k = 2 → Row4 wr g a b s t → ∃ ty x p y q n1 n2 n3, Two4 wr g k ty x p y q ∧ n1 + n2 + n3 = 1 ∧ 0 ≤ n1 ∧ n1 ≤ 1 ∧ 0 ≤ n2 ∧ n2 ≤ 1 ∧ 0 ≤ n3 ∧ n3 ≤ 1 ∧ (∀ w, Calls Try.prog 19 #[.string ⟨#[60]⟩, V ty x p, V ty y q] w fun e w' => e = .returned (.tuple #[V 2 n1 ⟨#[]⟩, .int .i64 0]) ∧ BW w w') ∧ (∀ w, Calls Try.prog 19 #[.string ⟨#[60]⟩, V ty y q, V ty x p] w fun e w' => e = .returned (.tuple #[V 2 n2 ⟨#[]⟩, .int .i64 0]) ∧ BW w w') ∧ (∀ w, Calls Try.prog 19 #[.string ⟨#[61]⟩, V ty x p, V ty y q] w fun e w' => e = .returned (.tuple #[V 2 n3 ⟨#[]⟩, .int .i64 0]) ∧ BW w w')) (w : World) :
    Calls Try.prog 9 #[.int .i64 a, .int .i64 b, .string s, .string t] w fun e w' => e = .returned (.bool true) ∧ BW w w' := by
  go_enter Try.func9, Try.ntmps9
  go_upto_region 3 with fail
  go_cut [9] (fun p wx => ∃ g, p = .slice (some ⟨g, 0, none⟩) 4 4 ∧ Row4 wx g a b s t ∧ BW w wx)
  case first =>
    go_wp2_with (first | (go_at_call 21; refine (of_any _ _).mono ?_; rintro e v1 ⟨rfl, hb⟩) | (go_at_call 24; refine (text_any _ _).mono ?_; rintro e v1 ⟨rfl, hb⟩))
    all_goals (go_meet; case rel => exact ⟨_, rfl, heap_alloc_new _ _, (by repeat (first | exact BW.refl _ | assumption | apply BW.alloc | apply BW.drew | (refine BW.setCell ?_ (by first | omega | (simp; done) | (simp; omega)) _) | (refine BW.trans ?_ (by assumption))))⟩)
  case rest =>
  obtain ⟨g, rfl, R0, hB0⟩ := hcut
  go_wp2_with fail
  go_loopw [10] (fun i wr => ∃ k : Nat, (k = 0 ∨ k = 2 ∨ k = 4) ∧ i = .int .i64 k ∧ Row4 wr g a b s t ∧ BW w wr) (fun i _ => 4 - (intOf i).toNat)
  case atStart => exact ⟨0, Or.inl rfl, rfl, R0, hB0⟩
  case round =>
    clear R0 hB0
    obtain ⟨k, hk, rfl, RR, hbw⟩ := hrel
    by_cases hlt : k < 4
    · obtain ⟨ty, x, p, y, q, n1, n2, n3, TT, sn, p1, p1', p2, p2', p3, p3', C1, C2, C3⟩ := HH k wr g (by omega) RR
      have hk2 : k ≤ 2 := by omega
      have HKK : Hid (k = 0 ∨ k = 2 ∨ k = 4) := hk
      clear HH hk
      have i0 : (0 : Int) ≤ (k : Int) := by omega
      have i1 : (k : Int) < 4 := by omega
      have i2 : (0 : Int) ≤ (k : Int) + 1 := by omega
      have i3 : (k : Int) + 1 < 4 := by omega
      have iw : IntKind.i64.wrap ((k : Int) + 1) = (k : Int) + 1 := by rw [IntKind.wrap_i64]; omega
      have k0 := TT.1
      have k1 := TT.2.1
      have k2 := TT.2.2.1
      have k3 := TT.2.2.2.1
      have k4 := TT.2.2.2.2.1
      have k5 := TT.2.2.2.2.2
      have lg := TT.lt
      go_upto_region 7 with fail
      go_cut [11, 12] (fun r1 r2 wx => ∃ bq, r1 = .pointer (some ⟨bq, 0, none⟩) ∧ r2 = .int .i64 0 ∧ H3 wx bq 2 n1 ⟨#[]⟩ ∧ BW wr wx)
      case first =>
        go_region_held3 (fun w' => w'.cell? ⟨g, k * 3, none⟩ = some (.int .u8 ty) ∧ w'.cell? ⟨g, k * 3 + 1, none⟩ = some (.int .i64 x) ∧ w'.cell? ⟨g, k * 3 + 2, none⟩ = some (.string p) ∧ w'.cell? ⟨g, (k + 1) * 3, none⟩ = some (.int .u8 ty) ∧ w'.cell? ⟨g, (k + 1) * 3 + 1, none⟩ = some (.int .i64 y) ∧ w'.cell? ⟨g, (k + 1) * 3 + 2, none⟩ = some (.string q)) (go_keep) (first | (go_at_call 19; refine (C1 _).mono ?_; rintro e v1 ⟨rfl, hb⟩; have hz := hb.size; (try simp at hz); have hc0 := fun o => hb.cells g o (by first | omega | (simp; done) | (simp; omega)); have hd00 : ¬ g = wr.heap.size := (by omega); have he00 : ¬ wr.heap.size = g := (by omega); have hd01 : ¬ g = v1.heap.size := (by omega); have he01 : ¬ v1.heap.size = g := (by omega); (try have hq0 := fun o => hb.cells (wr.heap.size) o (by first | omega | (simp; done) | (simp; omega))); (try have hr0 := fun o => hb.froz (wr.heap.size) o (by first | omega | (simp; done) | (simp; omega)))))
        all_goals go_wp2_with fail
        all_goals (go_meet; case rel => exact ⟨_, rfl, rfl, (by refine ⟨?_, ?_, ?_⟩ <;> simp [go_sem, *]), (by repeat (first | exact BW.refl _ | assumption | apply BW.alloc | apply BW.drew | (refine BW.setCell ?_ (by first | omega | (simp; done) | (simp; omega)) _) | (refine BW.trans ?_ (by assumption))))⟩)
      case rest =>
      obtain ⟨b11, rfl, rfl, H11, hB0⟩ := hcut
      replace RR := RR.bw hB0
      replace TT := TT.bw hB0
      replace hbw := hbw.trans hB0
      clear k0 k1 k2 k3 k4 k5 lg
      clear hB0
      have k0 := TT.1
      have k1 := TT.2.1
      have k2 := TT.2.2.1
      have k3 := TT.2.2.2.1
      have k4 := TT.2.2.2.2.1
      have k5 := TT.2.2.2.2.2
      have lg := TT.lt
      go_upto_region 8 with fail
      go_cut [13, 14] (fun r1 r2 wx => ∃ bq, r1 = .pointer (some ⟨bq, 0, none⟩) ∧ r2 = .int .i64 0 ∧ H3 wx bq 2 n2 ⟨#[]⟩ ∧ BW wc wx)
      case first =>
        go_region_held3 (fun w' => w'.cell? ⟨g, k * 3, none⟩ = some (.int .u8 ty) ∧ w'.cell? ⟨g, k * 3 + 1, none⟩ = some (.int .i64 x) ∧ w'.cell? ⟨g, k * 3 + 2, none⟩ = some (.string p) ∧ w'.cell? ⟨g, (k + 1) * 3, none⟩ = some (.int .u8 ty) ∧ w'.cell? ⟨g, (k + 1) * 3 + 1, none⟩ = some (.int .i64 y) ∧ w'.cell? ⟨g, (k + 1) * 3 + 2, none⟩ = some (.string q)) (go_keep) (first | (go_at_call 19; refine (C2 _).mono ?_; rintro e v1 ⟨rfl, hb⟩; have hz := hb.size; (try simp at hz); have hc0 := fun o => hb.cells g o (by first | omega | (simp; done) | (simp; omega)); have hd00 : ¬ g = wc.heap.size := (by omega); have he00 : ¬ wc.heap.size = g := (by omega); have hd01 : ¬ g = v1.heap.size := (by omega); have he01 : ¬ v1.heap.size = g := (by omega); (try have hq0 := fun o => hb.cells (wc.heap.size) o (by first | omega | (simp; done) | (simp; omega))); (try have hr0 := fun o => hb.froz (wc.heap.size) o (by first | omega | (simp; done) | (simp; omega)))))
        all_goals go_wp2_with fail
        all_goals (go_meet; case rel => exact ⟨_, rfl, rfl, (by refine ⟨?_, ?_, ?_⟩ <;> simp [go_sem, *]), (by repeat (first | exact BW.refl _ | assumption | apply BW.alloc | apply BW.drew | (refine BW.setCell ?_ (by first | omega | (simp; done) | (simp; omega)) _) | (refine BW.trans ?_ (by assumption))))⟩)
      case rest =>
      obtain ⟨b13, rfl, rfl, H13, hB1⟩ := hcut
      replace RR := RR.bw hB1
      replace TT := TT.bw hB1
      replace hbw := hbw.trans hB1
      clear k0 k1 k2 k3 k4 k5 lg
      replace H11 := H11.bw hB1
      clear hB1
      have k0 := TT.1
      have k1 := TT.2.1
      have k2 := TT.2.2.1
      have k3 := TT.2.2.2.1
      have k4 := TT.2.2.2.2.1
      have k5 := TT.2.2.2.2.2
      have lg := TT.lt
      go_upto_region 9 with fail
      go_cut [15, 16] (fun r1 r2 wx => ∃ bq, r1 = .pointer (some ⟨bq, 0, none⟩) ∧ r2 = .int .i64 0 ∧ H3 wx bq 2 n3 ⟨#[]⟩ ∧ BW wc wx)
      case first =>
        go_region_held3 (fun w' => w'.cell? ⟨g, k * 3, none⟩ = some (.int .u8 ty) ∧ w'.cell? ⟨g, k * 3 + 1, none⟩ = some (.int .i64 x) ∧ w'.cell? ⟨g, k * 3 + 2, none⟩ = some (.string p) ∧ w'.cell? ⟨g, (k + 1) * 3, none⟩ = some (.int .u8 ty) ∧ w'.cell? ⟨g, (k + 1) * 3 + 1, none⟩ = some (.int .i64 y) ∧ w'.cell? ⟨g, (k + 1) * 3 + 2, none⟩ = some (.string q)) (go_keep) (first | (go_at_call 19; refine (C3 _).mono ?_; rintro e v1 ⟨rfl, hb⟩; have hz := hb.size; (try simp at hz); have hc0 := fun o => hb.cells g o (by first | omega | (simp; done) | (simp; omega)); have hd00 : ¬ g = wc.heap.size := (by omega); have he00 : ¬ wc.heap.size = g := (by omega); have hd01 : ¬ g = v1.heap.size := (by omega); have he01 : ¬ v1.heap.size = g := (by omega); (try have hq0 := fun o => hb.cells (wc.heap.size) o (by first | omega | (simp; done) | (simp; omega))); (try have hr0 := fun o => hb.froz (wc.heap.size) o (by first | omega | (simp; done) | (simp; omega)))))
        all_goals go_wp2_with fail
        all_goals (go_meet; case rel => exact ⟨_, rfl, rfl, (by refine ⟨?_, ?_, ?_⟩ <;> simp [go_sem, *]), (by repeat (first | exact BW.refl _ | assumption | apply BW.alloc | apply BW.drew | (refine BW.setCell ?_ (by first | omega | (simp; done) | (simp; omega)) _) | (refine BW.trans ?_ (by assumption))))⟩)
      case rest =>
      obtain ⟨b15, rfl, rfl, H15, hB2⟩ := hcut
      replace RR := RR.bw hB2
      replace TT := TT.bw hB2
      replace hbw := hbw.trans hB2
      clear k0 k1 k2 k3 k4 k5 lg
      replace H11 := H11.bw hB2
      replace H13 := H13.bw hB2
      clear hB2
      have x1 := H11.2.1
      have x2 := H13.2.1
      have x3 := H15.2.1
      have RR' : Hid (Row4 wc g a b s t) := RR
      have hbw' : Hid (BW w wc) := hbw
      clear RR TT hbw H11 H13 H15
      go_wp2_with fail
      go_roundw
      case rel => exact ⟨k + 2, by have := HKK.out; omega, by go_num, RR'.out, hbw'.out⟩
      case measure => simp [intOf]; omega
    · go_wp2_with (go_at_call 13; refine (awake_any _).mono ?_; rintro e v1 ⟨rfl, hb1⟩)
      go_ret
      exact ⟨rfl, (by repeat (first | exact BW.refl _ | assumption | apply BW.alloc | apply BW.drew | (refine BW.setCell ?_ (by first | omega | (simp; done) | (simp; omega)) _) | (refine BW.trans ?_ (by assumption))))⟩
theorem order_walk (a b : Int) (s t : ByteArray) (hs : s.size ≤ maxLen) (ht : t.size ≤ maxLen) (w : World) :
    Calls Try.prog 9 #[.int .i64 a, .int .i64 b, .string s, .string t] w fun e w' => e = .returned (.bool true) ∧ BW w w' := by
  by_cases h : 1000 < s.size ∨ 1000 < t.size
  · exact order_far a b s t hs ht h w
  · refine order_in a b s t (by omega) (by omega) (fun k wr g hk RR => ?_) w
    rcases hk with rfl | rfl
    · exact ⟨_, _, _, _, _, _, _, _, RR.zero, int_three a b, (bN_bd _).1, (bN_bd _).2, (bN_bd _).1, (bN_bd _).2, (bN_bd _).1, (bN_bd _).2, two_lt fun w => below_int a b ⟨#[]⟩ ⟨#[]⟩ w, two_lt fun w => below_int b a ⟨#[]⟩ ⟨#[]⟩ w, two_eq fun w => same_ok 1 a b ⟨#[]⟩ ⟨#[]⟩ (by decide) w⟩
    · exact ⟨_, _, _, _, _, _, _, _, RR.two, str_three s t, (bN_bd _).1, (bN_bd _).2, (bN_bd _).1, (bN_bd _).2, (bN_bd _).1, (bN_bd _).2, two_lt fun w => below_str 0 0 s t w, two_lt fun w => below_str 0 0 t s w, two_eq fun w => same_ok 3 0 0 s t (by decide) w⟩
end Go.Proofs.Ytbiahgjlgojhdaa
