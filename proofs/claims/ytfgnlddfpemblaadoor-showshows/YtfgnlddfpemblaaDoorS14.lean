import Derived.Test.YtfgnlddfpemblaaDoorS8
namespace Go.Proofs.YtfgnlddfpemblaaDoor
open Go.RowKit
set_option linter.unusedVariables false
set_option linter.unusedSimpArgs false

theorem toList_inj' {x y : ByteArray} (k : x.toList = y.toList) : x = y := by
  rw [ByteArray.toList_eq, ByteArray.toList_eq] at k
  exact ByteArray.ext (by simpa using k)
theorem beq_t {a b : Int} (h : a = b) : (a == b) = true := by simpa using h
theorem beq_f {a b : Int} (h : ¬ a = b) : (a == b) = false := by simpa using h
theorem bne_t {a b : Int} (h : ¬ a = b) : (a != b) = true := by simpa using h
set_option maxRecDepth 100000 in
set_option maxHeartbeats 400000 in
theorem may_big (t n : Int) (s : ByteArray) (h : 7 < t) (w : World) :
    Calls Tryd.prog 10 #[V t n s] w fun e w' => e = .returned (.bool false) ∧ BW w w' := by
  go_enter Tryd.func10, Tryd.ntmps10
  go_wp2
  go_ret
  exact ⟨rfl, (by repeat (first | exact BW.refl _ | assumption | apply BW.alloc | apply BW.drew | (refine BW.setCell ?_ (by first | omega | (simp; done) | (simp; omega)) _) | (refine BW.trans ?_ (by assumption))))⟩
set_option maxRecDepth 100000 in
set_option maxHeartbeats 400000 in
theorem may_str (t n : Int) (s : ByteArray) (h : t ≤ 7) (h3 : (t != 3) = true) (hs : (s.toList.isEmpty) = false) (w : World) :
    Calls Tryd.prog 10 #[V t n s] w fun e w' => e = .returned (.bool false) ∧ BW w w' := by
  go_enter Tryd.func10, Tryd.ntmps10
  go_wp2
  go_ret
  exact ⟨rfl, (by repeat (first | exact BW.refl _ | assumption | apply BW.alloc | apply BW.drew | (refine BW.setCell ?_ (by first | omega | (simp; done) | (simp; omega)) _) | (refine BW.trans ?_ (by assumption))))⟩
set_option maxRecDepth 100000 in
set_option maxHeartbeats 400000 in
theorem may_long (n : Int) (s : ByteArray) (h : 65536 < s.size) (h' : s.size ≤ maxLen) (w : World) :
    Calls Tryd.prog 10 #[V 3 n s] w fun e w' => e = .returned (.bool false) ∧ BW w w' := by
  unfold maxLen at h'
  go_enter Tryd.func10, Tryd.ntmps10
  go_wp2
  go_ret
  exact ⟨rfl, (by repeat (first | exact BW.refl _ | assumption | apply BW.alloc | apply BW.drew | (refine BW.setCell ?_ (by first | omega | (simp; done) | (simp; omega)) _) | (refine BW.trans ?_ (by assumption))))⟩
set_option maxRecDepth 100000 in
set_option maxHeartbeats 400000 in
theorem may_0 (n : Int) (w : World) :
    Calls Tryd.prog 10 #[V 0 n ⟨#[]⟩] w fun e w' => e = .returned (.bool (n == 0)) ∧ BW w w' := by
  go_enter Tryd.func10, Tryd.ntmps10
  go_wp2
  go_ret
  exact ⟨rfl, (by repeat (first | exact BW.refl _ | assumption | apply BW.alloc | apply BW.drew | (refine BW.setCell ?_ (by first | omega | (simp; done) | (simp; omega)) _) | (refine BW.trans ?_ (by assumption))))⟩
set_option maxRecDepth 100000 in
set_option maxHeartbeats 400000 in
theorem may_3 (n : Int) (s : ByteArray) (h : s.size ≤ 65536) (w : World) :
    Calls Tryd.prog 10 #[V 3 n s] w fun e w' => e = .returned (.bool (n == 0)) ∧ BW w w' := by
  go_enter Tryd.func10, Tryd.ntmps10
  go_wp2
  go_ret
  exact ⟨rfl, (by repeat (first | exact BW.refl _ | assumption | apply BW.alloc | apply BW.drew | (refine BW.setCell ?_ (by first | omega | (simp; done) | (simp; omega)) _) | (refine BW.trans ?_ (by assumption))))⟩
set_option maxRecDepth 100000 in
set_option maxHeartbeats 400000 in
theorem may_2a (n : Int) (h : (n == 0) = true) (w : World) :
    Calls Tryd.prog 10 #[V 2 n ⟨#[]⟩] w fun e w' => e = .returned (.bool true) ∧ BW w w' := by
  go_enter Tryd.func10, Tryd.ntmps10
  go_wp2
  go_ret
  exact ⟨rfl, (by repeat (first | exact BW.refl _ | assumption | apply BW.alloc | apply BW.drew | (refine BW.setCell ?_ (by first | omega | (simp; done) | (simp; omega)) _) | (refine BW.trans ?_ (by assumption))))⟩
set_option maxRecDepth 100000 in
set_option maxHeartbeats 400000 in
theorem may_2b (n : Int) (h : (n == 0) = false) (w : World) :
    Calls Tryd.prog 10 #[V 2 n ⟨#[]⟩] w fun e w' => e = .returned (.bool (n == 1)) ∧ BW w w' := by
  go_enter Tryd.func10, Tryd.ntmps10
  go_wp2
  go_ret
  exact ⟨rfl, (by repeat (first | exact BW.refl _ | assumption | apply BW.alloc | apply BW.drew | (refine BW.setCell ?_ (by first | omega | (simp; done) | (simp; omega)) _) | (refine BW.trans ?_ (by assumption))))⟩
set_option maxRecDepth 100000 in
set_option maxHeartbeats 400000 in
theorem may_1 (n : Int) (w : World) :
    Calls Tryd.prog 10 #[V 1 n ⟨#[]⟩] w fun e w' => e = .returned (.bool true) ∧ BW w w' := by
  go_enter Tryd.func10, Tryd.ntmps10
  go_wp2
  go_ret
  exact ⟨rfl, (by repeat (first | exact BW.refl _ | assumption | apply BW.alloc | apply BW.drew | (refine BW.setCell ?_ (by first | omega | (simp; done) | (simp; omega)) _) | (refine BW.trans ?_ (by assumption))))⟩
set_option maxRecDepth 100000 in
set_option maxHeartbeats 400000 in
theorem may_4 (t n : Int) (h0 : (t == 0) = false) (h1 : (t == 1) = false) (h2 : (t == 2) = false) (h3 : (t == 3) = false) (h3' : (t != 3) = true) (h : t ≤ 7) (w : World) :
    Calls Tryd.prog 10 #[V t n ⟨#[]⟩] w fun e w' => e = .returned (.bool (decide (0 ≤ n))) ∧ BW w w' := by
  go_enter Tryd.func10, Tryd.ntmps10
  go_wp2
  go_ret
  exact ⟨rfl, (by repeat (first | exact BW.refl _ | assumption | apply BW.alloc | apply BW.drew | (refine BW.setCell ?_ (by first | omega | (simp; done) | (simp; omega)) _) | (refine BW.trans ?_ (by assumption))))⟩
/-- The document's 'may be'. -/
def mayB (t n : Int) (s : ByteArray) : Bool :=
  if 7 < t then false else if t ≠ 3 ∧ s.toList.isEmpty = false then false else if 65536 < s.size then false
  else if t = 0 ∨ t = 3 then n == 0 else if t = 2 then n == 0 || n == 1 else t == 1 || decide (0 ≤ n)
theorem empty_of {s : ByteArray} (h : s.toList.isEmpty = true) : s = ⟨#[]⟩ := by
  apply toList_inj'
  rw [List.isEmpty_iff] at h
  rw [h, ByteArray.toList_eq]
theorem nilE : (⟨#[]⟩ : ByteArray).toList.isEmpty = true := by rw [ByteArray.toList_eq]; rfl
theorem nilS : (⟨#[]⟩ : ByteArray).size = 0 := rfl
theorem may_any (t n : Int) (s : ByteArray) (t0 : 0 ≤ t) (hs : s.size ≤ maxLen) (w : World) :
    Calls Tryd.prog 10 #[V t n s] w fun e w' => e = .returned (.bool (mayB t n s)) ∧ BW w w' := by
  by_cases h7 : 7 < t
  · have e : mayB t n s = false := by simp [mayB, h7]
    rw [e]; exact may_big t n s h7 w
  · by_cases h3 : t = 3
    · subst h3
      by_cases hl : 65536 < s.size
      · have e : mayB 3 n s = false := by simp [mayB, hl]
        rw [e]; exact may_long n s hl hs w
      · have e : mayB 3 n s = (n == 0) := by simp [mayB, hl]
        rw [e]; exact may_3 n s (by omega) w
    · cases he : s.toList.isEmpty with
      | false =>
        have e : mayB t n s = false := by simp [mayB, h7, h3, he]
        rw [e]; exact may_str t n s (by omega) (bne_t h3) he w
      | true =>
        obtain rfl := empty_of he
        by_cases h0 : t = 0
        · subst h0
          have e : mayB 0 n ⟨#[]⟩ = (n == 0) := by simp [mayB, nilS]
          rw [e]; exact may_0 n w
        · by_cases h2 : t = 2
          · subst h2
            by_cases hn : n = 0
            · have e : mayB 2 n ⟨#[]⟩ = true := by simp [mayB, nilS, hn]
              rw [e]; exact may_2a n (beq_t hn) w
            · have e : mayB 2 n ⟨#[]⟩ = (n == 1) := by simp [mayB, nilS, hn]
              rw [e]; exact may_2b n (beq_f hn) w
          · by_cases h1 : t = 1
            · subst h1
              have e : mayB 1 n ⟨#[]⟩ = true := by simp [mayB, nilS]
              rw [e]; exact may_1 n w
            · have e : mayB t n ⟨#[]⟩ = decide (0 ≤ n) := by simp [mayB, h7, h3, nilS, h0, h2, h1]
              rw [e]; exact may_4 t n (beq_f h0) (beq_f h1) (beq_f h2) (beq_f h3) (bne_t h3) (by omega) w
/-- What is told where a value may be. -/
theorem may_tells {t n : Int} {s : ByteArray} (h : mayB t n s = true) : t ≤ 7 ∧ s.size ≤ 65536 ∧ (t ≠ 3 → s = ⟨#[]⟩) ∧ (t = 0 ∨ t = 3 → n = 0) ∧ (t = 2 → n = 0 ∨ n = 1) := by
  unfold mayB at h
  by_cases h7 : 7 < t
  · rw [if_pos h7] at h; cases h
  · rw [if_neg h7] at h
    by_cases h3 : t ≠ 3 ∧ s.toList.isEmpty = false
    · rw [if_pos h3] at h; cases h
    · rw [if_neg h3] at h
      by_cases hl : 65536 < s.size
      · rw [if_pos hl] at h; cases h
      · rw [if_neg hl] at h
        refine ⟨by omega, by omega, fun x => ?_, fun x => ?_, fun x => ?_⟩
        · cases he : s.toList.isEmpty with
          | true => exact empty_of he
          | false => exact absurd ⟨x, he⟩ h3
        · rw [if_pos x] at h; simpa using h
        · rw [if_neg (by omega), if_pos x] at h; simpa using h

theorem may_fine {t n : Int} {s : ByteArray} (h : mayB t n s = true) (t0 : 0 ≤ t) (n0 : -9223372036854775808 ≤ n) (n1 : n ≤ 9223372036854775807) (hs : s.size ≤ 1000) : Fine ⟨t, n, s⟩ := ⟨t0, (may_tells h).1, n0, n1, hs⟩

end Go.Proofs.YtfgnlddfpemblaaDoor
