import Derived.Test.YtndhhmgbekcfoaaDoorT0
namespace Go.Proofs.YtndhhmgbekcfoaaDoor
open Go.RowKit
set_option linter.unusedVariables false
set_option linter.unusedSimpArgs false

def ones : List ByteArray := [⟨#[110, 101, 103]⟩, ⟨#[110, 111, 116]⟩, ⟨#[108, 101, 110]⟩, ⟨#[105, 56]⟩, ⟨#[105, 49, 54]⟩, ⟨#[105, 51, 50]⟩, ⟨#[117, 56]⟩, ⟨#[117, 49, 54]⟩, ⟨#[117, 51, 50]⟩]
def twos : List ByteArray := [⟨#[43]⟩, ⟨#[45]⟩, ⟨#[42]⟩, ⟨#[47]⟩, ⟨#[37]⟩, ⟨#[97, 110, 100]⟩, ⟨#[111, 114]⟩, ⟨#[120, 111, 114]⟩, ⟨#[115, 104, 108]⟩, ⟨#[115, 104, 114]⟩, ⟨#[117, 115, 104, 114]⟩, ⟨#[60]⟩, ⟨#[61]⟩, ⟨#[99, 97, 116]⟩, ⟨#[97, 116]⟩]
def five : List ByteArray := [⟨#[102, 115, 116]⟩, ⟨#[115, 110, 100]⟩, ⟨#[99, 101, 108, 108]⟩, ⟨#[103, 101, 116]⟩, ⟨#[111, 117, 116]⟩]
theorem StrsAt.new (w : World) (l : List ByteArray) (h : l.length ≤ 1000) (hs : ∀ s ∈ l, s.size ≤ 1000) : StrsAt (w.alloc (.cells (l.map Value.string).toArray 9)) (some ⟨w.heap.size, 0, none⟩) l.length l := by
  refine ⟨rfl, by unfold maxLen; omega, fun s h => by have := hs s h; unfold maxLen; omega, .inr ⟨_, _, rfl, by simp, fun i s hi => ?_⟩⟩
  rw [cell_new]
  simp [hi]
set_option maxRecDepth 100000 in
set_option maxHeartbeats 1000000 in
theorem ones_any (w : World) : Calls Tryd.prog 86 #[] w fun e w' => (∃ ao cp, e = .returned (.slice ao 9 cp) ∧ StrsAt w' ao 9 ones) ∧ BW w w' := by
  go_enter Tryd.func86, Tryd.ntmps86
  go_wp2_with (fail)
  go_ret
  exact ⟨⟨_, _, rfl, StrsAt.new w ones (by decide) (by decide)⟩, (by repeat (first | exact BW.refl _ | assumption | apply BW.alloc | apply BW.drewN | apply BW.drew | (refine BW.setCell ?_ (by first | omega | (simp; done) | (simp; omega)) _) | (refine BW.trans ?_ (by assumption))))⟩
set_option maxRecDepth 100000 in
set_option maxHeartbeats 1000000 in
theorem twos_any (w : World) : Calls Tryd.prog 87 #[] w fun e w' => (∃ ao cp, e = .returned (.slice ao 15 cp) ∧ StrsAt w' ao 15 twos) ∧ BW w w' := by
  go_enter Tryd.func87, Tryd.ntmps87
  go_wp2_with (fail)
  go_ret
  exact ⟨⟨_, _, rfl, StrsAt.new w twos (by decide) (by decide)⟩, (by repeat (first | exact BW.refl _ | assumption | apply BW.alloc | apply BW.drewN | apply BW.drew | (refine BW.setCell ?_ (by first | omega | (simp; done) | (simp; omega)) _) | (refine BW.trans ?_ (by assumption))))⟩
theorem tk_ref (s : ByteArray) : tk s.data.toList = if s = ⟨#[105, 110]⟩ then 0 else if inB ones s || inB five s then 1 else if inB twos s || decide (s = ⟨#[112, 97, 105, 114]⟩) || decide (s = ⟨#[115, 101, 116]⟩) then 2 else -1 := by
  by_cases h : ∃ k, k < 32 ∧ (wk k).data.toList = s.data.toList
  · obtain ⟨k, hk, he⟩ := h
    have := Go.WideShapes.bytes_inj he
    subst this
    clear he
    match k, hk with

    | 0, _ => decide +kernel
    | 1, _ => decide +kernel
    | 2, _ => decide +kernel
    | 3, _ => decide +kernel
    | 4, _ => decide +kernel
    | 5, _ => decide +kernel
    | 6, _ => decide +kernel
    | 7, _ => decide +kernel
    | 8, _ => decide +kernel
    | 9, _ => decide +kernel
    | 10, _ => decide +kernel
    | 11, _ => decide +kernel
    | 12, _ => decide +kernel
    | 13, _ => decide +kernel
    | 14, _ => decide +kernel
    | 15, _ => decide +kernel
    | 16, _ => decide +kernel
    | 17, _ => decide +kernel
    | 18, _ => decide +kernel
    | 19, _ => decide +kernel
    | 20, _ => decide +kernel
    | 21, _ => decide +kernel
    | 22, _ => decide +kernel
    | 23, _ => decide +kernel
    | 24, _ => decide +kernel
    | 25, _ => decide +kernel
    | 26, _ => decide +kernel
    | 27, _ => decide +kernel
    | 28, _ => decide +kernel
    | 29, _ => decide +kernel
    | 30, _ => decide +kernel
    | 31, _ => decide +kernel
    | n + 32, hk => exact absurd hk (by omega)
  · have h2 : ∀ j, j < 32 → ¬ (wk j).data.toList = s.data.toList := fun j hj he => h ⟨j, hj, he⟩
    rw [tk_none h2]
    have h3 : ∀ j, j < 32 → ¬ wk j = s := fun j hj he => h2 j hj (by rw [he])
    have q0 := h3 0 (by decide)
    have q1 := h3 1 (by decide)
    have q2 := h3 2 (by decide)
    have q3 := h3 3 (by decide)
    have q4 := h3 4 (by decide)
    have q5 := h3 5 (by decide)
    have q6 := h3 6 (by decide)
    have q7 := h3 7 (by decide)
    have q8 := h3 8 (by decide)
    have q9 := h3 9 (by decide)
    have q10 := h3 10 (by decide)
    have q11 := h3 11 (by decide)
    have q12 := h3 12 (by decide)
    have q13 := h3 13 (by decide)
    have q14 := h3 14 (by decide)
    have q15 := h3 15 (by decide)
    have q16 := h3 16 (by decide)
    have q17 := h3 17 (by decide)
    have q18 := h3 18 (by decide)
    have q19 := h3 19 (by decide)
    have q20 := h3 20 (by decide)
    have q21 := h3 21 (by decide)
    have q22 := h3 22 (by decide)
    have q23 := h3 23 (by decide)
    have q24 := h3 24 (by decide)
    have q25 := h3 25 (by decide)
    have q26 := h3 26 (by decide)
    have q27 := h3 27 (by decide)
    have q28 := h3 28 (by decide)
    have q29 := h3 29 (by decide)
    have q30 := h3 30 (by decide)
    have q31 := h3 31 (by decide)
    clear h3 h2 h
    have e0 : ¬ s = ⟨#[105, 110]⟩ := fun e => q0 e.symm
    have e1 : ¬ s = ⟨#[112, 97, 105, 114]⟩ := fun e => q30 e.symm
    have e2 : ¬ s = ⟨#[115, 101, 116]⟩ := fun e => q31 e.symm
    have i1 : inB ones s = false := by
      simp only [inB, ones, List.any_cons, List.any_nil, Bool.or_eq_false_iff, decide_eq_false_iff_not]
      exact ⟨q1, q2, q3, q4, q5, q6, q7, q8, q9, trivial⟩
    have i2 : inB five s = false := by
      simp only [inB, five, List.any_cons, List.any_nil, Bool.or_eq_false_iff, decide_eq_false_iff_not]
      exact ⟨q10, q11, q12, q13, q14, trivial⟩
    have i3 : inB twos s = false := by
      simp only [inB, twos, List.any_cons, List.any_nil, Bool.or_eq_false_iff, decide_eq_false_iff_not]
      exact ⟨q15, q16, q17, q18, q19, q20, q21, q22, q23, q24, q25, q26, q27, q28, q29, trivial⟩
    simp [e0, e1, e2, i1, i2, i3]
set_option maxRecDepth 100000 in
set_option maxHeartbeats 1000000 in
theorem refTakes_in (w : World) : Calls Tryd.prog 72 #[.string ⟨#[105, 110]⟩] w fun e w' => e = .returned (.int .i64 (if (⟨#[105, 110]⟩ : ByteArray) = ⟨#[105, 110]⟩ then 0 else if inB ones ⟨#[105, 110]⟩ || inB five ⟨#[105, 110]⟩ then 1 else if inB twos ⟨#[105, 110]⟩ || decide ((⟨#[105, 110]⟩ : ByteArray) = ⟨#[112, 97, 105, 114]⟩) || decide ((⟨#[105, 110]⟩ : ByteArray) = ⟨#[115, 101, 116]⟩) then 2 else -1)) ∧ BW w w' := by
  rw [if_pos rfl]
  go_enter Tryd.func72, Tryd.ntmps72
  go_wp2_with (fail)
  go_ret
  exact ⟨rfl, (by repeat (first | exact BW.refl _ | assumption | apply BW.alloc | apply BW.drewN | apply BW.drew | (refine BW.setCell ?_ (by first | omega | (simp; done) | (simp; omega)) _) | (refine BW.trans ?_ (by assumption))))⟩
theorem lit_ne {s : ByteArray} {l : List UInt8} (h : ¬ s = ⟨l.toArray⟩) : (s.toList == l) = false ∧ ¬ s.toList = l := by
  have : ¬ s.toList = l := fun e => h ((bytes_eq' s ⟨l.toArray⟩).1 (by rw [e, ByteArray.toList_eq]))
  exact ⟨by simpa using this, this⟩
set_option maxRecDepth 100000 in
set_option maxHeartbeats 1000000 in
theorem refTakes_1 (s : ByteArray) (w : World) (c1 : Hid (inB ones s = true)) (e0 : (s.toList == [105, 110]) = false) (e0' : ¬ s.toList = [105, 110]) : Calls Tryd.prog 72 #[.string s] w fun e w' => e = .returned (.int .i64 1) ∧ BW w w' := by
  go_enter Tryd.func72, Tryd.ntmps72
  go_wp2_with (go_at_call 86; refine (ones_any _).mono ?_; rintro e w1 ⟨⟨ao, cp, rfl, hs1⟩, bb1⟩)
  refine (refIn_any s ao 9 cp ones _ hs1).mono ?_
  rw [c1.out]
  rintro e w2 ⟨rfl, rfl⟩
  go_wp2_with (fail)
  go_ret
  exact ⟨rfl, (by repeat (first | exact BW.refl _ | assumption | apply BW.alloc | apply BW.drewN | apply BW.drew | (refine BW.setCell ?_ (by first | omega | (simp; done) | (simp; omega)) _) | (refine BW.trans ?_ (by assumption))))⟩
set_option maxRecDepth 100000 in
set_option maxHeartbeats 1000000 in
theorem refTakes_2 (s : ByteArray) (w : World) (c1 : Hid (inB ones s = false)) (c2 : Hid (inB five s = true)) (e0 : (s.toList == [105, 110]) = false) (e0' : ¬ s.toList = [105, 110]) : Calls Tryd.prog 72 #[.string s] w fun e w' => e = .returned (.int .i64 1) ∧ BW w w' := by
  go_enter Tryd.func72, Tryd.ntmps72
  go_wp2_with (go_at_call 86; refine (ones_any _).mono ?_; rintro e w1 ⟨⟨ao, cp, rfl, hs1⟩, bb1⟩)
  refine (refIn_any s ao 9 cp ones _ hs1).mono ?_
  rw [c1.out]
  rintro e w2 ⟨rfl, rfl⟩
  go_wp2_with (fail)
  refine (refIn_any s _ 5 5 five _ (StrsAt.new _ five (by decide) (by decide))).mono ?_
  rw [c2.out]
  rintro e w5 ⟨rfl, rfl⟩
  go_wp2_with (fail)
  go_ret
  exact ⟨rfl, (by repeat (first | exact BW.refl _ | assumption | apply BW.alloc | apply BW.drewN | apply BW.drew | (refine BW.setCell ?_ (by first | omega | (simp; done) | (simp; omega)) _) | (refine BW.trans ?_ (by assumption))))⟩
set_option maxRecDepth 100000 in
set_option maxHeartbeats 1000000 in
theorem refTakes_3 (s : ByteArray) (w : World) (c1 : Hid (inB ones s = false)) (c2 : Hid (inB five s = false)) (b3 b4 b5 : Bool) (c3 : Hid (inB twos s = b3)) (e4 : (s.toList == [112, 97, 105, 114]) = b4) (e5 : (s.toList == [115, 101, 116]) = b5) (e0 : (s.toList == [105, 110]) = false) (e0' : ¬ s.toList = [105, 110]) : Calls Tryd.prog 72 #[.string s] w fun e w' => e = .returned (.int .i64 (if b3 || b4 || b5 then 2 else -1)) ∧ BW w w' := by
  go_enter Tryd.func72, Tryd.ntmps72
  go_wp2_with (go_at_call 86; refine (ones_any _).mono ?_; rintro e w1 ⟨⟨ao, cp, rfl, hs1⟩, bb1⟩)
  refine (refIn_any s ao 9 cp ones _ hs1).mono ?_
  rw [c1.out]
  rintro e w2 ⟨rfl, rfl⟩
  go_wp2_with (fail)
  refine (refIn_any s _ 5 5 five _ (StrsAt.new _ five (by decide) (by decide))).mono ?_
  rw [c2.out]
  rintro e w5 ⟨rfl, rfl⟩
  go_wp2_with (go_at_call 87; refine (twos_any _).mono ?_; rintro e w3 ⟨⟨ao3, cp3, rfl, hs3⟩, bb3⟩)
  refine (refIn_any s ao3 15 cp3 twos _ hs3).mono ?_
  rw [c3.out]
  rintro e w4 ⟨rfl, rfl⟩
  have BB : Hid (BW w w4) := (by repeat (first | exact BW.refl _ | assumption | apply BW.alloc | apply BW.drewN | apply BW.drew | (refine BW.setCell ?_ (by first | omega | (simp; done) | (simp; omega)) _) | (refine BW.trans ?_ (by assumption))))
  clear bb1 bb3 hs1 hs3
  cases b3 <;> cases b4 <;> cases b5
  all_goals (go_wp2_with (fail); go_ret; exact ⟨rfl, BB.out⟩)
theorem refTakes_any (s : ByteArray) (w : World) : Calls Tryd.prog 72 #[.string s] w fun e w' => e = .returned (.int .i64 (tk s.data.toList)) ∧ BW w w' := by
  rw [tk_ref s]
  by_cases h0 : s = ⟨#[105, 110]⟩
  · subst h0
    exact refTakes_in w
  · obtain ⟨e0, e0'⟩ := lit_ne (l := [105, 110]) h0
    rw [if_neg h0]
    have q : ∀ l : List UInt8, (s.toList == l) = decide (s = ⟨l.toArray⟩) := by
      intro l
      by_cases h : s = ⟨l.toArray⟩
      · rw [h, ByteArray.toList_eq]; simp
      · rw [(lit_ne h).1]; simp [h]
    cases c1 : inB ones s with
    | true => exact refTakes_1 s w c1 e0 e0'
    | false =>
      cases c2 : inB five s with
      | true => exact refTakes_2 s w c1 c2 e0 e0'
      | false => exact refTakes_3 s w c1 c2 _ _ _ rfl (q _) (q _) e0 e0'

end Go.Proofs.YtndhhmgbekcfoaaDoor
