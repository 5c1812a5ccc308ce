import Derived.Test.YtiokcokmpmpcfaaDoorI2
namespace Go.Proofs.YtiokcokmpmpcfaaDoor
open Go.RowKit
set_option linter.unusedVariables false
set_option linter.unusedSimpArgs false

theorem num_bool (b : Bool) : num (Lib.formatBool b) = false := by cases b <;> decide +kernel
theorem num_unit : num [117, 110, 105, 116] = false := by decide +kernel
theorem bool_unit (b : Bool) : ¬ Lib.formatBool b = [117, 110, 105, 116] := by cases b <;> decide
theorem bool_name (b : Bool) {s : ByteArray} (h : nmB s = true) : ¬ Lib.formatBool b = s.data.toList := by
  obtain ⟨_, _, _, h4, h5, _⟩ := nm_word h
  intro e
  cases b
  · exact h5 (Go.WideShapes.bytes_inj (by rw [← e]; rfl))
  · exact h4 (Go.WideShapes.bytes_inj (by rw [← e]; rfl))
theorem bool_inj {a b : Int} (ha : a = 0 ∨ a = 1) (hb : b = 0 ∨ b = 1) (e : Lib.formatBool (a == 1) = Lib.formatBool (b == 1)) : a = b := by
  rcases ha with rfl | rfl <;> rcases hb with rfl | rfl
  · rfl
  · exact absurd e (by decide)
  · exact absurd e (by decide)
  · rfl
theorem txt_1 {n : Nat} {t : Tr (n + 1)} (h : Nd.k (K := Tr n) t = ((1 : Nat) : Int)) : txt (n + 1) t = Lib.itoa (Nd.n (K := Tr n) t) := by unfold txt; rw [if_pos (by omega)]
theorem txt_2 {n : Nat} {t : Tr (n + 1)} (h : Nd.k (K := Tr n) t = ((2 : Nat) : Int)) : txt (n + 1) t = Lib.formatBool ((Nd.n (K := Tr n) t) == 1) := by unfold txt; rw [if_neg (by omega), if_pos (by omega)]
theorem txt_3 {n : Nat} {t : Tr (n + 1)} (h : Nd.k (K := Tr n) t = ((3 : Nat) : Int)) : txt (n + 1) t = quo (Nd.s (K := Tr n) t).data.toList := by unfold txt; rw [if_neg (by omega), if_neg (by omega), if_pos (by omega)]
theorem txt_4 {n : Nat} {t : Tr (n + 1)} (h : Nd.k (K := Tr n) t = ((4 : Nat) : Int)) : txt (n + 1) t = [117, 110, 105, 116] := by unfold txt; rw [if_neg (by omega), if_neg (by omega), if_neg (by omega), if_pos (by omega)]
theorem txt_5 {n : Nat} {t : Tr (n + 1)} (h : Nd.k (K := Tr n) t = ((5 : Nat) : Int)) : txt (n + 1) t = (Nd.s (K := Tr n) t).data.toList := by unfold txt; rw [if_neg (by omega), if_neg (by omega), if_neg (by omega), if_neg (by omega), if_pos (by omega)]
theorem atom_eq {n : Nat} {a b : Tr (n + 1)} {ka kb : Nat} (ha : Nd.k (K := Tr n) a = ka) (hb : Nd.k (K := Tr n) b = kb) (fa : Fk ka (Nd.n (K := Tr n) a) (Nd.s (K := Tr n) a) (Nd.ns (K := Tr n) a) (Nd.ks (K := Tr n) a).length) (fb : Fk kb (Nd.n (K := Tr n) b) (Nd.s (K := Tr n) b) (Nd.ns (K := Tr n) b) (Nd.ks (K := Tr n) b).length)
    (h5 : ka ≤ 5) (h5' : kb ≤ 5) (h3 : ¬ ka = 3) (h3' : ¬ kb = 3) (e : txt (n + 1) a = txt (n + 1) b) : a = b := by
  have k1 := fa.k1
  have k1' := fb.k1
  have la := fa.nl (by omega)
  have lb := fb.nl (by omega)
  rw [if_neg (by omega), if_neg (by omega)] at la lb
  have nsE : Nd.ns (K := Tr n) a = Nd.ns (K := Tr n) b := by rw [List.length_eq_zero_iff.1 la, List.length_eq_zero_iff.1 lb]
  have ksE : Nd.ks (K := Tr n) a = Nd.ks (K := Tr n) b := by rw [List.length_eq_zero_iff.1 (fa.kl h5), List.length_eq_zero_iff.1 (fb.kl h5')]
  obtain rfl | rfl | rfl | rfl : ka = 1 ∨ ka = 2 ∨ ka = 4 ∨ ka = 5 := by omega
  all_goals obtain rfl | rfl | rfl | rfl : kb = 1 ∨ kb = 2 ∨ kb = 4 ∨ kb = 5 := by omega
  · rw [txt_1 ha, txt_1 hb] at e
    have xa := fa.tx
    have xb := fb.tx
    simp at xa xb
    exact nd_ext (ha.trans hb.symm) (itoa_inj _ _ e) (by rw [xa, xb]) nsE ksE
  · rw [txt_1 ha, txt_2 hb] at e
    have xa := fa.tx
    have xb := fb.tx
    simp at xa xb
    exact absurd (congrArg num e) (by rw [(itoa_word _).2, num_bool _]; decide)
  · rw [txt_1 ha, txt_4 hb] at e
    have xa := fa.tx
    have xb := fb.tx
    simp at xa xb
    exact absurd (congrArg num e) (by rw [(itoa_word _).2, num_unit]; decide)
  · rw [txt_1 ha, txt_5 hb] at e
    have xa := fa.tx
    have xb := fb.tx
    simp at xa xb
    exact absurd (congrArg num e) (by rw [(itoa_word _).2, (nm_word xb).2.2.1]; decide)
  · rw [txt_2 ha, txt_1 hb] at e
    have xa := fa.tx
    have xb := fb.tx
    simp at xa xb
    exact absurd (congrArg num e) (by rw [num_bool _, (itoa_word _).2]; decide)
  · rw [txt_2 ha, txt_2 hb] at e
    have xa := fa.tx
    have xb := fb.tx
    simp at xa xb
    exact nd_ext (ha.trans hb.symm) (bool_inj (fa.n2 rfl) (fb.n2 rfl) e) (by rw [xa, xb]) nsE ksE
  · rw [txt_2 ha, txt_4 hb] at e
    have xa := fa.tx
    have xb := fb.tx
    simp at xa xb
    exact absurd e (bool_unit _)
  · rw [txt_2 ha, txt_5 hb] at e
    have xa := fa.tx
    have xb := fb.tx
    simp at xa xb
    exact absurd e (bool_name _ xb)
  · rw [txt_4 ha, txt_1 hb] at e
    have xa := fa.tx
    have xb := fb.tx
    simp at xa xb
    exact absurd (congrArg num e) (by rw [num_unit, (itoa_word _).2]; decide)
  · rw [txt_4 ha, txt_2 hb] at e
    have xa := fa.tx
    have xb := fb.tx
    simp at xa xb
    exact absurd e.symm (bool_unit _)
  · rw [txt_4 ha, txt_4 hb] at e
    have xa := fa.tx
    have xb := fb.tx
    simp at xa xb
    exact nd_ext (ha.trans hb.symm) (by rw [fa.n0 (by decide), fb.n0 (by decide)]) (by rw [xa, xb]) nsE ksE
  · rw [txt_4 ha, txt_5 hb] at e
    have xa := fa.tx
    have xb := fb.tx
    simp at xa xb
    exact absurd (Go.WideShapes.bytes_inj e.symm) (nm_word xb).2.2.2.2.2
  · rw [txt_5 ha, txt_1 hb] at e
    have xa := fa.tx
    have xb := fb.tx
    simp at xa xb
    exact absurd (congrArg num e) (by rw [(nm_word xa).2.2.1, (itoa_word _).2]; decide)
  · rw [txt_5 ha, txt_2 hb] at e
    have xa := fa.tx
    have xb := fb.tx
    simp at xa xb
    exact absurd e.symm (bool_name _ xa)
  · rw [txt_5 ha, txt_4 hb] at e
    have xa := fa.tx
    have xb := fb.tx
    simp at xa xb
    exact absurd (Go.WideShapes.bytes_inj e) (nm_word xa).2.2.2.2.2
  · rw [txt_5 ha, txt_5 hb] at e
    have xa := fa.tx
    have xb := fb.tx
    simp at xa xb
    exact nd_ext (ha.trans hb.symm) (by rw [fa.n0 (by decide), fb.n0 (by decide)]) (Go.WideShapes.bytes_inj e) nsE ksE
theorem low_first {n : Nat} {t : Tr (n + 1)} {k : Nat} (hr : rt (n + 1) t = true) (hk : Nd.k (K := Tr n) t = k) (h1 : 1 ≤ k) (h5 : k ≤ 5) : ∃ c q, txt (n + 1) t = c :: q ∧ (k = 3 → c = 34) ∧ (¬ k = 3 → plB c = true) := by
  by_cases h3 : k = 3
  · subst h3
    exact ⟨34, _, txt_3 hk, fun _ => rfl, fun h => absurd rfl h⟩
  · have hw := at_word hr (by omega)
    have hn := txt_ne t hr
    cases ht : txt (n + 1) t with
    | nil => exact absurd ht hn
    | cons c q =>
      rw [ht] at hw
      simp only [List.all_cons, Bool.and_eq_true] at hw
      exact ⟨c, q, rfl, fun h => absurd h h3, fun _ => hw.1⟩
theorem md_dl (k : Nat) (x : ByteArray) (ns : List ByteArray) (Z : List UInt8) (h : Dl Z) : Dl (md k x ns ++ Z) := by
  unfold md
  split
  · simpa using h
  · split
    · exact dl32 _
    · split
      · exact fl_dl ns Z h
      · exact fl_dl (x :: ns) Z h
theorem kids_dl {n : Nat} (l : List (Tr n)) (Z : List UInt8) : Dl (l.flatMap (fun x => 32 :: txt n x) ++ 41 :: Z) := by
  cases l with
  | nil => exact dl41 Z
  | cons c d => simp only [List.flatMap_cons, List.cons_append]; exact dl32 _
theorem inj : ∀ (n : Nat) (a b : Tr n) (X Y : List UInt8), rt n a = true → rt n b = true → Dl X → Dl Y → txt n a ++ X = txt n b ++ Y → a = b ∧ X = Y := by
  intro n
  induction n with
  | zero => intro a; exact a.elim
  | succ n ih =>
    intro a b X Y hra hrb hX hY h
    obtain ⟨ka, ha, fa⟩ := rt_fk hra
    obtain ⟨kb, hb, fb⟩ := rt_fk hrb
    have kA := (rt_kids hra).2
    have kB := (rt_kids hrb).2
    by_cases A6 : 6 ≤ ka
    · by_cases B6 : 6 ≤ kb
      · rw [br_text ha A6, br_text hb B6] at h
        simp only [List.cons_append, List.append_assoc, List.nil_append, List.cons.injEq, true_and] at h
        obtain ⟨e1, e2⟩ := word_pre _ _ _ _ (fw_word fa A6) (fw_word fb B6) (md_dl _ _ _ _ (kids_dl _ _)) (md_dl _ _ _ _ (kids_dl _ _)) h
        obtain ⟨rfl, ex⟩ := fw_inj fa fb A6 B6 (Go.WideShapes.bytes_inj e1)
        obtain ⟨ex2, en, e3⟩ := md_pre fa fb A6 ex (kids_dl _ _) (kids_dl _ _) e2
        obtain ⟨ek, e4⟩ := kids_pre ih _ _ X Y kA kB e3
        exact ⟨nd_ext (ha.trans hb.symm) (by rw [fa.n0 (by omega), fb.n0 (by omega)]) ex2 en ek, e4⟩
      · exfalso
        obtain ⟨c, q, e, h3, h4⟩ := low_first hrb hb fb.k1 (by omega)
        rw [br_text ha A6, e] at h
        simp only [List.cons_append, List.cons.injEq] at h
        by_cases k3 : kb = 3
        · rw [h3 k3] at h; exact absurd h.1 (by decide)
        · have := h4 k3; rw [← h.1] at this; exact absurd this (by decide)
    · by_cases B6 : 6 ≤ kb
      · exfalso
        obtain ⟨c, q, e, h3, h4⟩ := low_first hra ha fa.k1 (by omega)
        rw [br_text hb B6, e] at h
        simp only [List.cons_append, List.cons.injEq] at h
        by_cases k3 : ka = 3
        · rw [h3 k3] at h; exact absurd h.1 (by decide)
        · have := h4 k3; rw [h.1] at this; exact absurd this (by decide)
      · by_cases A3 : ka = 3
        · by_cases B3 : kb = 3
          · subst A3; subst B3
            rw [txt_3 ha, txt_3 hb] at h
            obtain ⟨e1, e2⟩ := quo_pre _ _ X Y h
            have la := fa.nl (by omega)
            have lb := fb.nl (by omega)
            rw [if_neg (by omega), if_neg (by omega)] at la lb
            exact ⟨nd_ext (ha.trans hb.symm) (by rw [fa.n0 (by omega), fb.n0 (by omega)]) (Go.WideShapes.bytes_inj e1) (by rw [List.length_eq_zero_iff.1 la, List.length_eq_zero_iff.1 lb]) (by rw [List.length_eq_zero_iff.1 (fa.kl (by omega)), List.length_eq_zero_iff.1 (fb.kl (by omega))]), e2⟩
          · exfalso
            obtain ⟨c, q, e, h3, h4⟩ := low_first hra ha fa.k1 (by omega)
            obtain ⟨c', q', e', h3', h4'⟩ := low_first hrb hb fb.k1 (by omega)
            rw [e, e'] at h
            simp only [List.cons_append, List.cons.injEq] at h
            have := h4' B3
            rw [← h.1, h3 A3] at this
            exact absurd this (by decide)
        · by_cases B3 : kb = 3
          · exfalso
            obtain ⟨c, q, e, h3, h4⟩ := low_first hra ha fa.k1 (by omega)
            obtain ⟨c', q', e', h3', h4'⟩ := low_first hrb hb fb.k1 (by omega)
            rw [e, e'] at h
            simp only [List.cons_append, List.cons.injEq] at h
            have := h4 A3
            rw [h.1, h3' B3] at this
            exact absurd this (by decide)
          · have k1 := fa.k1
            have k1' := fb.k1
            obtain ⟨e1, e2⟩ := word_pre _ _ _ _ (at_word hra (by omega)) (at_word hrb (by omega)) hX hY h
            exact ⟨atom_eq ha hb fa fb (by omega) (by omega) A3 B3 e1, e2⟩

end Go.Proofs.YtiokcokmpmpcfaaDoor
