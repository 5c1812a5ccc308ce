import Derived.Test.YtiokcokmpmpcfaaDoorD4
namespace Go.Proofs.YtiokcokmpmpcfaaDoor
open Go.RowKit
set_option linter.unusedVariables false
set_option linter.unusedSimpArgs false

theorem hexd_inj : ∀ a b : Fin 16, hexd a.1 = hexd b.1 → a = b := by decide
theorem hexd_inj' (a b : Nat) (ha : a < 16) (hb : b < 16) (h : hexd a = hexd b) : a = b := by
  have := hexd_inj ⟨a, ha⟩ ⟨b, hb⟩ h
  simpa using this
/-- The three ways of a letter. -/
theorem way (c : UInt8) : (c = 34 ∨ c = 92) ∧ esc c = [92, c] ∨ c ≠ 34 ∧ c ≠ 92 ∧ esc c = [c] ∨ esc c = [92, 120, hexd (c.toNat / 16), hexd (c.toNat % 16)] := by
  by_cases h : c = 34 ∨ c = 92
  · exact .inl ⟨h, esc_two c h⟩
  · by_cases h2 : 32 ≤ c.toNat ∧ c.toNat ≤ 126
    · refine .inr (.inl ⟨fun e => h (.inl e), fun e => h (.inr e), ?_⟩)
      unfold esc; rw [if_neg h, if_pos h2]
    · refine .inr (.inr ?_)
      unfold esc; rw [if_neg h, if_neg h2]
theorem esc_pre (a b : UInt8) (X Y : List UInt8) (h : esc a ++ X = esc b ++ Y) : a = b ∧ X = Y := by
  rcases way a with ⟨ha, ea⟩ | ⟨ha, ha2, ea⟩ | ea <;> rcases way b with ⟨hb, eb⟩ | ⟨hb, hb2, eb⟩ | eb <;> rw [ea, eb] at h <;> simp only [List.cons_append, List.nil_append, List.cons.injEq] at h
  · exact ⟨h.2.1, h.2.2⟩
  · exact absurd h.1.symm hb2
  · rcases ha with rfl | rfl <;> exact absurd h.2.1 (by decide)
  · exact absurd h.1 ha2
  · exact h
  · exact absurd h.1 ha2
  · rcases hb with rfl | rfl <;> exact absurd h.2.1 (by decide)
  · exact absurd h.1.symm hb2
  · have l1 := a.toNat_lt
    have l2 := b.toNat_lt
    have q1 := hexd_inj' _ _ (by omega) (by omega) h.2.2.1
    have q2 := hexd_inj' _ _ (by omega) (by omega) h.2.2.2.1
    exact ⟨UInt8.toNat_inj.1 (by omega), h.2.2.2.2⟩
theorem esc_ne34 (c : UInt8) (X Y : List UInt8) : 34 :: X ≠ esc c ++ Y := by
  rcases way c with ⟨_, h⟩ | ⟨h1, _, h⟩ | h
  · rw [h]; intro e; simp at e
  · rw [h]; intro e; simp at e; exact h1 e.1.symm
  · rw [h]; intro e; simp at e
theorem flat_pre : ∀ (l m X Y : List UInt8), l.flatMap esc ++ 34 :: X = m.flatMap esc ++ 34 :: Y → l = m ∧ X = Y := by
  intro l
  induction l with
  | nil =>
    intro m X Y h
    cases m with
    | nil => simp at h; exact ⟨rfl, h⟩
    | cons b q =>
      simp only [List.flatMap_nil, List.nil_append, List.flatMap_cons, List.append_assoc] at h
      exact absurd h (esc_ne34 b _ _)
  | cons a r ih =>
    intro m X Y h
    cases m with
    | nil =>
      simp only [List.flatMap_nil, List.nil_append, List.flatMap_cons, List.append_assoc] at h
      exact absurd h.symm (esc_ne34 a _ _)
    | cons b q =>
      simp only [List.flatMap_cons, List.append_assoc] at h
      obtain ⟨rfl, h2⟩ := esc_pre a b _ _ h
      obtain ⟨rfl, h3⟩ := ih q X Y h2
      exact ⟨rfl, h3⟩
theorem quo_pre (l m X Y : List UInt8) (h : quo l ++ X = quo m ++ Y) : l = m ∧ X = Y := by
  simp only [quo, List.cons_append, List.append_assoc, List.nil_append, List.cons.injEq, true_and] at h
  exact flat_pre l m X Y h
/-- What may stand behind a word: nothing, or a byte that isn't a word's. -/
def Dl (r : List UInt8) : Prop := r = [] ∨ ∃ c q, r = c :: q ∧ plB c = false
theorem word_pre : ∀ (l m X Y : List UInt8), l.all plB = true → m.all plB = true → Dl X → Dl Y → l ++ X = m ++ Y → l = m ∧ X = Y := by
  intro l
  induction l with
  | nil =>
    intro m X Y _ hm hX _ h
    cases m with
    | nil => exact ⟨rfl, by simpa using h⟩
    | cons b q =>
      exfalso
      simp only [List.all_cons, Bool.and_eq_true] at hm
      rcases hX with rfl | ⟨c, q', rfl, hc⟩
      · simp at h
      · simp at h; rw [h.1] at hc; rw [hm.1] at hc; cases hc
  | cons a r ih =>
    intro m X Y hl hm hX hY h
    simp only [List.all_cons, Bool.and_eq_true] at hl
    cases m with
    | nil =>
      exfalso
      rcases hY with rfl | ⟨c, q', rfl, hc⟩
      · simp at h
      · simp at h; rw [← h.1] at hc; rw [hl.1] at hc; cases hc
    | cons b q =>
      simp only [List.all_cons, Bool.and_eq_true] at hm
      simp only [List.cons_append, List.cons.injEq] at h
      obtain ⟨rfl, h2⟩ := h
      obtain ⟨rfl, h3⟩ := ih q X Y hl.2 hm.2 hX hY h2
      exact ⟨rfl, h3⟩
theorem dl32 (q : List UInt8) : Dl (32 :: q) := .inr ⟨32, q, rfl, by decide⟩
theorem dl41 (q : List UInt8) : Dl (41 :: q) := .inr ⟨41, q, rfl, by decide⟩
/-- Words with a blank ahead of each. -/
def fl (l : List ByteArray) : List UInt8 := l.flatMap (fun x => 32 :: x.data.toList)
theorem bj_fl (a : ByteArray) (l : List ByteArray) : bj (a :: l) = a.data.toList ++ fl l := by
  induction l generalizing a with
  | nil => rw [bj_one]; simp [fl]
  | cons b r ih => rw [bj_cons a (b :: r) (by simp), ih b]; simp [fl]
theorem fl_dl (l : List ByteArray) (X : List UInt8) (h : Dl X) : Dl (fl l ++ X) := by
  cases l with
  | nil => simpa [fl] using h
  | cons a r => simp only [fl, List.flatMap_cons, List.cons_append]; exact dl32 _
/-- As many words: the same, and what is behind is. -/
theorem fl_pre : ∀ (l m : List ByteArray) (X Y : List UInt8), l.length = m.length → (∀ s ∈ l, s.data.toList.all plB = true) → (∀ s ∈ m, s.data.toList.all plB = true) → Dl X → Dl Y → fl l ++ X = fl m ++ Y → l = m ∧ X = Y := by
  intro l
  induction l with
  | nil =>
    intro m X Y hl _ _ _ _ h
    cases m with
    | nil => exact ⟨rfl, by simpa [fl] using h⟩
    | cons b q => simp at hl
  | cons a r ih =>
    intro m X Y hl h1 h2 hX hY h
    cases m with
    | nil => simp at hl
    | cons b q =>
      simp only [fl, List.flatMap_cons, List.cons_append, List.append_assoc, List.cons.injEq, true_and] at h
      obtain ⟨e1, e2⟩ := word_pre _ _ _ _ (h1 a List.mem_cons_self) (h2 b List.mem_cons_self) (fl_dl r X hX) (fl_dl q Y hY) h
      obtain ⟨rfl, e3⟩ := ih q X Y (by simpa using hl) (fun s hs => h1 s (List.mem_cons_of_mem _ hs)) (fun s hs => h2 s (List.mem_cons_of_mem _ hs)) hX hY e2
      exact ⟨by rw [Go.WideShapes.bytes_inj e1], e3⟩
/-- Words up to a bracket. -/
theorem fl_pre41 : ∀ (l m : List ByteArray) (X Y : List UInt8), (∀ s ∈ l, s.data.toList.all plB = true) → (∀ s ∈ m, s.data.toList.all plB = true) → fl l ++ 41 :: X = fl m ++ 41 :: Y → l = m ∧ X = Y := by
  intro l
  induction l with
  | nil =>
    intro m X Y _ _ h
    cases m with
    | nil => simp [fl] at h; exact ⟨rfl, h⟩
    | cons b q => simp [fl] at h
  | cons a r ih =>
    intro m X Y h1 h2 h
    cases m with
    | nil => simp [fl] at h
    | cons b q =>
      simp only [fl, List.flatMap_cons, List.cons_append, List.append_assoc, List.cons.injEq, true_and] at h
      obtain ⟨e1, e2⟩ := word_pre _ _ _ _ (h1 a List.mem_cons_self) (h2 b List.mem_cons_self) (fl_dl r _ (dl41 X)) (fl_dl q _ (dl41 Y)) h
      obtain ⟨rfl, e3⟩ := ih q X Y (fun s hs => h1 s (List.mem_cons_of_mem _ hs)) (fun s hs => h2 s (List.mem_cons_of_mem _ hs)) e2
      exact ⟨by rw [Go.WideShapes.bytes_inj e1], e3⟩
theorem bj_pre41 (l m : List ByteArray) (X Y : List UInt8) (h1 : ∀ s ∈ l, s.data.toList.all plB = true ∧ s.data.toList ≠ []) (h2 : ∀ s ∈ m, s.data.toList.all plB = true ∧ s.data.toList ≠ []) (h : bj l ++ 41 :: X = bj m ++ 41 :: Y) : l = m ∧ X = Y := by
  cases l with
  | nil =>
    cases m with
    | nil => simp [bj_nil] at h; exact ⟨rfl, h⟩
    | cons b q =>
      exfalso
      rw [bj_nil, bj_fl, List.append_assoc] at h
      obtain ⟨hb, hn⟩ := h2 b List.mem_cons_self
      cases hbl : b.data.toList with
      | nil => exact hn hbl
      | cons c z =>
        rw [hbl] at h hb
        simp only [List.nil_append, List.cons_append, List.cons.injEq] at h
        simp only [List.all_cons, Bool.and_eq_true] at hb
        rw [← h.1] at hb
        exact absurd hb.1 (by decide)
  | cons a r =>
    cases m with
    | nil =>
      exfalso
      rw [bj_nil, bj_fl, List.append_assoc] at h
      obtain ⟨hb, hn⟩ := h1 a List.mem_cons_self
      cases hbl : a.data.toList with
      | nil => exact hn hbl
      | cons c z =>
        rw [hbl] at h hb
        simp only [List.nil_append, List.cons_append, List.cons.injEq] at h
        simp only [List.all_cons, Bool.and_eq_true] at hb
        rw [h.1] at hb
        exact absurd hb.1 (by decide)
    | cons b q =>
      rw [bj_fl, bj_fl, List.append_assoc, List.append_assoc] at h
      obtain ⟨e1, e2⟩ := word_pre _ _ _ _ (h1 a List.mem_cons_self).1 (h2 b List.mem_cons_self).1 (fl_dl r _ (dl41 X)) (fl_dl q _ (dl41 Y)) h
      obtain ⟨rfl, e3⟩ := fl_pre41 r q X Y (fun s hs => (h1 s (List.mem_cons_of_mem _ hs)).1) (fun s hs => (h2 s (List.mem_cons_of_mem _ hs)).1) e2
      exact ⟨by rw [Go.WideShapes.bytes_inj e1], e3⟩
theorem nm_word {s : ByteArray} (h : nmB s = true) : s.data.toList.all plB = true ∧ s.data.toList ≠ [] ∧ num s.data.toList = false ∧ ¬ s = ⟨#[116, 114, 117, 101]⟩ ∧ ¬ s = ⟨#[102, 97, 108, 115, 101]⟩ ∧ ¬ s = ⟨#[117, 110, 105, 116]⟩ := by
  simp only [nmB, wdB, wordB, Bool.and_eq_true, Bool.not_eq_true', decide_eq_true_eq, decide_eq_false_iff_not] at h
  obtain ⟨⟨⟨⟨_, ⟨h1, h2⟩, h3⟩, h4⟩, h5⟩, h6⟩ := h
  exact ⟨h2, (fun e => by rw [e] at h1; cases h1), h3, h4, h5, h6⟩
theorem itoa_word (n : Int) : (Lib.itoa n).all plB = true ∧ num (Lib.itoa n) = true := by
  rw [itoa_sgn]
  have := num_sgn n (dec_dg n.natAbs) (dec_ne _)
  exact ⟨this.2, this.1⟩
/-- A node that is a word: its text. -/
theorem at_word {n : Nat} {t : Tr (n + 1)} (h : rt (n + 1) t = true) (hk : Nd.k (K := Tr n) t = 1 ∨ Nd.k (K := Tr n) t = 2 ∨ Nd.k (K := Tr n) t = 4 ∨ Nd.k (K := Tr n) t = 5) : (txt (n + 1) t).all plB = true := by
  obtain ⟨⟨s, hsp, hsu⟩, _⟩ := rt_kids h
  have htx := su_parts hsu
  rcases hk with hk | hk | hk | hk
  · unfold txt; rw [if_pos hk]; exact (itoa_word _).1
  · unfold txt; rw [if_neg (by rw [hk]; decide), if_pos hk]; cases ((Nd.n (K := Tr n) t) == 1) <;> decide
  · unfold txt; rw [if_neg (by rw [hk]; decide), if_neg (by rw [hk]; decide), if_neg (by rw [hk]; decide), if_pos hk]; decide
  · unfold txt; rw [if_neg (by rw [hk]; decide), if_neg (by rw [hk]; decide), if_neg (by rw [hk]; decide), if_neg (by rw [hk]; decide), if_pos hk]
    rw [hk] at hsp
    cases hsp
    exact (nm_word (by simpa [tx] using htx)).1

end Go.Proofs.YtiokcokmpmpcfaaDoor
