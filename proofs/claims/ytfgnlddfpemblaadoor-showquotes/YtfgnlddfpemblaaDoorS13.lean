import Derived.Test.YtfgnlddfpemblaaDoorS12
import Derived.Test.YtfgnlddfpemblaaDoorS10
namespace Go.Proofs.YtfgnlddfpemblaaDoor
open Go.RowKit
set_option linter.unusedVariables false
set_option linter.unusedSimpArgs false

theorem hexd_inj : ∀ a b : Fin 16, hexd a.1 = hexd b.1 → a = b := by decide
theorem hexd_inj' (a b : Nat) (ha : a < 16) (hb : b < 16) (h : hexd a = hexd b) : a = b := by
  have := hexd_inj ⟨a, ha⟩ ⟨b, hb⟩ h
  simpa using this
/-- The three ways of a letter. -/
theorem way (c : UInt8) : (c = 34 ∨ c = 92) ∧ esc c = [92, c] ∨ c ≠ 34 ∧ c ≠ 92 ∧ esc c = [c] ∨ esc c = [92, 120, hexd (c.toNat / 16), hexd (c.toNat % 16)] := by
  by_cases h : c = 34 ∨ c = 92
  · exact .inl ⟨h, esc_two c h⟩
  · by_cases h2 : 32 ≤ c.toNat ∧ c.toNat ≤ 126
    · refine .inr (.inl ⟨fun e => h (.inl e), fun e => h (.inr e), ?_⟩)
      unfold esc; rw [if_neg h, if_pos h2]
    · refine .inr (.inr ?_)
      unfold esc; rw [if_neg h, if_neg h2]
theorem esc_pre (a b : UInt8) (X Y : List UInt8) (h : esc a ++ X = esc b ++ Y) : a = b ∧ X = Y := by
  rcases way a with ⟨ha, ea⟩ | ⟨ha, ha2, ea⟩ | ea <;> rcases way b with ⟨hb, eb⟩ | ⟨hb, hb2, eb⟩ | eb <;> rw [ea, eb] at h <;> simp only [List.cons_append, List.nil_append, List.cons.injEq] at h
  · exact ⟨h.2.1, h.2.2⟩
  · exact absurd h.1.symm hb2
  · rcases ha with rfl | rfl <;> exact absurd h.2.1 (by decide)
  · exact absurd h.1 ha2
  · exact h
  · exact absurd h.1 ha2
  · rcases hb with rfl | rfl <;> exact absurd h.2.1 (by decide)
  · exact absurd h.1.symm hb2
  · have l1 := a.toNat_lt
    have l2 := b.toNat_lt
    have q1 := hexd_inj' _ _ (by omega) (by omega) h.2.2.1
    have q2 := hexd_inj' _ _ (by omega) (by omega) h.2.2.2.1
    exact ⟨UInt8.toNat_inj.1 (by omega), h.2.2.2.2⟩
theorem esc_head (c : UInt8) (X : List UInt8) : [34] ≠ esc c ++ X := by
  intro h
  rcases way c with ⟨ha, ea⟩ | ⟨ha, ha2, ea⟩ | ea <;> rw [ea] at h <;> simp only [List.cons_append, List.nil_append, List.cons.injEq] at h
  · exact absurd h.1 (by decide)
  · exact ha h.1.symm
  · exact absurd h.1 (by decide)
theorem flat_inj : ∀ l m : List UInt8, l.flatMap esc ++ [34] = m.flatMap esc ++ [34] → l = m := by
  intro l
  induction l with
  | nil =>
    intro m h
    cases m with
    | nil => rfl
    | cons c r => exact absurd (by simpa using h) (esc_head c (r.flatMap esc ++ [34]))
  | cons a l ih =>
    intro m h
    cases m with
    | nil => exact absurd (by simpa using h.symm) (esc_head a (l.flatMap esc ++ [34]))
    | cons b m =>
      simp only [List.flatMap_cons, List.append_assoc] at h
      obtain ⟨rfl, h2⟩ := esc_pre a b _ _ h
      rw [ih m h2]
theorem quo_inj (l m : List UInt8) (h : quo l = quo m) : l = m := flat_inj l m (by simpa [quo] using h)
theorem show_str (s : ByteArray) (hs : s.size ≤ 1000) (w : World) (ht : Tab w) : Calls Tryd.prog 12 #[.nilIface, V 3 0 s] w fun e w' => e = .returned (.string ⟨(quo s.data.toList).toArray⟩) ∧ BW w w' := by
  have := show_any .nilIface (fun _ => none) (fun _ _ _ h => by cases h) ⟨3, 0, s⟩ ⟨by show (0 : Int) ≤ 3; omega, by show (3 : Int) ≤ 7; omega, by show (_ : Int) ≤ 0; omega, by show (0 : Int) ≤ _; omega, hs⟩ w (Look.none _ _) ht
  have e : sho (fun _ => none) 6 ⟨3, 0, s⟩ = quo s.data.toList := by simp [sho, flat]
  rw [e] at this
  exact this
theorem show_dots (w : World) (ht : Tab w) : Calls Tryd.prog 12 #[.nilIface, V 4 0 ⟨#[]⟩] w fun e w' => e = .returned (.string ⟨#[46, 46]⟩) ∧ BW w w' := by
  have := show_any .nilIface (fun _ => none) (fun _ _ _ h => by cases h) ⟨4, 0, ⟨#[]⟩⟩ (fine4 0 (by omega)) w (Look.none _ _) ht
  have e : sho (fun _ => none) 6 ⟨4, 0, ⟨#[]⟩⟩ = [46, 46] := by simp [sho]
  rw [e] at this
  exact this
set_option maxRecDepth 100000 in
set_option maxHeartbeats 1000000 in
theorem showQuotes_long (s t : ByteArray) (h : 1000 < s.size ∨ 1000 < t.size) (w : World) (ht : Tab w) : Calls Tryd.prog 4 #[.string s, .string t] w fun e w' => e = .returned (.bool true) ∧ BW w w' := by
  have h' : decide ((1000 : Int) < (s.size : Int)) = true ∨ decide ((1000 : Int) < (s.size : Int)) = false ∧ decide ((1000 : Int) < (t.size : Int)) = true := by
    by_cases hs : 1000 < s.size
    · exact .inl (by simp; omega)
    · exact .inr ⟨by simp; omega, by simp; omega⟩
  rcases h' with e1 | ⟨e1, e2⟩
  all_goals
    clear h
    go_enter Tryd.func4, Tryd.ntmps4
    go_wp2_with (fail)
    refine (awake_any _ ht).mono ?_
    rintro e w1 ⟨rfl, hb1⟩
    go_wp2_with (fail)
    go_ret
    exact ⟨rfl, hb1⟩

set_option maxRecDepth 100000 in
set_option maxHeartbeats 1000000 in
theorem showQuotes_same (s t : ByteArray) (hs : s.size ≤ 1000) (hl : t.size ≤ 1000) (hst : s = t) (w : World) (ht : Tab w) : Calls Tryd.prog 4 #[.string s, .string t] w fun e w' => e = .returned (.bool true) ∧ BW w w' := by
  have hQ : Hid (∀ w1, Calls Tryd.prog 14 #[.string s] w1 fun e w' => e = .returned (.string ⟨(quo s.data.toList).toArray⟩) ∧ BW w1 w') := quote_any s hs
  have hT : Hid (∀ w1, Calls Tryd.prog 14 #[.string t] w1 fun e w' => e = .returned (.string ⟨(quo t.data.toList).toArray⟩) ∧ BW w1 w') := quote_any t hl
  have hR : Hid (∀ w1, Calls Tryd.prog 15 #[.string s] w1 fun e w' => e = .returned (.string ⟨(quo s.data.toList).toArray⟩) ∧ BW w1 w') := refQuote_any s hs
  have hS : Hid (∀ w1, Tab w1 → Calls Tryd.prog 12 #[.nilIface, V 3 0 s] w1 fun e w' => e = .returned (.string ⟨(quo s.data.toList).toArray⟩) ∧ BW w1 w') := show_str s hs
  have e1 : decide ((1000 : Int) < (s.size : Int)) = false := by simp; omega
  have e2 : decide ((1000 : Int) < (t.size : Int)) = false := by simp; omega
  subst hst
  generalize (⟨(quo s.data.toList).toArray⟩ : ByteArray) = x at *
  go_enter Tryd.func4, Tryd.ntmps4
  go_wp2_with (fail)
  refine (hQ.out _).mono ?_
  rintro e w1 ⟨rfl, hb⟩
  go_wp2_with (fail)
  refine (hR.out _).mono ?_
  rintro e w2 ⟨rfl, hb2⟩
  replace hb := hb.trans hb2
  clear hb2
  go_wp2_with (fail)
  refine (hQ.out _).mono ?_
  rintro e w3 ⟨rfl, hb3⟩
  replace hb := hb.trans hb3
  clear hb3
  go_wp2_with (fail)
  refine (hT.out _).mono ?_
  rintro e w4 ⟨rfl, hb4⟩
  replace hb := hb.trans hb4
  clear hb4
  go_wp2_with (fail)
  refine (hS.out _ (ht.bw hb)).mono ?_
  rintro e w5 ⟨rfl, hb5⟩
  replace hb := hb.trans hb5
  clear hb5
  go_wp2_with (fail)
  refine (hQ.out _).mono ?_
  rintro e w6 ⟨rfl, hb6⟩
  replace hb := hb.trans hb6
  clear hb6
  go_wp2_with (fail)
  refine (show_dots _ (ht.bw hb)).mono ?_
  rintro e w7 ⟨rfl, hb7⟩
  replace hb := hb.trans hb7
  clear hb7
  go_wp2_with (fail)
  refine (awake_any _ (ht.bw hb)).mono ?_
  rintro e w8 ⟨rfl, hb8⟩
  go_wp2_with (fail)
  go_ret
  exact ⟨rfl, hb.trans hb8⟩

set_option maxRecDepth 100000 in
set_option maxHeartbeats 1000000 in
theorem showQuotes_other (s t : ByteArray) (hs : s.size ≤ 1000) (hl : t.size ≤ 1000) (hst : ¬ s = t) (w : World) (ht : Tab w) : Calls Tryd.prog 4 #[.string s, .string t] w fun e w' => e = .returned (.bool true) ∧ BW w w' := by
  have hQ : Hid (∀ w1, Calls Tryd.prog 14 #[.string s] w1 fun e w' => e = .returned (.string ⟨(quo s.data.toList).toArray⟩) ∧ BW w1 w') := quote_any s hs
  have hT : Hid (∀ w1, Calls Tryd.prog 14 #[.string t] w1 fun e w' => e = .returned (.string ⟨(quo t.data.toList).toArray⟩) ∧ BW w1 w') := quote_any t hl
  have hR : Hid (∀ w1, Calls Tryd.prog 15 #[.string s] w1 fun e w' => e = .returned (.string ⟨(quo s.data.toList).toArray⟩) ∧ BW w1 w') := refQuote_any s hs
  have hS : Hid (∀ w1, Tab w1 → Calls Tryd.prog 12 #[.nilIface, V 3 0 s] w1 fun e w' => e = .returned (.string ⟨(quo s.data.toList).toArray⟩) ∧ BW w1 w') := show_str s hs
  have e1 : decide ((1000 : Int) < (s.size : Int)) = false := by simp; omega
  have e2 : decide ((1000 : Int) < (t.size : Int)) = false := by simp; omega
  have hxy : ¬ (⟨(quo s.data.toList).toArray⟩ : ByteArray) = ⟨(quo t.data.toList).toArray⟩ := by
    intro e
    have := quo_inj s.data.toList t.data.toList (by simpa using e)
    exact hst (ByteArray.ext (by simpa using this))
  have hne : ∀ x y : ByteArray, ¬ x = y → ¬ x.toList = y.toList := by
    intro x y hxy k
    rw [ByteArray.toList_eq, ByteArray.toList_eq] at k
    exact hxy (ByteArray.ext (by simpa using k))
  have e3 := hne _ _ hst
  have e4 : (s.toList == t.toList) = false := by simpa using e3
  generalize (⟨(quo s.data.toList).toArray⟩ : ByteArray) = x at *
  generalize (⟨(quo t.data.toList).toArray⟩ : ByteArray) = y at *
  have e5 := hne _ _ hxy
  have e6 : (x.toList == y.toList) = false := by simpa using e5
  clear hne
  go_enter Tryd.func4, Tryd.ntmps4
  go_wp2_with (fail)
  refine (hQ.out _).mono ?_
  rintro e w1 ⟨rfl, hb⟩
  go_wp2_with (fail)
  refine (hR.out _).mono ?_
  rintro e w2 ⟨rfl, hb2⟩
  replace hb := hb.trans hb2
  clear hb2
  go_wp2_with (fail)
  refine (hQ.out _).mono ?_
  rintro e w3 ⟨rfl, hb3⟩
  replace hb := hb.trans hb3
  clear hb3
  go_wp2_with (fail)
  refine (hT.out _).mono ?_
  rintro e w4 ⟨rfl, hb4⟩
  replace hb := hb.trans hb4
  clear hb4
  go_wp2_with (fail)
  refine (hS.out _ (ht.bw hb)).mono ?_
  rintro e w5 ⟨rfl, hb5⟩
  replace hb := hb.trans hb5
  clear hb5
  go_wp2_with (fail)
  refine (hQ.out _).mono ?_
  rintro e w6 ⟨rfl, hb6⟩
  replace hb := hb.trans hb6
  clear hb6
  go_wp2_with (fail)
  refine (show_dots _ (ht.bw hb)).mono ?_
  rintro e w7 ⟨rfl, hb7⟩
  replace hb := hb.trans hb7
  clear hb7
  go_wp2_with (fail)
  refine (awake_any _ (ht.bw hb)).mono ?_
  rintro e w8 ⟨rfl, hb8⟩
  go_wp2_with (fail)
  go_ret
  exact ⟨rfl, hb.trans hb8⟩

theorem showQuotes_any (s t : ByteArray) (w : World) (ht : Tab w) : Calls Tryd.prog 4 #[.string s, .string t] w fun e w' => e = .returned (.bool true) ∧ BW w w' := by
  by_cases h : 1000 < s.size ∨ 1000 < t.size
  · exact showQuotes_long s t h w ht
  · by_cases e : s = t
    · exact showQuotes_same s t (by omega) (by omega) e w ht
    · exact showQuotes_other s t (by omega) (by omega) e w ht

end Go.Proofs.YtfgnlddfpemblaaDoor
