import Derived.Test.YtlacjiihbbgbeaaDoorR8
namespace Go.Proofs.YtlacjiihbbgbeaaDoor
open Go.RowKit
set_option linter.unusedVariables false
set_option linter.unusedSimpArgs false

theorem one_open (r : List UInt8) : one (40 :: r) = .ok ⟨1, [], 0, (40 :: r).length⟩ r := by rw [one]; simp
theorem one_close (r : List UInt8) : one (41 :: r) = .ok ⟨2, [], 0, (41 :: r).length⟩ r := by rw [one]; simp
theorem one_text (r : List UInt8) : one (34 :: r) = match txt [] r with
      | .error e t => .error e t
      | .ok b t => .ok ⟨5, b, 0, (34 :: r).length⟩ t := by
  rw [one]; simp only [show ¬ (34 : UInt8) = 40 by decide, show ¬ (34 : UInt8) = 41 by decide, if_false, if_true]
  cases txt [] r <;> rfl
theorem one_word {c : UInt8} (r : List UInt8) (d1 : ¬ c = 40) (d2 : ¬ c = 41) (d3 : ¬ c = 34) : one (c :: r) = match wrd (c :: r) with
      | .error e t => .error e t
      | .ok b t => if num b then (match numv b with | some n => .ok ⟨4, [], n, (c :: r).length⟩ t | none => .error 10 (c :: r)) else .ok ⟨3, b, 0, (c :: r).length⟩ t := by
  rw [one]; simp only [d1, d2, d3, if_false]
  cases wrd (c :: r) with
  | error e t => rfl
  | ok b t => dsimp only; cases numv b <;> rfl
theorem token_any (b : Nat) (s : ByteArray) (hs : s.size ≤ 100000) (p : Nat) (c : UInt8) (r : List UInt8) (hl : At s p (c :: r)) (w : World) (h : Rd b s p w) (hE : Er w) (hb0 : 4 < b) :
    Calls Tryd.prog 14 #[.pointer (some ⟨b, 0, none⟩)] w (Post (tv s.size) b s w (one (c :: r))) := by
  have hpl := hl.place
  obtain ⟨hp, hc, hA⟩ := hl.cons
  by_cases d1 : c = 40
  · subst d1
    rw [one_open]
    refine (token_open b s hs p hp hc w h).mono ?_
    rintro e w' ⟨rfl, h1, h2⟩
    exact ⟨by unfold tv; rw [hpl]; rfl, _, hA, h1, h2⟩
  · by_cases d2 : c = 41
    · subst d2
      rw [one_close]
      refine (token_close b s hs p hp hc w h).mono ?_
      rintro e w' ⟨rfl, h1, h2⟩
      exact ⟨by unfold tv; rw [hpl]; rfl, _, hA, h1, h2⟩
    · by_cases d3 : c = 34
      · subst d3
        rw [one_text]
        refine (token_text b s hs p hp hc r hA w h).mono ?_
        cases txt [] r with
        | error e t => exact fun _ _ h => h
        | ok t u =>
          rintro e w' ⟨rfl, h1⟩
          exact ⟨by unfold tv; rw [hpl]; rfl, h1⟩
      · rw [one_word r d1 d2 d3]
        refine (token_word b s hs p hp (hc ▸ d1) (hc ▸ d2) (hc ▸ d3) (c :: r) hl w h hE hb0).mono ?_
        cases wrd (c :: r) with
        | error e t => exact fun _ _ h => h
        | ok t u =>
          unfold wtok
          dsimp only
          by_cases hn : num t = true
          · rw [if_pos hn, if_pos hn]
            cases numv t with
            | none => exact fun _ _ h => h
            | some n =>
              rintro e w' ⟨rfl, h1⟩
              exact ⟨by unfold tv; rw [hpl]; rfl, h1⟩
          · rw [if_neg hn, if_neg hn]
            rintro e w' ⟨rfl, h1⟩
            exact ⟨by unfold tv; rw [hpl]; rfl, h1⟩
theorem dw_tw_len (l : List UInt8) : (l.takeWhile plB).length + (l.dropWhile plB).length = l.length := by
  rw [← List.length_append, List.takeWhile_append_dropWhile]
theorem txt_len {l : List UInt8} : ∀ {acc b t : List UInt8}, txt acc l = .ok b t → t.length < l.length := by
  have H : ∀ n, ∀ l : List UInt8, l.length ≤ n → ∀ {acc b t : List UInt8}, txt acc l = .ok b t → t.length < l.length := by
    intro n
    induction n with
    | zero =>
      intro l hl acc b t h
      obtain rfl : l = [] := List.length_eq_zero_iff.1 (by omega)
      rw [txt_nil] at h; cases h
    | succ n ih =>
      intro l hl acc b t h
      cases l with
      | nil => rw [txt_nil] at h; cases h
      | cons c r =>
        simp only [List.length_cons] at hl ⊢
        by_cases h1 : c = 34
        · subst h1; rw [txt_end] at h; cases h; omega
        · by_cases h2 : c = 92
          · subst h2
            cases e1 : esb r with
            | error k u => rw [txt_esc_no _ _ _ _ e1] at h; cases h
            | ok d u =>
              rw [txt_esc_ok _ _ _ _ e1] at h
              have := esb_len e1
              have := ih u (by omega) h
              omega
          · rw [txt_one _ _ _ h1 h2] at h
            have := ih r (by omega) h
            omega
  intro acc b t h; exact H _ l (Nat.le_refl _) h
theorem skp_len (l : List UInt8) : (skp false l).length ≤ l.length := by
  have H : ∀ l : List UInt8, (skp false l).length ≤ l.length ∧ (skp true l).length ≤ l.length := by
    intro l
    induction l with
    | nil => exact ⟨Nat.le_refl _, Nat.le_refl _⟩
    | cons c r ih =>
      constructor
      · simp only [skp, Bool.false_eq_true, if_false]
        split
        · have := ih.2; simp; omega
        · split
          · have := ih.1; simp; omega
          · exact Nat.le_refl _
      · simp only [skp, if_true]
        split
        · have := ih.1; simp; omega
        · have := ih.2; simp; omega
  exact (H l).1
theorem one_len {c : UInt8} {r : List UInt8} (hs : skp false (c :: r) = c :: r) {t : Tok} {u : List UInt8} (h : one (c :: r) = .ok t u) : u.length < (c :: r).length := by
  by_cases d1 : c = 40
  · subst d1; rw [one_open] at h; cases h; simp
  · by_cases d2 : c = 41
    · subst d2; rw [one_close] at h; cases h; simp
    · by_cases d3 : c = 34
      · subst d3
        rw [one_text] at h
        split at h
        · cases h
        · rename_i e1
          cases h
          have := txt_len e1
          simp; omega
      · rw [one_word r d1 d2 d3] at h
        have hne : enB c = false := by
          by_cases h59 : c = 59
          · subst h59
            rw [skp_59, dw_go r (by decide)] at hs
            have := congrArg List.length hs
            have h2 : ∀ l, (skp false l).length ≤ l.length := skp_len
            have := h2 (r.dropWhile n10)
            have := dw_len n10 r
            simp at *; omega
          · by_cases hb : bl c.toNat = true
            · rw [skp_bl c r hb] at hs
              have := congrArg List.length hs
              have := skp_len r
              simp at *; omega
            · have q0 : ∀ n : UInt8, ¬ c = n → ¬ (c.toNat : Int) = n.toNat := fun n hn e => hn (UInt8.toNat_inj.1 (by omega))
              have q1 := q0 40 d1
              have q2 := q0 41 d2
              have q3 := q0 34 d3
              have q4 := q0 59 h59
              have hb' : bl c.toNat = false := by simpa using hb
              simp only [enB, en, hb']
              simp at q1 q2 q3 q4 ⊢
              omega
        have hw : ∀ b t, wrd (c :: r) = .ok b t → t.length < (c :: r).length := by
          intro b t hw
          have hk := dw_tw_len (c :: r)
          unfold wrd at hw
          by_cases hp : plB c = true
          · rw [List.dropWhile_cons, if_pos hp] at hw
            have := dw_len plB r
            split at hw
            · cases hw; simp
            · rename_i e1
              split at hw
              · cases hw; rw [← e1]; simp; omega
              · cases hw
          · rw [List.dropWhile_cons, if_neg hp] at hw
            dsimp only at hw
            rw [hne] at hw
            cases hw
        split at h
        · cases h
        · rename_i e1
          have := hw _ _ e1
          split at h
          · split at h
            · cases h; exact this
            · cases h
          · cases h; exact this

end Go.Proofs.YtlacjiihbbgbeaaDoor
