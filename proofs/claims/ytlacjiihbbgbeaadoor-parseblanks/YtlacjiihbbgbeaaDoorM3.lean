import Derived.Test.YtlacjiihbbgbeaaDoorN1
import Derived.Test.YtlacjiihbbgbeaaDoorR12
namespace Go.Proofs.YtlacjiihbbgbeaaDoor
open Go.RowKit
set_option linter.unusedVariables false
set_option linter.unusedSimpArgs false

theorem txt_size {l : List UInt8} : ∀ {acc b t : List UInt8}, txt acc l = .ok b t → b.length ≤ acc.length + l.length := by
  have H : ∀ n, ∀ l : List UInt8, l.length ≤ n → ∀ {acc b t : List UInt8}, txt acc l = .ok b t → b.length ≤ acc.length + l.length := by
    intro n
    induction n with
    | zero =>
      intro l hl acc b t h
      obtain rfl : l = [] := List.length_eq_zero_iff.1 (by omega)
      rw [txt_nil] at h; cases h
    | succ n ih =>
      intro l hl acc b t h
      cases l with
      | nil => rw [txt_nil] at h; cases h
      | cons c r =>
        simp only [List.length_cons] at hl
        by_cases h1 : c = 34
        · subst h1; rw [txt_end] at h; cases h; omega
        · by_cases h2 : c = 92
          · subst h2
            cases e1 : esb r with
            | error k2 u => rw [txt_esc_no _ _ _ _ e1] at h; cases h
            | ok d u =>
              rw [txt_esc_ok _ _ _ _ e1] at h
              have := esb_len e1
              have := ih u (by omega) h
              simp only [List.length_append, List.length_cons, List.length_nil] at *
              omega
          · rw [txt_one _ _ _ h1 h2] at h
            have := ih r (by omega) h
            simp only [List.length_append, List.length_cons, List.length_nil] at *
            omega
  intro acc b t h
  exact H _ l (Nat.le_refl _) h
theorem numv_range {l : List UInt8} {n : Int} (h : numv l = some n) : -9223372036854775808 ≤ n ∧ n ≤ 9223372036854775807 := by
  unfold numv at h
  split at h
  · split at h
    · cases h; omega
    · cases h
  · split at h
    · cases h; omega
    · cases h
theorem tok_mk (k : Nat) (s : List UInt8) (n : Int) (b : Nat) (h1 : 1 ≤ k) (h2 : k ≤ 5) (h3 : -9223372036854775808 ≤ n) (h4 : n ≤ 9223372036854775807) (h5 : s.length ≤ 100000) : TokOk ⟨k, s, n, b⟩ := ⟨h1, h2, h3, h4, h5⟩
theorem one_tok {l : List UInt8} {t : Tok} {u : List UInt8} (hl : l.length ≤ 100000) (h : one l = .ok t u) : TokOk t := by
  cases l with
  | nil => rw [one] at h; cases h
  | cons c r =>
    simp only [List.length_cons] at hl
    by_cases d1 : c = 40
    · subst d1; rw [one_open] at h; cases h; exact tok_mk _ _ _ _ (by decide) (by decide) (by decide) (by decide) (by simp)
    · by_cases d2 : c = 41
      · subst d2; rw [one_close] at h; cases h; exact tok_mk _ _ _ _ (by decide) (by decide) (by decide) (by decide) (by simp)
      · by_cases d3 : c = 34
        · subst d3
          rw [one_text] at h
          cases e : txt [] r with
          | error k v => rw [e] at h; cases h
          | ok b v =>
            rw [e] at h
            have := txt_size e
            simp only [List.length_nil] at this
            cases h
            exact tok_mk _ _ _ _ (by decide) (by decide) (by decide) (by decide) (by omega)
        · rw [one_word r d1 d2 d3] at h
          cases e : wrd (c :: r) with
          | error k v => rw [e] at h; cases h
          | ok b v =>
            rw [e] at h
            have hb := wrd_len e
            simp only [List.length_cons] at hb
            simp only at h
            split at h
            · split at h
              · rename_i n hn
                cases h
                exact tok_mk _ _ _ _ (by decide) (by decide) (numv_range hn).1 (numv_range hn).2 (by simp)
              · cases h
            · cases h
              exact tok_mk _ _ _ _ (by decide) (by decide) (by decide) (by decide) (by omega)
/-- A source's tokens are such as the reader wants them, and no more than its bytes. -/
theorem lxr_toks : ∀ (n : Nat) (l : List UInt8) (ts : List Tok), l.length ≤ 100000 → lxrF n l = .ok ts → (∀ t ∈ ts, TokOk t) ∧ ts.length ≤ l.length := by
  intro n
  induction n with
  | zero => intro l ts hl h; cases h; exact ⟨by simp, by simp⟩
  | succ n ih =>
    intro l ts hl h
    simp only [lxrF] at h
    have hs := skp_len l
    cases e1 : skp false l with
    | nil => rw [e1] at h; cases h; exact ⟨by simp, by simp⟩
    | cons c r =>
      rw [e1] at h hs
      dsimp only at h
      cases e2 : one (c :: r) with
      | error e t => rw [e2] at h; cases h
      | ok t rest =>
        rw [e2] at h
        dsimp only at h
        split at h
        · rename_i hlt
          cases e3 : lxrF n rest with
          | error x => rw [e3] at h; cases h
          | ok l2 =>
            rw [e3] at h
            cases h
            obtain ⟨h1, h2⟩ := ih rest l2 (by omega) e3
            refine ⟨fun u hu => ?_, by simp only [List.length_cons]; omega⟩
            rcases List.mem_cons.1 hu with rfl | hu
            · exact one_tok (by omega) e2
            · exact h1 u hu
        · cases h; exact ⟨by simp, by simp⟩
theorem lexAll_toks {l : List UInt8} {ts : List Tok} (h : lexAll l = .ok ts) : (∀ t ∈ ts, TokOk t) ∧ ts.length ≤ l.length ∧ l.length ≤ 65536 := by
  unfold lexAll at h
  split at h
  · cases h
  · have := lxr_toks _ l ts (by omega) h
    exact ⟨this.1, this.2, by omega⟩

end Go.Proofs.YtlacjiihbbgbeaaDoor
