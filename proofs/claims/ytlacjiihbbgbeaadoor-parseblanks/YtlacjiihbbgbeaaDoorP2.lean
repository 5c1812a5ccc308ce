import Derived.Test.YtlacjiihbbgbeaaDoorR12
namespace Go.Proofs.YtlacjiihbbgbeaaDoor
open Go.RowKit
set_option linter.unusedVariables false
set_option linter.unusedSimpArgs false

theorem wrd_parts {l b t : List UInt8} (h : wrd l = .ok b t) : l = b ++ t ∧ b.all plB = true ∧ (t = [] ∨ ∃ c r, t = c :: r ∧ en c.toNat = true) := by
  have hk : l = l.takeWhile plB ++ l.dropWhile plB := List.takeWhile_append_dropWhile.symm
  have hall : (l.takeWhile plB).all plB = true := List.all_takeWhile
  unfold wrd at h
  split at h
  · rename_i e1
    cases h
    rw [e1] at hk
    exact ⟨hk, hall, .inl rfl⟩
  · rename_i e1
    split at h
    · rename_i c r hc
      cases h
      rw [e1] at hk
      exact ⟨hk, hall, .inr ⟨_, _, rfl, hc⟩⟩
    · cases h
/-- What holds of a token of l. -/
def Pl (l : List UInt8) (t : Tok) : Prop := ∃ c r, c :: r <:+ l ∧ t.back = (c :: r).length ∧ ((t.kind = 1 ∧ c = 40) ∨ (t.kind = 2 ∧ c = 41) ∨ (t.kind = 3 ∧ t.s <+: c :: r) ∨ t.kind = 4 ∨ (t.kind = 5 ∧ c = 34))
def Good (l : List UInt8) : Nat → List Tok → Prop
  | _, [] => True
  | b, t :: ts => t.back ≤ b ∧ Pl l t ∧ Good l (t.back - 1) ts
theorem Good.mono {l : List UInt8} {ts : List Tok} {a b : Nat} (h : Good l a ts) (hab : a ≤ b) : Good l b ts := by
  cases ts with
  | nil => trivial
  | cons t r => exact ⟨Nat.le_trans h.1 hab, h.2.1, h.2.2⟩
/-- A token with d bytes more behind its source. -/
def Tok.up (d : Nat) (t : Tok) : Tok := { t with back := t.back + d }
theorem dig_app {l t : List UInt8} {a : Int} (h : dig l = .ok a t) (u : List UInt8) : dig (l ++ u) = .ok a (t ++ u) := by
  unfold dig at h
  split at h
  · cases h
  · rename_i c r
    split at h
    · cases h
    · rename_i e1
      cases h
      simp only [dig, List.cons_append, e1]
theorem esb_app {l t : List UInt8} {a : UInt8} (h : esb l = .ok a t) (u : List UInt8) : esb (l ++ u) = .ok a (t ++ u) := by
  unfold esb at h
  split at h
  · cases h
  · rename_i c r
    rw [List.cons_append]
    split at h
    · rename_i h1; cases h; rw [esb, if_pos h1]
    · rename_i h1
      split at h
      · rename_i h2; cases h; rw [esb, if_neg h1, if_pos h2]
      · rename_i h2
        split at h
        · rename_i h3
          subst h3
          split at h
          · cases h
          · rename_i h4
            split at h
            · cases h
            · rename_i h5
              cases h
              exact esb_x3 (dig_app h4 u) (dig_app h5 u)
        · cases h
theorem txt_app {l b t : List UInt8} {acc : List UInt8} (h : txt acc l = .ok b t) (u : List UInt8) : txt acc (l ++ u) = .ok b (t ++ u) := by
  have H : ∀ n, ∀ l : List UInt8, l.length ≤ n → ∀ {acc b t : List UInt8}, txt acc l = .ok b t → txt acc (l ++ u) = .ok b (t ++ u) := by
    intro n
    induction n with
    | zero =>
      intro l hl acc b t h
      obtain rfl : l = [] := List.length_eq_zero_iff.1 (by omega)
      rw [txt_nil] at h; cases h
    | succ n ih =>
      intro l hl acc b t h
      cases l with
      | nil => rw [txt_nil] at h; cases h
      | cons c r =>
        simp only [List.length_cons] at hl
        rw [List.cons_append]
        by_cases h1 : c = 34
        · subst h1; rw [txt_end] at h ⊢; cases h; rfl
        · by_cases h2 : c = 92
          · subst h2
            cases e1 : esb r with
            | error k v => rw [txt_esc_no _ _ _ _ e1] at h; cases h
            | ok d v =>
              rw [txt_esc_ok _ _ _ _ e1] at h
              rw [txt_esc_ok _ _ _ _ (esb_app e1 u)]
              have := esb_len e1
              exact ih v (by omega) h
          · rw [txt_one _ _ _ h1 h2] at h ⊢
            exact ih r (by omega) h
  exact H _ l (Nat.le_refl _) h
theorem wrd_app {l b t : List UInt8} (h : wrd l = .ok b t) (u : List UInt8) : wrd (l ++ 10 :: u) = .ok b (t ++ 10 :: u) := by
  obtain ⟨rfl, hb, ht⟩ := wrd_parts h
  rw [List.append_assoc]
  rcases ht with rfl | ⟨c, r, rfl, hc⟩
  · exact wrd_stop hb 10 u (by decide)
  · exact wrd_stop hb c _ hc
theorem one_app {c : UInt8} {r t : List UInt8} {k : Tok} (h : one (c :: r) = .ok k t) (u : List UInt8) : one (c :: (r ++ 10 :: u)) = .ok (k.up (u.length + 1)) (t ++ 10 :: u) := by
  have hl : (c :: (r ++ 10 :: u)).length = (c :: r).length + (u.length + 1) := by simp; omega
  by_cases d1 : c = 40
  · subst d1; rw [one_open] at h ⊢; cases h; rw [hl]; rfl
  · by_cases d2 : c = 41
    · subst d2; rw [one_close] at h ⊢; cases h; rw [hl]; rfl
    · by_cases d3 : c = 34
      · subst d3
        rw [one_text] at h ⊢
        split at h
        · cases h
        · rename_i e1
          cases h
          rw [txt_app e1 (10 :: u)]
          dsimp only
          rw [hl]; rfl
      · rw [one_word r d1 d2 d3] at h
        rw [one_word _ d1 d2 d3]
        split at h
        · cases h
        · rename_i e1
          have e2 := wrd_app e1 u
          rw [List.cons_append] at e2
          rw [e2]
          dsimp only
          split at h
          · rename_i hn
            rw [if_pos hn]
            split at h
            · cases h; rw [hl]; rfl
            · cases h
          · rename_i hn
            cases h; rw [if_neg hn, hl]; rfl
theorem skp_nil_app (l u : List UInt8) : ∀ f, skp f l = [] → skp f (l ++ 10 :: u) = skp false u := by
  generalize hZ : skp false u = Z
  induction l with
  | nil =>
    intro f _
    rw [← hZ]
    cases f
    · exact skp_bl 10 u (by decide)
    · simp [skp]
  | cons c r ih =>
    intro f h
    rw [List.cons_append]
    unfold skp at h ⊢
    split at h
    · rename_i h1
      rw [if_pos h1]
      split at h
      · rename_i h2; rw [if_pos h2]; exact ih false h
      · rename_i h2; rw [if_neg h2]; exact ih true h
    · rename_i h1
      rw [if_neg h1]
      split at h
      · rename_i h2; rw [if_pos h2]; exact ih true h
      · rename_i h2
        rw [if_neg h2]
        split at h
        · rename_i h3; rw [if_pos h3]; exact ih false h
        · cases h
theorem skp_cons_app (l u : List UInt8) {c : UInt8} {r : List UInt8} : ∀ f, skp f l = c :: r → skp f (l ++ u) = c :: (r ++ u) := by
  induction l with
  | nil => intro f h; cases f <;> simp [skp] at h
  | cons a t ih =>
    intro f h
    rw [List.cons_append]
    unfold skp at h ⊢
    split at h
    · rename_i h1
      rw [if_pos h1]
      split at h
      · rename_i h2; rw [if_pos h2]; exact ih false h
      · rename_i h2; rw [if_neg h2]; exact ih true h
    · rename_i h1
      rw [if_neg h1]
      split at h
      · rename_i h2; rw [if_pos h2]; exact ih true h
      · rename_i h2
        rw [if_neg h2]
        split at h
        · rename_i h3; rw [if_pos h3]; exact ih false h
        · rename_i h3; rw [if_neg h3]; cases h; rfl
theorem lxr_join (b : List UInt8) : ∀ n, ∀ a : List UInt8, a.length ≤ n → ∀ ts, lxr a = .ok ts → lxr (a ++ 10 :: b) = (lxr b).pre (ts.map (Tok.up (b.length + 1))) := by
  intro n
  have H0 : ∀ x : Lx, x.pre [] = x := by intro x; cases x <;> rfl
  induction n with
  | zero =>
    intro a ha ts h
    obtain rfl : a = [] := List.length_eq_zero_iff.1 (by omega)
    rw [lxr_nil] at h; cases h
    rw [List.map_nil, H0, ← lxr_skp, skp_nil_app [] b false rfl, lxr_skp]
  | succ n ih =>
    intro a ha ts h
    rw [← lxr_skp] at h
    have h1 := skp_len a
    have h3 := skp_idem a
    cases e0 : skp false a with
    | nil =>
      rw [e0, lxr_nil] at h; cases h
      rw [List.map_nil, H0, ← lxr_skp, skp_nil_app a b false e0, lxr_skp]
    | cons c r =>
      rw [e0] at h h1 h3
      cases e : one (c :: r) with
      | error k t => rw [lxr_no h3 e] at h; cases h
      | ok t u =>
        rw [lxr_ok h3 e, lxr_skp] at h
        have hul := one_len h3 e
        cases e2 : lxr u with
        | error x => rw [e2] at h; cases h
        | ok us =>
          rw [e2] at h
          simp only [Lx.cons] at h
          cases h
          have h4 := skp_cons_app a (10 :: b) false e0
          have h5 : skp false (c :: (r ++ 10 :: b)) = c :: (r ++ 10 :: b) := by rw [← h4]; exact skp_idem _
          rw [← lxr_skp, h4, lxr_ok h5 (one_app e b), lxr_skp, ih u (by omega) us e2]
          cases lxr b <;> simp [Lx.pre, Lx.cons]
theorem lex_join {a b : List UInt8} {ts us : List Tok} (ha : a.length ≤ 3000) (hb : b.length ≤ 3000) (h1 : lexAll a = .ok ts) (h2 : lexAll b = .ok us) : lexAll (a ++ 10 :: b) = .ok (ts.map (Tok.up (b.length + 1)) ++ us) := by
  unfold lexAll at h1 h2 ⊢
  rw [if_neg (by omega)] at h1 h2
  rw [if_neg (by simp; omega), lxr_join b _ a (Nat.le_refl _) ts h1, h2]
  rfl

end Go.Proofs.YtlacjiihbbgbeaaDoor
