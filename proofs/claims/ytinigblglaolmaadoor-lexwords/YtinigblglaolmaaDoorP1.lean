import Derived.Test.YtinigblglaolmaaDoorQ2
import Derived.Test.YtinigblglaolmaaDoorN1
namespace Go.Proofs.YtinigblglaolmaaDoor
open Go.RowKit
set_option linter.unusedVariables false
set_option linter.unusedSimpArgs false

theorem dg_pl {c : UInt8} (h : dg c = true) : plB c = true ∧ enB c = false ∧ ¬ c = 40 ∧ ¬ c = 41 ∧ ¬ c = 34 ∧ ¬ c = 45 ∧ ¬ c = 59 ∧ ¬ bl c.toNat = true := by
  simp only [dg, Bool.and_eq_true, decide_eq_true_eq] at h
  have hne : ∀ k : UInt8, (k.toNat < 48 ∨ 57 < k.toNat) → ¬ c = k := by rintro k hk rfl; omega
  have hen : enB c = false := by
    simp only [enB, en, bl, Bool.or_eq_false_iff, beq_eq_false_iff_ne]
    refine ⟨⟨⟨⟨⟨⟨⟨?_, ?_⟩, ?_⟩, ?_⟩, ?_⟩, ?_⟩, ?_⟩, ?_⟩ <;> omega
  refine ⟨?_, hen, hne 40 (by decide), hne 41 (by decide), hne 34 (by decide), hne 45 (by decide), hne 59 (by decide), ?_⟩
  · simp only [plB, pl, Bool.and_eq_true, decide_eq_true_eq, Bool.not_eq_true']
    exact ⟨⟨by omega, by omega⟩, hen⟩
  · simp only [bl, Bool.or_eq_true, beq_iff_eq]; omega
theorem all_dg_pl {b : List UInt8} (h : b.all dg = true) : b.all plB = true := by
  rw [List.all_eq_true] at h ⊢
  exact fun c hc => (dg_pl (h c hc)).1
theorem dec_dg (u : Nat) : (Lib.decDigits u).all dg = true := by
  have hb : ∀ m, m < 10 → dg (UInt8.ofNat (48 + m)) = true := by
    intro m hm
    simp only [dg, Bool.and_eq_true, decide_eq_true_eq]
    rw [UInt8.toNat_ofNat']; omega
  induction u using Nat.strongRecOn with
  | _ u ih =>
    rw [Lib.decDigits]
    split
    · rename_i h; simpa using hb u h
    · rw [List.all_append, ih (u / 10) (by omega)]
      simpa using hb (u % 10) (by omega)
theorem val_dec (u : Nat) : val 0 (Lib.decDigits u) = u := by
  have hb : ∀ m, m < 10 → (UInt8.ofNat (48 + m)).toNat - 48 = m := by intro m hm; rw [UInt8.toNat_ofNat']; omega
  induction u using Nat.strongRecOn with
  | _ u ih =>
    rw [Lib.decDigits]
    split
    · rename_i h
      rw [val_cons, val_nil, hb u h]; omega
    · rw [val_snoc, ih (u / 10) (by omega), hb (u % 10) (by omega)]; omega
theorem val_zeros (k : Nat) (l : List UInt8) : val 0 (List.replicate k 48 ++ l) = val 0 l := by
  induction k with
  | zero => rfl
  | succ k ih => rw [List.replicate_succ, List.cons_append, val_cons]; exact ih
theorem zeros_dg (k : Nat) {l : List UInt8} (h : l.all dg = true) : (List.replicate k 48 ++ l).all dg = true := by
  rw [List.all_append, h]
  simp [List.all_replicate, dg]
/-- A sign. -/
def sgn (n : Int) : List UInt8 := if n < 0 then [45] else []
theorem num_sgn (n : Int) {b : List UInt8} (hb : b.all dg = true) (hne : b ≠ []) : num (sgn n ++ b) = true ∧ (sgn n ++ b).all plB = true := by
  have htr : Lib.trimPrefix (sgn n ++ b) [45] = b := by
    unfold sgn
    split
    · exact trim_neg b
    · cases b with
      | nil => exact absurd rfl hne
      | cons c r =>
        simp only [List.all_cons, Bool.and_eq_true] at hb
        exact trim_pos r (dg_pl hb.1).2.2.2.2.2.1
  refine ⟨?_, ?_⟩
  · unfold num; rw [htr, hb]
    cases b with
    | nil => exact absurd rfl hne
    | cons c r => rfl
  · rw [List.all_append, all_dg_pl hb]
    unfold sgn
    split <;> decide
theorem numv_sgn (n : Int) (h0 : -9223372036854775808 ≤ n) (h1 : n ≤ 9223372036854775807) {b : List UInt8} (hb : b.all dg = true) (hne : b ≠ []) (hv : val 0 b = n.natAbs) : numv (sgn n ++ b) = some n := by
  unfold numv sgn
  by_cases h : n < 0
  · rw [if_pos h, List.singleton_append, trim_neg, hv, if_pos (by rfl), if_pos (by omega)]
    congr 1; omega
  · rw [if_neg h, List.nil_append]
    cases b with
    | nil => exact absurd rfl hne
    | cons c r =>
      simp only [List.all_cons, Bool.and_eq_true] at hb
      have hc := (dg_pl hb.1).2.2.2.2.2.1
      rw [trim_pos r hc, hv, if_neg (by simpa using hc), if_pos (by omega)]
      congr 1; omega
theorem one_num {l : List UInt8} {n : Int} (hp : l.all plB = true) (hn : num l = true) (hv : numv l = some n) (hc : ∀ c r, l = c :: r → ¬ c = 40 ∧ ¬ c = 41 ∧ ¬ c = 34) (u : List UInt8) (hu : u = [] ∨ ∃ c r, u = c :: r ∧ en c.toNat = true) : one (l ++ u) = .ok ⟨4, [], n, (l ++ u).length⟩ u := by
  cases l with
  | nil => rw [num_nil] at hn; cases hn
  | cons c r =>
    obtain ⟨d1, d2, d3⟩ := hc c r rfl
    have hw : wrd (c :: r ++ u) = .ok (c :: r) u := by
      rcases hu with rfl | ⟨a, b, rfl, ha⟩
      · exact wrd_end hp
      · exact wrd_stop hp a b ha
    rw [List.cons_append] at hw ⊢
    rw [one_word _ d1 d2 d3, hw]
    dsimp only
    rw [if_pos hn, hv]
theorem sgn_head (n : Int) {b : List UInt8} (hb : b.all dg = true) (hne : b ≠ []) : ∀ c r, sgn n ++ b = c :: r → ¬ c = 40 ∧ ¬ c = 41 ∧ ¬ c = 34 := by
  intro c r h
  unfold sgn at h
  split at h
  · cases h; decide
  · rw [List.nil_append] at h
    subst h
    simp only [List.all_cons, Bool.and_eq_true] at hb
    have := dg_pl hb.1
    exact ⟨this.2.2.1, this.2.2.2.1, this.2.2.2.2.1⟩
theorem sgn_skp (n : Int) {b : List UInt8} (hb : b.all dg = true) (hne : b ≠ []) (u : List UInt8) : ∃ c r, sgn n ++ b ++ u = c :: r ∧ skp false (c :: r) = c :: r := by
  unfold sgn
  split
  · exact ⟨45, b ++ u, rfl, skp_stop 45 _ (by decide) (by decide)⟩
  · cases b with
    | nil => exact absurd rfl hne
    | cons c r =>
      simp only [List.all_cons, Bool.and_eq_true] at hb
      have := dg_pl hb.1
      exact ⟨c, r ++ u, rfl, skp_stop c _ this.2.2.2.2.2.2.1 this.2.2.2.2.2.2.2⟩
theorem itoa_sgn (n : Int) : Lib.itoa n = sgn n ++ Lib.decDigits n.natAbs := by
  unfold Lib.itoa sgn
  split
  · rfl
  · rw [List.nil_append, show n.toNat = n.natAbs by omega]
/-- A number's digits are one token. -/
theorem lex_itoa (n : Int) (h0 : -9223372036854775808 ≤ n) (h1 : n ≤ 9223372036854775807) (hlen : (Lib.itoa n).length ≤ 1000) : lexAll (Lib.itoa n) = .ok [⟨4, [], n, (Lib.itoa n).length⟩] := by
  unfold lexAll
  rw [if_neg (by omega), itoa_sgn]
  have hb := dec_dg n.natAbs
  have hne := dec_ne n.natAbs
  obtain ⟨q1, q2⟩ := num_sgn n hb hne
  have h2 := one_num q2 q1 (numv_sgn n h0 h1 hb hne (val_dec _)) (sgn_head n hb hne) [] (.inl rfl)
  rw [List.append_nil] at h2
  obtain ⟨c, r, e1, e2⟩ := sgn_skp n hb hne []
  rw [List.append_nil] at e1
  rw [e1] at h2 ⊢
  rw [lxr_ok e2 h2, show skp false [] = [] from rfl, lxr_nil]
  rfl
theorem num_itoa (n : Int) : num (Lib.itoa n) = true := by
  rw [itoa_sgn]; exact (num_sgn n (dec_dg _) (dec_ne _)).1
/-- Noughts ahead of them change nothing. -/
theorem lex_noughts (n : Int) (h0 : -9223372036854775808 ≤ n) (h1 : n ≤ 9223372036854775807) (k : Nat) (hlen : (sgn n ++ (List.replicate k 48 ++ Lib.decDigits n.natAbs)).length ≤ 1000) : lexAll (sgn n ++ (List.replicate k 48 ++ Lib.decDigits n.natAbs) ++ [41]) = .ok [⟨4, [], n, (sgn n ++ (List.replicate k 48 ++ Lib.decDigits n.natAbs) ++ [41]).length⟩, ⟨2, [], 0, 1⟩] := by
  have hb := zeros_dg k (dec_dg n.natAbs)
  have hne : List.replicate k 48 ++ Lib.decDigits n.natAbs ≠ [] := by
    intro h
    exact dec_ne n.natAbs (List.append_eq_nil_iff.1 h).2
  have hv : val 0 (List.replicate k 48 ++ Lib.decDigits n.natAbs) = n.natAbs := by rw [val_zeros, val_dec]
  generalize List.replicate k 48 ++ Lib.decDigits n.natAbs = b at *
  unfold lexAll
  rw [if_neg (by simp only [List.length_append, List.length_cons, List.length_nil] at *; omega)]
  obtain ⟨q1, q2⟩ := num_sgn n hb hne
  have h2 := one_num q2 q1 (numv_sgn n h0 h1 hb hne hv) (sgn_head n hb hne) [41] (.inr ⟨41, [], rfl, by decide⟩)
  obtain ⟨c, r, e1, e2⟩ := sgn_skp n hb hne [41]
  rw [e1] at h2 ⊢
  rw [lxr_ok e2 h2, show skp false [41] = [41] from rfl, lxr_ok (by rfl) (one_close []), show skp false [] = [] from rfl, lxr_nil]
  rfl

end Go.Proofs.YtinigblglaolmaaDoor
