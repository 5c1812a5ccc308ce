import Derived.Test.YtinigblglaolmaaDoorQ1
namespace Go.Proofs.YtinigblglaolmaaDoor
open Go.RowKit
set_option linter.unusedVariables false
set_option linter.unusedSimpArgs false

theorem hexd_hx (k : Nat) (h : k < 16) : hx ((hexd k).toNat : Int) = some (k : Int) := by
  have H : ∀ x : Fin 16, hx ((hexd x.val).toNat : Int) = some (x.val : Int) := by decide
  exact H ⟨k, h⟩
theorem dig_hexd (k : Nat) (h : k < 16) (r : List UInt8) : dig (hexd k :: r) = .ok (k : Int) r := by
  simp only [dig, hexd_hx k h]
theorem txt_flat (l : List UInt8) : ∀ acc r, txt acc (l.flatMap esc ++ 34 :: r) = .ok (acc ++ l) r := by
  induction l with
  | nil => intro acc r; simp [txt_end]
  | cons c t ih =>
    intro acc r
    rw [List.flatMap_cons, List.append_assoc]
    have e : acc ++ c :: t = (acc ++ [c]) ++ t := by simp
    rw [e, ← ih (acc ++ [c]) r]
    generalize t.flatMap esc ++ 34 :: r = u
    unfold esc
    by_cases h1 : c = 34 ∨ c = 92
    · rw [if_pos h1]
      exact txt_esc_ok acc (c :: u) u c (by simp [esb, h1])
    · rw [if_neg h1]
      by_cases h2 : 32 ≤ c.toNat ∧ c.toNat ≤ 126
      · rw [if_pos h2]
        exact txt_one acc u c (fun e => h1 (.inl e)) (fun e => h1 (.inr e))
      · rw [if_neg h2]
        have hc := c.toNat_lt
        refine txt_esc_ok acc _ u c ?_
        have := esb_x3 (dig_hexd (c.toNat / 16) (by omega) (hexd (c.toNat % 16) :: u)) (dig_hexd (c.toNat % 16) (by omega) u)
        rw [show UInt8.ofNat (16 * ((c.toNat / 16 : Nat) : Int).toNat + ((c.toNat % 16 : Nat) : Int).toNat) = c by
          rw [show 16 * ((c.toNat / 16 : Nat) : Int).toNat + ((c.toNat % 16 : Nat) : Int).toNat = c.toNat by omega]; simp] at this
        exact this
theorem lex_quo (l : List UInt8) (h : l.length ≤ 1000) : lexAll (quo l) = .ok [⟨5, l, 0, (quo l).length⟩] := by
  have hl := quo_len l
  unfold lexAll
  rw [if_neg (by omega)]
  have h1 : one (quo l) = .ok ⟨5, l, 0, (quo l).length⟩ [] := by
    unfold quo
    rw [one_text, txt_flat l [] []]; simp
  unfold quo at h1 ⊢
  rw [lxr_ok (skp_stop 34 _ (by decide) (by decide)) h1, show skp false [] = [] from rfl, lxr_nil]
  rfl

end Go.Proofs.YtinigblglaolmaaDoor
