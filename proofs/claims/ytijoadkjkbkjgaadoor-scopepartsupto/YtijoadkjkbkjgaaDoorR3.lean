import Derived.Test.YtijoadkjkbkjgaaDoorR2
namespace Go.Proofs.YtijoadkjkbkjgaaDoor
open Go.RowKit
set_option linter.unusedVariables false
set_option linter.unusedSimpArgs false

theorem dep_all {n : Nat} (l : List (Tr n)) (d : Nat) : ((l.map (dep n)).foldr max 0 + (d + 1) ≤ 61 ∨ l = []) ↔ ∀ x ∈ l, dep n x + (d + 1) ≤ 61 := by
  induction l with
  | nil => simp
  | cons a r ih =>
    simp only [List.mem_cons, forall_eq_or_imp, List.map_cons, List.foldr_cons, reduceCtorEq, or_false, ← ih]
    constructor
    · intro h; exact ⟨by omega, .inl (by omega)⟩
    · rintro ⟨h1, h2 | h2⟩
      · omega
      · subst h2; simp; omega
/-- A node fits so deep just if its parts do. -/
theorem dep_split {n : Nat} (t : Tr (n + 1)) (d : Nat) (hd : d ≤ 60) : decide (dep (n + 1) t + d ≤ 61) = (Nd.ks (K := Tr n) t).all (fun x => decide (dep n x + (d + 1) ≤ 61)) := by
  have e : dep (n + 1) t = 1 + ((Nd.ks (K := Tr n) t).map (dep n)).foldr max 0 := rfl
  have h := dep_all (Nd.ks (K := Tr n) t) d
  by_cases ha : ∀ x ∈ Nd.ks (K := Tr n) t, dep n x + (d + 1) ≤ 61
  · have h1 : dep (n + 1) t + d ≤ 61 := by
      rcases h.2 ha with h2 | h2
      · omega
      · rw [e, h2]; simp; omega
    have h2 : (Nd.ks (K := Tr n) t).all (fun x => decide (dep n x + (d + 1) ≤ 61)) = true := by
      rw [List.all_eq_true]; intro x hx; simpa using ha x hx
    rw [h2]; simpa using h1
  · have h1 : ¬ dep (n + 1) t + d ≤ 61 := fun hh => ha (h.1 (.inl (by omega)))
    have h2 : (Nd.ks (K := Tr n) t).all (fun x => decide (dep n x + (d + 1) ≤ 61)) = false := by
      rw [List.all_eq_false]
      simp only [Classical.not_forall] at ha
      obtain ⟨x, hx, hh⟩ := ha
      exact ⟨x, hx, by simpa using hh⟩
    rw [h2]; simpa using h1
theorem all_and {α : Type} (f g : α → Bool) (l : List α) : l.all (fun x => f x && g x) = (l.all f && l.all g) := by
  induction l with
  | nil => rfl
  | cons a r ih => simp only [List.all_cons, ih]; cases f a <;> cases g a <;> simp
/-- A node whose parts are values: right and so deep. -/
theorem rt_plain {n : Nat} {t : Tr (n + 1)} {k : Nat} {s : Shp} (hk : Nd.k (K := Tr n) t = k) (hsp : shp k = some s) (h13 : ¬ k = 13) (d : Nat) (hd : d ≤ 60) : (decide (dep (n + 1) t + d ≤ 61) && rt (n + 1) t) = (su s k (Nd.n (K := Tr n) t) (Nd.s (K := Tr n) t) (Nd.ns (K := Tr n) t) (Nd.ks (K := Tr n) t).length && (Nd.ks (K := Tr n) t).all (kok n d)) := by
  have e : rt (n + 1) t = (su s k (Nd.n (K := Tr n) t) (Nd.s (K := Tr n) t) (Nd.ns (K := Tr n) t) (Nd.ks (K := Tr n) t).length && (Nd.ks (K := Tr n) t).all (fun x => !isCl (knd n x) && rt n x)) := by
    have e0 : rt (n + 1) t = match shp (Nd.k (K := Tr n) t).toNat with
      | none => false
      | some s => su s (Nd.k (K := Tr n) t) (Nd.n (K := Tr n) t) (Nd.s (K := Tr n) t) (Nd.ns (K := Tr n) t) (Nd.ks (K := Tr n) t).length && (if (Nd.k (K := Tr n) t) = 13 then clsG (knd n) (ttx n) (rt n) 0 [] ((Nd.ks (K := Tr n) t).drop 1) && ((Nd.ks (K := Tr n) t).take 1).all (fun x => !isCl (knd n x) && rt n x) else (Nd.ks (K := Tr n) t).all (fun x => !isCl (knd n x) && rt n x)) := rfl
    rw [e0, hk, Int.toNat_natCast, hsp]
    simp only
    rw [if_neg (by omega)]
  have e2 : (Nd.ks (K := Tr n) t).all (kok n d) = ((Nd.ks (K := Tr n) t).all (fun x => decide (dep n x + (d + 1) ≤ 61)) && (Nd.ks (K := Tr n) t).all (fun x => !isCl (knd n x) && rt n x)) := all_and (fun x => decide (dep n x + (d + 1) ≤ 61)) (fun x => !isCl (knd n x) && rt n x) _
  rw [dep_split t d hd, e, e2]
  cases (Nd.ks (K := Tr n) t).all (fun x => decide (dep n x + (d + 1) ≤ 61)) <;> cases (su s k (Nd.n (K := Tr n) t) (Nd.s (K := Tr n) t) (Nd.ns (K := Tr n) t) (Nd.ks (K := Tr n) t).length) <;> simp
/-- A handle: right and so deep. -/
theorem rt_handle {n : Nat} {t : Tr (n + 1)} {s : Shp} (hk : Nd.k (K := Tr n) t = ((13 : Nat) : Int)) (hsp : shp 13 = some s) (d : Nat) (hd : d ≤ 60) : (decide (dep (n + 1) t + d ≤ 61) && rt (n + 1) t) = (su s 13 (Nd.n (K := Tr n) t) (Nd.s (K := Tr n) t) (Nd.ns (K := Tr n) t) (Nd.ks (K := Tr n) t).length && (((Nd.ks (K := Tr n) t).take 1).all (kok n d) && (((Nd.ks (K := Tr n) t).drop 1).all (fun x => decide (dep n x + (d + 1) ≤ 61)) && clsG (knd n) (ttx n) (rt n) 0 [] ((Nd.ks (K := Tr n) t).drop 1)))) := by
  have e : rt (n + 1) t = (su s 13 (Nd.n (K := Tr n) t) (Nd.s (K := Tr n) t) (Nd.ns (K := Tr n) t) (Nd.ks (K := Tr n) t).length && (clsG (knd n) (ttx n) (rt n) 0 [] ((Nd.ks (K := Tr n) t).drop 1) && ((Nd.ks (K := Tr n) t).take 1).all (fun x => !isCl (knd n x) && rt n x))) := by
    have e0 : rt (n + 1) t = match shp (Nd.k (K := Tr n) t).toNat with
      | none => false
      | some s => su s (Nd.k (K := Tr n) t) (Nd.n (K := Tr n) t) (Nd.s (K := Tr n) t) (Nd.ns (K := Tr n) t) (Nd.ks (K := Tr n) t).length && (if (Nd.k (K := Tr n) t) = 13 then clsG (knd n) (ttx n) (rt n) 0 [] ((Nd.ks (K := Tr n) t).drop 1) && ((Nd.ks (K := Tr n) t).take 1).all (fun x => !isCl (knd n x) && rt n x) else (Nd.ks (K := Tr n) t).all (fun x => !isCl (knd n x) && rt n x)) := rfl
    rw [e0, hk, Int.toNat_natCast, hsp]
    simp only
    rw [if_pos (by omega)]
    rfl
  have e2 : ((Nd.ks (K := Tr n) t).take 1).all (kok n d) = (((Nd.ks (K := Tr n) t).take 1).all (fun x => decide (dep n x + (d + 1) ≤ 61)) && ((Nd.ks (K := Tr n) t).take 1).all (fun x => !isCl (knd n x) && rt n x)) := all_and (fun x => decide (dep n x + (d + 1) ≤ 61)) (fun x => !isCl (knd n x) && rt n x) _
  have e3 : (Nd.ks (K := Tr n) t).all (fun x => decide (dep n x + (d + 1) ≤ 61)) = (((Nd.ks (K := Tr n) t).take 1).all (fun x => decide (dep n x + (d + 1) ≤ 61)) && ((Nd.ks (K := Tr n) t).drop 1).all (fun x => decide (dep n x + (d + 1) ≤ 61))) := by
    rw [← List.all_append, List.take_append_drop]
  rw [dep_split t d hd, e, e2, e3]
  cases ((Nd.ks (K := Tr n) t).take 1).all (fun x => decide (dep n x + (d + 1) ≤ 61)) <;> cases ((Nd.ks (K := Tr n) t).drop 1).all (fun x => decide (dep n x + (d + 1) ≤ 61)) <;> cases (su s 13 (Nd.n (K := Tr n) t) (Nd.s (K := Tr n) t) (Nd.ns (K := Tr n) t) (Nd.ks (K := Tr n) t).length) <;> cases clsG (knd n) (ttx n) (rt n) 0 [] ((Nd.ks (K := Tr n) t).drop 1) <;> simp
theorem deep_none {n : Nat} (t : Tr (n + 1)) (d : Nat) (hd : 60 < d) : decide (dep (n + 1) t + d ≤ 61) = false := by
  have e : dep (n + 1) t = 1 + ((Nd.ks (K := Tr n) t).map (dep n)).foldr max 0 := rfl
  simp; omega

end Go.Proofs.YtijoadkjkbkjgaaDoor
