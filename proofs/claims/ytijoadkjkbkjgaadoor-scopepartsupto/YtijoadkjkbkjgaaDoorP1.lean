import Derived.Test.YtijoadkjkbkjgaaDoorF5
namespace Go.Proofs.YtijoadkjkbkjgaaDoor
open Go.RowKit
set_option linter.unusedVariables false
set_option linter.unusedSimpArgs false

/-- Some put to others, each once. -/
def uni (L F : List ByteArray) : List ByteArray := L.foldl (fun F s => addN [] F s) F
/-- The names that stand free in a node, as often as they do. -/
def oc : (n : Nat) → Tr n → List ByteArray → List ByteArray
  | 0, _, _ => []
  | n + 1, t, B =>
    if (Nd.k (K := Tr n) t) = 5 then (if ct B (Nd.s (K := Tr n) t) = 0 then [(Nd.s (K := Tr n) t)] else [])
    else if (Nd.k (K := Tr n) t) = 8 then (match (Nd.ks (K := Tr n) t) with
      | [] => []
      | a :: r => oc n a B ++ r.flatMap (fun x => oc n x (B ++ (Nd.ns (K := Tr n) t) ++ [(Nd.s (K := Tr n) t)])))
    else (Nd.ks (K := Tr n) t).flatMap (fun x => oc n x (B ++ (Nd.ns (K := Tr n) t) ++ (if (Nd.k (K := Tr n) t) = 6 then [(Nd.s (K := Tr n) t)] else [])))
theorem uni_append (L M F : List ByteArray) : uni (L ++ M) F = uni M (uni L F) := by simp [uni, List.foldl_append]
theorem uni_one (s : ByteArray) (F : List ByteArray) : uni [s] F = addN [] F s := rfl
theorem addN_bound {B F : List ByteArray} {s : ByteArray} (h : ct B s = 0) : addN B F s = addN [] F s := by
  unfold addN
  rw [h]
  simp [ct]
theorem addN_skip {B F : List ByteArray} {s : ByteArray} (h : ¬ ct B s = 0) : addN B F s = F := by
  unfold addN
  rw [if_neg (by omega)]
theorem fr_uni : ∀ (n : Nat) (t : Tr n) (B F : List ByteArray), fr n t B F = uni (oc n t B) F := by
  intro n
  induction n with
  | zero => intro t B F; rfl
  | succ n ih =>
    intro t B F
    have key : ∀ (l : List (Tr n)) (B F : List ByteArray), l.foldl (fun F x => fr n x B F) F = uni (l.flatMap (fun x => oc n x B)) F := by
      intro l
      induction l with
      | nil => intro B F; rfl
      | cons a r ihr =>
        intro B F
        rw [List.foldl_cons, List.flatMap_cons, uni_append, ih a B F]
        exact ihr B _
    unfold fr oc
    by_cases h5 : (Nd.k (K := Tr n) t) = 5
    · rw [if_pos h5, if_pos h5]
      by_cases hc : ct B (Nd.s (K := Tr n) t) = 0
      · rw [if_pos hc, uni_one, addN_bound hc]
      · rw [if_neg hc, addN_skip hc]; rfl
    · rw [if_neg h5, if_neg h5]
      by_cases h8 : (Nd.k (K := Tr n) t) = 8
      · rw [if_pos h8, if_pos h8]
        cases (Nd.ks (K := Tr n) t) with
        | nil => rfl
        | cons a r =>
          simp only
          rw [uni_append, ih a B F]
          exact key r _ _
      · rw [if_neg h8, if_neg h8]
        exact key _ _ _
theorem filter_none (l : List ByteArray) : l.filter (fun s => decide (ct [] s = 0)) = l := by
  rw [List.filter_eq_self]
  intro x _
  simp [ct]
theorem flat_filter {α : Type} (f g : α → List ByteArray) (P : ByteArray → Bool) (l : List α) (h : ∀ x, f x = (g x).filter P) : l.flatMap f = (l.flatMap g).filter P := by
  induction l with
  | nil => rfl
  | cons a r ih => rw [List.flatMap_cons, List.flatMap_cons, List.filter_append, ih, h a]
theorem oc_filter : ∀ (n : Nat) (t : Tr n) (B : List ByteArray), oc n t B = (oc n t []).filter (fun s => decide (ct B s = 0)) := by
  intro n
  induction n with
  | zero => intro t B; rfl
  | succ n ih =>
    intro t B
    have kid : ∀ (x : Tr n) (N : List ByteArray), oc n x (B ++ N) = (oc n x N).filter (fun s => decide (ct B s = 0)) := by
      intro x N
      rw [ih x (B ++ N), ih x N, List.filter_filter]
      congr 1
      funext s
      rw [ct_append]
      by_cases h1 : ct B s = 0
      · by_cases h2 : ct N s = 0
        · simp [h1, h2]
        · simp [h1, h2]
      · simp [h1]
    unfold oc
    by_cases h5 : (Nd.k (K := Tr n) t) = 5
    · rw [if_pos h5, if_pos h5]
      have e0 : ct [] (Nd.s (K := Tr n) t) = 0 := rfl
      rw [if_pos e0]
      by_cases hc : ct B (Nd.s (K := Tr n) t) = 0
      · rw [if_pos hc]; simp [hc]
      · rw [if_neg hc]; simp [hc]
    · rw [if_neg h5, if_neg h5]
      by_cases h8 : (Nd.k (K := Tr n) t) = 8
      · rw [if_pos h8, if_pos h8]
        cases (Nd.ks (K := Tr n) t) with
        | nil => rfl
        | cons a r =>
          simp only
          rw [List.filter_append, ih a B]
          congr 1
          exact flat_filter _ _ _ r (fun x => by rw [List.append_assoc, kid x _]; rfl)
      · rw [if_neg h8, if_neg h8]
        exact flat_filter _ _ _ _ (fun x => by rw [List.append_assoc, kid x _]; rfl)
theorem mem_addN (F : List ByteArray) (s x : ByteArray) : x ∈ addN [] F s ↔ x ∈ F ∨ x = s := by
  unfold addN
  by_cases h : ct [] s + ct F s = 0
  · rw [if_pos h]; simp
  · rw [if_neg h]
    have hm : s ∈ F := Classical.byContradiction (fun hn => h (by have := (ct_zero F s).2 hn; simp [ct, this]))
    constructor
    · exact .inl
    · rintro (h | rfl)
      · exact h
      · exact hm
theorem mem_uni (L F : List ByteArray) (x : ByteArray) : x ∈ uni L F ↔ x ∈ F ∨ x ∈ L := by
  induction L generalizing F with
  | nil => simp [uni]
  | cons a r ih =>
    have : uni (a :: r) F = uni r (addN [] F a) := rfl
    rw [this, ih, mem_addN, List.mem_cons]
    constructor
    · rintro ((h | h) | h)
      · exact .inl h
      · exact .inr (.inl h)
      · exact .inr (.inr h)
    · rintro (h | h | h)
      · exact .inl (.inl h)
      · exact .inl (.inr h)
      · exact .inr h
theorem addN_mem {F : List ByteArray} {s : ByteArray} (h : s ∈ F) : addN [] F s = F := by
  unfold addN
  rw [if_neg]
  intro e
  exact (ct_zero F s).1 (by omega) h
theorem addN_new {F : List ByteArray} {s : ByteArray} (h : ¬ s ∈ F) : addN [] F s = F ++ [s] := by
  unfold addN
  rw [if_pos]
  have := (ct_zero F s).2 h
  simp [ct, this]
/-- Those of which each is once, put to others. -/
theorem uni_uni (L F : List ByteArray) : uni (uni L []) F = uni L F := by
  have key : ∀ (L M : List ByteArray), (∀ F, uni (uni L M) F = uni L (uni M F)) := by
    intro L
    induction L with
    | nil => intro M F; rfl
    | cons a r ih =>
      intro M F
      show uni (uni r (addN [] M a)) F = uni r (addN [] (uni M F) a)
      rw [ih]
      congr 1
      by_cases h : a ∈ M
      · rw [addN_mem h, addN_mem ((mem_uni M F a).2 (.inr h))]
      · rw [addN_new h, uni_append, uni_one]
  exact key L [] F
theorem uni_filter (P : ByteArray → Bool) (L : List ByteArray) : ∀ F, (uni L F).filter P = uni (L.filter P) (F.filter P) := by
  induction L with
  | nil => intro F; rfl
  | cons a r ih =>
    intro F
    show (uni r (addN [] F a)).filter P = _
    rw [ih]
    cases hp : P a with
    | true =>
      rw [List.filter_cons_of_pos hp]
      show _ = uni (r.filter P) (addN [] (F.filter P) a)
      congr 1
      by_cases h : a ∈ F
      · rw [addN_mem h, addN_mem (List.mem_filter.2 ⟨h, hp⟩)]
      · rw [addN_new h, addN_new (fun hh => h (List.mem_filter.1 hh).1), List.filter_append, List.filter_cons_of_pos hp]; rfl
    | false =>
      rw [List.filter_cons_of_neg (by rw [hp]; decide)]
      congr 1
      by_cases h : a ∈ F
      · rw [addN_mem h]
      · rw [addN_new h, List.filter_append, List.filter_cons_of_neg (by rw [hp]; decide), List.filter_nil, List.append_nil]
/-- Free in what is bound, or in what it is bound in and another name. -/
theorem fr_bind {n : Nat} {t : Tr n} {s x : ByteArray} {F : List ByteArray} (h : x ∈ fr n t [s] F) : x ∈ F ∨ (x ∈ fr n t [] [] ∧ ¬ x = s) := by
  rw [fr_uni, mem_uni] at h
  rcases h with h | h
  · exact .inl h
  · rw [oc_filter] at h
    have := List.mem_filter.1 h
    refine .inr ⟨by rw [fr_uni, mem_uni]; exact .inr this.1, fun e => ?_⟩
    subst e
    have h2 := this.2
    simp [ct] at h2
theorem fr_more (n : Nat) (t : Tr n) (F : List ByteArray) : fr n t [] F = uni (fr n t [] []) F := by
  rw [fr_uni, fr_uni n t [] [], uni_uni]
theorem fr_cut (n : Nat) (t : Tr n) (B : List ByteArray) : fr n t B [] = (fr n t [] []).filter (fun s => decide (ct B s = 0)) := by
  rw [fr_uni, fr_uni n t [] [], uni_filter, oc_filter]
  rfl

end Go.Proofs.YtijoadkjkbkjgaaDoor
