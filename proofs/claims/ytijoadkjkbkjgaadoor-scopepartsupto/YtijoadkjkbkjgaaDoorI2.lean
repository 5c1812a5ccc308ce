import Derived.Test.YtijoadkjkbkjgaaDoorD4
namespace Go.Proofs.YtijoadkjkbkjgaaDoor
open Go.RowKit
set_option linter.unusedVariables false
set_option linter.unusedSimpArgs false

/-- What a right node's own fields are. -/
structure Fk (k : Nat) (n : Int) (x : ByteArray) (ns : List ByteArray) (kl : Nat) : Prop where
  k1 : 1 ≤ k
  k2 : k ≤ 19
  nm : ∀ s ∈ ns, nmB s = true
  n0 : 3 ≤ k → n = 0
  n2 : k = 2 → n = 0 ∨ n = 1
  kl : k ≤ 5 → kl = 0
  nl : ¬ k = 6 → ns.length = if k = 17 then 1 else if k = 18 then 2 else 0
  tx : if k = 5 ∨ k = 6 ∨ k = 8 ∨ k = 12 ∨ k = 18 then nmB x = true else if k = 11 then 0 ≤ tk x.data.toList else if k = 3 then True else x = ⟨#[]⟩
theorem su_all {s : Shp} {k n : Int} {x : ByteArray} {ns : List ByteArray} {kl : Nat} (h : su s k n x ns kl = true) : tx s.f x = true ∧ (s.n0 ≤ n ∧ n ≤ s.n1) ∧ (s.a0 ≤ (ns.length : Int) ∧ (ns.length : Int) ≤ s.a1) ∧ (s.p0 ≤ (kl : Int) ∧ (kl : Int) ≤ s.p1) ∧ ∀ s ∈ ns, nmB s = true := by
  unfold su at h
  simp only [Bool.and_eq_true, decide_eq_true_eq] at h
  obtain ⟨⟨⟨⟨⟨⟨h1, h2⟩, h3⟩, h4⟩, _⟩, h5⟩, _⟩ := h
  exact ⟨h1, h2, h3, h4, fun s hs => List.all_eq_true.1 h5 s hs⟩
theorem fk_of : ∀ (k : Nat) (s : Shp) (n : Int) (x : ByteArray) (ns : List ByteArray) (kl : Nat), shp k = some s → su s k n x ns kl = true → Fk k n x ns kl
  | 0, s, n, x, ns, kl, h, hs => by cases h
  | 1, s, n, x, ns, kl, h, hs => by
    cases h
    obtain ⟨h1, h2, h3, h4, h5⟩ := su_all hs
    simp only at h2 h3 h4
    exact ⟨by decide, by decide, h5, by intro h; omega, by intro h; omega, by intro h; omega, by intro h; rw [if_neg (by decide), if_neg (by decide)]; omega, by simpa [tx] using h1⟩
  | 2, s, n, x, ns, kl, h, hs => by
    cases h
    obtain ⟨h1, h2, h3, h4, h5⟩ := su_all hs
    simp only at h2 h3 h4
    exact ⟨by decide, by decide, h5, by intro h; omega, by intro h; omega, by intro h; omega, by intro h; rw [if_neg (by decide), if_neg (by decide)]; omega, by simpa [tx] using h1⟩
  | 3, s, n, x, ns, kl, h, hs => by
    cases h
    obtain ⟨h1, h2, h3, h4, h5⟩ := su_all hs
    simp only at h2 h3 h4
    exact ⟨by decide, by decide, h5, by intro h; omega, by intro h; omega, by intro h; omega, by intro h; rw [if_neg (by decide), if_neg (by decide)]; omega, by simp⟩
  | 4, s, n, x, ns, kl, h, hs => by
    cases h
    obtain ⟨h1, h2, h3, h4, h5⟩ := su_all hs
    simp only at h2 h3 h4
    exact ⟨by decide, by decide, h5, by intro h; omega, by intro h; omega, by intro h; omega, by intro h; rw [if_neg (by decide), if_neg (by decide)]; omega, by simpa [tx] using h1⟩
  | 5, s, n, x, ns, kl, h, hs => by
    cases h
    obtain ⟨h1, h2, h3, h4, h5⟩ := su_all hs
    simp only at h2 h3 h4
    exact ⟨by decide, by decide, h5, by intro h; omega, by intro h; omega, by intro h; omega, by intro h; rw [if_neg (by decide), if_neg (by decide)]; omega, by simpa [tx] using h1⟩
  | 6, s, n, x, ns, kl, h, hs => by
    cases h
    obtain ⟨h1, h2, h3, h4, h5⟩ := su_all hs
    simp only at h2 h3 h4
    exact ⟨by decide, by decide, h5, by intro h; omega, by intro h; omega, by intro h; omega, by intro h; exact absurd rfl h, by simpa [tx] using h1⟩
  | 7, s, n, x, ns, kl, h, hs => by
    cases h
    obtain ⟨h1, h2, h3, h4, h5⟩ := su_all hs
    simp only at h2 h3 h4
    exact ⟨by decide, by decide, h5, by intro h; omega, by intro h; omega, by intro h; omega, by intro h; rw [if_neg (by decide), if_neg (by decide)]; omega, by simpa [tx] using h1⟩
  | 8, s, n, x, ns, kl, h, hs => by
    cases h
    obtain ⟨h1, h2, h3, h4, h5⟩ := su_all hs
    simp only at h2 h3 h4
    exact ⟨by decide, by decide, h5, by intro h; omega, by intro h; omega, by intro h; omega, by intro h; rw [if_neg (by decide), if_neg (by decide)]; omega, by simpa [tx] using h1⟩
  | 9, s, n, x, ns, kl, h, hs => by
    cases h
    obtain ⟨h1, h2, h3, h4, h5⟩ := su_all hs
    simp only at h2 h3 h4
    exact ⟨by decide, by decide, h5, by intro h; omega, by intro h; omega, by intro h; omega, by intro h; rw [if_neg (by decide), if_neg (by decide)]; omega, by simpa [tx] using h1⟩
  | 10, s, n, x, ns, kl, h, hs => by
    cases h
    obtain ⟨h1, h2, h3, h4, h5⟩ := su_all hs
    simp only at h2 h3 h4
    exact ⟨by decide, by decide, h5, by intro h; omega, by intro h; omega, by intro h; omega, by intro h; rw [if_neg (by decide), if_neg (by decide)]; omega, by simpa [tx] using h1⟩
  | 11, s, n, x, ns, kl, h, hs => by
    cases h
    obtain ⟨h1, h2, h3, h4, h5⟩ := su_all hs
    simp only at h2 h3 h4
    exact ⟨by decide, by decide, h5, by intro h; omega, by intro h; omega, by intro h; omega, by intro h; rw [if_neg (by decide), if_neg (by decide)]; omega, by simpa [tx] using h1⟩
  | 12, s, n, x, ns, kl, h, hs => by
    cases h
    obtain ⟨h1, h2, h3, h4, h5⟩ := su_all hs
    simp only at h2 h3 h4
    exact ⟨by decide, by decide, h5, by intro h; omega, by intro h; omega, by intro h; omega, by intro h; rw [if_neg (by decide), if_neg (by decide)]; omega, by simpa [tx] using h1⟩
  | 13, s, n, x, ns, kl, h, hs => by
    cases h
    obtain ⟨h1, h2, h3, h4, h5⟩ := su_all hs
    simp only at h2 h3 h4
    exact ⟨by decide, by decide, h5, by intro h; omega, by intro h; omega, by intro h; omega, by intro h; rw [if_neg (by decide), if_neg (by decide)]; omega, by simpa [tx] using h1⟩
  | 14, s, n, x, ns, kl, h, hs => by
    cases h
    obtain ⟨h1, h2, h3, h4, h5⟩ := su_all hs
    simp only at h2 h3 h4
    exact ⟨by decide, by decide, h5, by intro h; omega, by intro h; omega, by intro h; omega, by intro h; rw [if_neg (by decide), if_neg (by decide)]; omega, by simpa [tx] using h1⟩
  | 15, s, n, x, ns, kl, h, hs => by
    cases h
    obtain ⟨h1, h2, h3, h4, h5⟩ := su_all hs
    simp only at h2 h3 h4
    exact ⟨by decide, by decide, h5, by intro h; omega, by intro h; omega, by intro h; omega, by intro h; rw [if_neg (by decide), if_neg (by decide)]; omega, by simpa [tx] using h1⟩
  | 16, s, n, x, ns, kl, h, hs => by
    cases h
    obtain ⟨h1, h2, h3, h4, h5⟩ := su_all hs
    simp only at h2 h3 h4
    exact ⟨by decide, by decide, h5, by intro h; omega, by intro h; omega, by intro h; omega, by intro h; rw [if_neg (by decide), if_neg (by decide)]; omega, by simpa [tx] using h1⟩
  | 17, s, n, x, ns, kl, h, hs => by
    cases h
    obtain ⟨h1, h2, h3, h4, h5⟩ := su_all hs
    simp only at h2 h3 h4
    exact ⟨by decide, by decide, h5, by intro h; omega, by intro h; omega, by intro h; omega, by intro h; rw [if_pos rfl]; omega, by simpa [tx] using h1⟩
  | 18, s, n, x, ns, kl, h, hs => by
    cases h
    obtain ⟨h1, h2, h3, h4, h5⟩ := su_all hs
    simp only at h2 h3 h4
    exact ⟨by decide, by decide, h5, by intro h; omega, by intro h; omega, by intro h; omega, by intro h; rw [if_neg (by decide), if_pos rfl]; omega, by simpa [tx] using h1⟩
  | 19, s, n, x, ns, kl, h, hs => by
    cases h
    obtain ⟨h1, h2, h3, h4, h5⟩ := su_all hs
    simp only at h2 h3 h4
    exact ⟨by decide, by decide, h5, by intro h; omega, by intro h; omega, by intro h; omega, by intro h; rw [if_neg (by decide), if_neg (by decide)]; omega, by simpa [tx] using h1⟩
  | n + 20, s, _, x, ns, kl, h, hs => by cases h
theorem rt_fk {n : Nat} {t : Tr (n + 1)} (h : rt (n + 1) t = true) : ∃ k : Nat, Nd.k (K := Tr n) t = k ∧ Fk k (Nd.n (K := Tr n) t) (Nd.s (K := Tr n) t) (Nd.ns (K := Tr n) t) (Nd.ks (K := Tr n) t).length := by
  obtain ⟨⟨s, hsp, hsu⟩, _⟩ := rt_kids h
  have hk : Nd.k (K := Tr n) t = ((Nd.k (K := Tr n) t).toNat : Int) := by
    rcases Int.lt_or_le (Nd.k (K := Tr n) t) 0 with h0 | h0
    · rw [Int.toNat_of_nonpos (by omega)] at hsp; cases hsp
    · exact (Int.toNat_of_nonneg h0).symm
  refine ⟨_, hk, fk_of _ s _ _ _ _ hsp ?_⟩
  rw [← hk]; exact hsu

end Go.Proofs.YtijoadkjkbkjgaaDoor
