import Derived.Test.YtijoadkjkbkjgaaDoorQ4
import Derived.Test.YtijoadkjkbkjgaaDoorK1
namespace Go.Proofs.YtijoadkjkbkjgaaDoor
open Go.RowKit
set_option linter.unusedVariables false
set_option linter.unusedSimpArgs false

/-- Lets of one name, one within the other. -/
def lt (s : ByteArray) : (j : Nat) → Tr (j + 1)
  | 0 => leaf 0 5 0 s
  | j + 1 => (⟨8, 0, s, [], [leaf j 1 j ⟨#[]⟩, lt s j]⟩ : Nd (Tr (j + 1)))
theorem lt_sz (s : ByteArray) : ∀ j, sz (j + 1) (lt s j) = 2 * j + 1
  | 0 => rfl
  | j + 1 => by
    show 1 + ([leaf j 1 j ⟨#[]⟩, lt s j].map (sz (j + 1))).sum = _
    have h := lt_sz s j
    have e : sz (j + 1) (leaf j 1 j ⟨#[]⟩) = 1 := rfl
    simp only [List.map_cons, List.map_nil, List.sum_cons, List.sum_nil, h, e]; omega
theorem lt_dep (s : ByteArray) : ∀ j, dep (j + 1) (lt s j) = j + 1
  | 0 => rfl
  | j + 1 => by
    show 1 + ([leaf j 1 j ⟨#[]⟩, lt s j].map (dep (j + 1))).foldr max 0 = _
    have h := lt_dep s j
    have e : dep (j + 1) (leaf j 1 j ⟨#[]⟩) = 1 := rfl
    simp only [List.map_cons, List.map_nil, List.foldr_cons, List.foldr_nil, h, e]; omega
theorem lt_n200 (s : ByteArray) : ∀ j, n200 (j + 1) (lt s j) = true
  | 0 => rfl
  | j + 1 => by
    have h := lt_n200 s j
    show (decide (([] : List ByteArray).length ≤ 200) && [leaf j 1 j ⟨#[]⟩, lt s j].all (n200 (j + 1))) = true
    have e : n200 (j + 1) (leaf j 1 j ⟨#[]⟩) = true := rfl
    simp [h, e]
theorem var_nm {s : ByteArray} (h : mayB 1 (leaf 0 5 0 s) = true) : nmB s = true := by
  have h1 := (may_rt h).1
  obtain ⟨⟨q, hq, hsu⟩, _⟩ := rt_kids h1
  obtain rfl : q = _ := (Option.some.inj hq).symm
  exact (su_all hsu).1
theorem lt_rt {s : ByteArray} (hs : nmB s = true) (hz : s.size ≤ 100) : ∀ j, j ≤ 40 → rt (j + 1) (lt s j) = true ∧ isCl (knd (j + 1) (lt s j)) = false
  | 0, _ => by
    refine ⟨?_, rfl⟩
    show (su ⟨⟨#[]⟩, 0, 0, 0, 0, 0, 0, 35⟩ 5 0 s [] 0 && true) = true
    unfold su
    simp [tx, hs]
  | j + 1, hj => by
    obtain ⟨h1, h2⟩ := lt_rt hs hz j (by omega)
    refine ⟨?_, rfl⟩
    have e1 : rt (j + 1) (leaf j 1 j ⟨#[]⟩) = true := by
      show (su ⟨⟨#[]⟩, -9223372036854775808, 9223372036854775807, 0, 0, 0, 0, 30⟩ 1 j ⟨#[]⟩ [] 0 && true) = true
      unfold su
      simp [tx]
      omega
    have e2 : isCl (knd (j + 1) (leaf j 1 j ⟨#[]⟩)) = false := rfl
    show (su ⟨⟨#[108, 101, 116]⟩, 0, 0, 0, 0, 2, 2, 35⟩ 8 0 s [] 2 && (if (8 : Int) = 13 then _ else [leaf j 1 j ⟨#[]⟩, lt s j].all (fun x => !isCl (knd (j + 1) x) && rt (j + 1) x))) = true
    rw [if_neg (by decide)]
    have hu : su ⟨⟨#[108, 101, 116]⟩, 0, 0, 0, 0, 2, 2, 35⟩ 8 0 s [] 2 = true := by
      unfold su
      simp [tx, hs]
    rw [hu]
    simp [h1, h2, e1, e2]
theorem lt_may {s : ByteArray} (hs : nmB s = true) (hz : s.size ≤ 100) (j : Nat) (hj : j ≤ 20) : mayB (j + 1) (lt s j) = true := by
  obtain ⟨h1, h2⟩ := lt_rt hs hz j (by omega)
  rw [mayB_eq, lt_sz, lt_dep]
  unfold vl
  rw [h1, h2]
  simp
  omega
theorem lt_bound (s : ByteArray) : ∀ (j : Nat) (B : List ByteArray), ¬ ct B s = 0 → fr (j + 1) (lt s j) B [] = []
  | 0, B, h => by
    show addN B [] s = []
    unfold addN
    rw [if_neg (by simpa [ct] using h)]
  | j + 1, B, h => by
    show fr (j + 1) (lt s j) (B ++ [] ++ [s]) (fr (j + 1) (leaf j 1 j ⟨#[]⟩) B []) = []
    rw [show fr (j + 1) (leaf j 1 j ⟨#[]⟩) B [] = [] from rfl]
    exact lt_bound s j _ (by rw [ct_append, ct_append]; omega)
theorem lt_fre {s : ByteArray} (hs : nmB s = true) (hz : s.size ≤ 100) (j : Nat) (hj : j ≤ 20) : fre (j + 1) (lt s j) = if j = 0 then [s] else [] := by
  unfold fre
  rw [lt_may hs hz j hj, if_pos rfl]
  cases j with
  | zero =>
    show addN [] [] s = _
    unfold addN
    simp [ct]
  | succ j =>
    rw [if_neg (by omega)]
    show fr (j + 1) (lt s j) ([] ++ [] ++ [s]) (fr (j + 1) (leaf j 1 j ⟨#[]⟩) [] []) = []
    rw [show fr (j + 1) (leaf j 1 j ⟨#[]⟩) [] [] = [] from rfl]
    exact lt_bound s j _ (by simp [ct])

end Go.Proofs.YtijoadkjkbkjgaaDoor
