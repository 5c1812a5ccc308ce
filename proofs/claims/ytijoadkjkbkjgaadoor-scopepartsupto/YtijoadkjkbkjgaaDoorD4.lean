import Derived.Test.YtijoadkjkbkjgaaDoorC6
namespace Go.Proofs.YtijoadkjkbkjgaaDoor
open Go.RowKit
set_option linter.unusedVariables false
set_option linter.unusedSimpArgs false

theorem rt_kids {n : Nat} {t : Tr (n + 1)} (h : rt (n + 1) t = true) : (∃ s, shp (Nd.k (K := Tr n) t).toNat = some s ∧ su s (Nd.k (K := Tr n) t) (Nd.n (K := Tr n) t) (Nd.s (K := Tr n) t) (Nd.ns (K := Tr n) t) (Nd.ks (K := Tr n) t).length = true) ∧ ∀ x ∈ Nd.ks (K := Tr n) t, rt n x = true := by
  unfold rt at h
  split at h
  · cases h
  · rename_i s hs
    rw [Bool.and_eq_true] at h
    refine ⟨⟨s, hs, h.1⟩, ?_⟩
    have hcl : ∀ (l : List (Tr n)) (la : Int) (ops : List ByteArray), clsG (knd n) (ttx n) (rt n) la ops l = true → ∀ x ∈ l, rt n x = true := by
      intro l
      induction l with
      | nil => intro la ops _ x hx; cases hx
      | cons a r ih =>
        intro la ops hc x hx
        unfold clsG at hc
        split at hc
        · cases hc
        · rename_i hno
          simp only [Bool.or_eq_true, not_or, Bool.not_eq_true', Bool.not_eq_false] at hno
          rcases List.mem_cons.1 hx with rfl | hx
          · exact hno.2
          · exact ih _ _ hc x hx
    intro x hx
    have h2 := h.2
    split at h2
    · rw [Bool.and_eq_true] at h2
      cases hks : (Nd.ks (K := Tr n) t) with
      | nil => rw [hks] at hx; cases hx
      | cons a r =>
        rw [hks] at hx h2
        rcases List.mem_cons.1 hx with rfl | hx
        · have := List.all_eq_true.1 h2.2 x (by simp)
          rw [Bool.and_eq_true] at this; exact this.2
        · exact hcl _ _ _ h2.1 x (by simpa using hx)
    · have := List.all_eq_true.1 h2 x hx
      rw [Bool.and_eq_true] at this; exact this.2
theorem cells2 {w w' : World} {r1 r2 : Rw} (h : BW (w.alloc (.cells #[.int .u8 r1.k, .int .i64 r1.n, .string r1.s, .slice r1.na r1.nl r1.nc, .slice r1.ka r1.kl r1.kc, .int .u8 r2.k, .int .i64 r2.n, .string r2.s, .slice r2.na r2.nl r2.nc, .slice r2.ka r2.kl r2.kc] 25)) w') : CellsAt w' w.heap.size 0 r1 ∧ CellsAt w' w.heap.size 5 r2 ∧ w.heap.size < w'.heap.size := by
  have hz := h.size
  have hl : w.heap.size < (w.alloc (.cells #[.int .u8 r1.k, .int .i64 r1.n, .string r1.s, .slice r1.na r1.nl r1.nc, .slice r1.ka r1.kl r1.kc, .int .u8 r2.k, .int .i64 r2.n, .string r2.s, .slice r2.na r2.nl r2.nc, .slice r2.ka r2.kl r2.kc] 25)).heap.size := by simp
  refine ⟨CellsAt.bw ?_ h hl, CellsAt.bw ?_ h hl, by omega⟩
  · exact ⟨cell_new _ _ _ 0, cell_new _ _ _ 1, cell_new _ _ _ 2, cell_new _ _ _ 3, cell_new _ _ _ 4⟩
  · exact ⟨cell_new _ _ _ 5, cell_new _ _ _ 6, cell_new _ _ _ 7, cell_new _ _ _ 8, cell_new _ _ _ 9⟩
theorem SeqAt.two {K : Type} {At : Value → K → Prop} {W : World} {b : Nat} {r1 r2 : Rw} {x1 x2 : K} (hb : b < W.heap.size) (h1 : CellsAt W b 0 r1) (h2 : CellsAt W b 5 r2) (a1 : At r1.v x1) (a2 : At r2.v x2) : SeqAt At W (some ⟨b, 0, none⟩) 2 [x1, x2] := by
  refine ⟨rfl, by decide, .inr ⟨b, 0, rfl, hb, fun i x hx => ?_⟩⟩
  match i, hx with
  | 0, hx => simp at hx; subst hx; exact ⟨r1, h1, a1⟩
  | 1, hx => simp at hx; subst hx; exact ⟨r2, h2, a2⟩
theorem SeqAt.nil {K : Type} {At : Value → K → Prop} {W : World} : SeqAt At W none 0 [] := ⟨rfl, Nat.zero_le _, .inl rfl⟩
theorem StrsAt.nil {W : World} : StrsAt W none 0 [] := ⟨rfl, Nat.zero_le _, by simp, .inl rfl⟩
/-- A node without names and parts. -/
abbrev leaf (n : Nat) (k i : Int) (s : ByteArray) : Tr (n + 1) := (⟨k, i, s, [], []⟩ : Nd (Tr n))
theorem leaf_at (W : World) (n : Nat) (k i : Int) (s : ByteArray) (h : Wf (⟨k, i, s, [], []⟩ : Nd (Tr n))) : NodeAt W (n + 1) (ndv k i s none 0 0 none 0 0) (leaf n k i s) := ⟨none, 0, 0, none, 0, 0, rfl, h, Nat.le_refl _, Nat.zero_le _, Nat.le_refl _, Nat.zero_le _, StrsAt.nil, SeqAt.nil⟩
theorem wf_small {K : Type} (k i : Int) (s : ByteArray) (l : List ByteArray) (q : List K) (h0 : 0 ≤ k) (h1 : k ≤ 255) (h2 : -9223372036854775808 ≤ i) (h3 : i ≤ 9223372036854775807) (h4 : s.size ≤ 1000) : Wf (⟨k, i, s, l, q⟩ : Nd K) := ⟨h0, h1, h2, h3, by show s.size ≤ maxLen; unfold maxLen; omega⟩

end Go.Proofs.YtijoadkjkbkjgaaDoor
