import Derived.Test.YtinigblglaolmaaDoorR12
namespace Go.Proofs.YtinigblglaolmaaDoor
open Go.RowKit
set_option linter.unusedVariables false
set_option linter.unusedSimpArgs false

theorem lex_awake : lexAll [40, 97, 32, 45, 53, 41] = .ok [⟨1, [], 0, 6⟩, ⟨3, [97], 0, 5⟩, ⟨4, [], -5, 3⟩, ⟨2, [], 0, 1⟩] := by
  have h1 : one [40, 97, 32, 45, 53, 41] = .ok ⟨1, [], 0, 6⟩ [97, 32, 45, 53, 41] := by kernel_rfl
  have h2 : one [97, 32, 45, 53, 41] = .ok ⟨3, [97], 0, 5⟩ [32, 45, 53, 41] := by kernel_rfl
  have h3 : one [45, 53, 41] = .ok ⟨4, [], -5, 3⟩ [41] := by kernel_rfl
  have h4 : one [41] = .ok ⟨2, [], 0, 1⟩ [] := by kernel_rfl
  unfold lexAll
  rw [if_neg (by decide), lxr_ok (by decide) h1, show skp false [97, 32, 45, 53, 41] = [97, 32, 45, 53, 41] by decide, lxr_ok (by decide) h2, show skp false [32, 45, 53, 41] = [45, 53, 41] by decide, lxr_ok (by decide) h3, show skp false [41] = [41] by decide, lxr_ok (by decide) h4, show skp false [] = [] by decide, lxr_nil]
  rfl
theorem add0 (g j : Nat) : (⟨g, 0, none⟩ : Addr).add j = ⟨g, j, none⟩ := by unfold Addr.add; split <;> simp_all
theorem tc_get (N : Nat) (ts : List Tok) : ∀ (k : Nat) (t : Tok), ts[k]? = some t → ∀ j, j < 4 → (tc N ts)[k * 4 + j]? = (tcs N t)[j]? := by
  induction ts with
  | nil => intro k t h; simp at h
  | cons a r ih =>
    intro k t h j hj
    have e : tc N (a :: r) = tcs N a ++ tc N r := by simp [tc]
    have hl : (tcs N a).length = 4 := rfl
    rw [e]
    cases k with
    | zero =>
      simp at h
      subst h
      rw [List.getElem?_append_left (by omega)]
      simp
    | succ k =>
      simp at h
      rw [List.getElem?_append_right (by omega), hl, show (k + 1) * 4 + j - 4 = k * 4 + j by omega]
      exact ih k t h j hj
/-- A row of tokens that a call owns, as a slice in memory. -/
theorem row_form {w : World} {B : Nat} {ao : Option Addr} {n c : Nat} {N : Nat} {ts : List Tok} (h : w.ownsRow B 33 4 (.slice ao n c) ts.length (tc N ts)) : n = ts.length ∧ (ts = [] ∨ ∃ g, ao = some ⟨g, 0, none⟩ ∧ B ≤ g ∧ g < w.heap.size ∧ ∀ k t, ts[k]? = some t → w.cell? ⟨g, k * 4, none⟩ = some (.int .u8 t.kind) ∧ w.cell? ⟨g, k * 4 + 1, none⟩ = some (sv t.s) ∧ w.cell? ⟨g, k * 4 + 2, none⟩ = some (.int .i64 t.n) ∧ w.cell? ⟨g, k * 4 + 3, none⟩ = some (.int .i64 ((N - t.back : Nat) : Int))) := by
  rcases h.2 with ⟨hv, h0⟩ | ⟨g, cap, cur, hv, hb, hg, _⟩
  · simp at hv
    obtain ⟨rfl, rfl, rfl⟩ := hv
    exact ⟨h0.symm, .inl (List.length_eq_zero_iff.1 h0)⟩
  · simp at hv
    obtain ⟨rfl, rfl, rfl⟩ := hv
    refine ⟨rfl, .inr ⟨g, rfl, hb, (Array.getElem?_eq_some_iff.1 hg).1, ?_⟩⟩
    intro k t ht
    have hc : ∀ j v, (tc N ts)[j]? = some v → w.cell? ⟨g, j, none⟩ = some v := fun j v hj => add0 g j ▸ h.cells (g := g) rfl j v hj
    have hget : ∀ j, j < 4 → (tc N ts)[k * 4 + j]? = (tcs N t)[j]? := fun j hj => tc_get N ts k t ht j hj
    exact ⟨hc _ _ (hget 0 (by decide)), hc _ _ (hget 1 (by decide)), hc _ _ (hget 2 (by decide)), hc _ _ (hget 3 (by decide))⟩

set_option maxRecDepth 100000 in
set_option maxHeartbeats 1000000 in
theorem awake_any (w : World) (hE : Er w) : Calls Tryd.prog 9 #[] w fun e w' => e = .returned (.bool true) ∧ BW w w' := by
  have hC := lexTokens_any ⟨#[40, 97, 32, 45, 53, 41]⟩ w hE
  rw [show ((⟨#[40, 97, 32, 45, 53, 41]⟩ : ByteArray).data.toList) = [40, 97, 32, 45, 53, 41] from rfl, lex_awake] at hC
  go_enter Tryd.func9, Tryd.ntmps9
  go_wp2_with (fail)
  refine hC.mono ?_
  rintro e w1 ⟨ao, n, c, rfl, hown, hbw⟩
  obtain ⟨rfl, h | ⟨g, rfl, _, _, hc⟩⟩ := row_form hown
  · cases h
  have h2 := hc 2 _ rfl
  obtain ⟨k0, _, k2, _⟩ := h2
  have k0' : w1.cell? ⟨g, 8, none⟩ = some (.int .u8 4) := k0
  have k2' : w1.cell? ⟨g, 10, none⟩ = some (.int .i64 (-5)) := k2
  clear k0 k2 hc hC hown
  go_wp2_with (fail)
  go_ret
  exact ⟨rfl, hbw⟩

end Go.Proofs.YtinigblglaolmaaDoor
