import Derived.Test.YtinigblglaolmaaDoorL1
namespace Go.Proofs.YtinigblglaolmaaDoor
open Go.RowKit
set_option linter.unusedVariables false
set_option linter.unusedSimpArgs false

/-- A slice that reads as tokens. -/
def RowIs (w : World) (ao : Option Addr) (n N : Nat) (ts : List Tok) : Prop :=
  n = ts.length ∧ (ts = [] ∨ ∃ g, ao = some ⟨g, 0, none⟩ ∧ g < w.heap.size ∧ ∀ k t, ts[k]? = some t → w.cell? ⟨g, k * 4, none⟩ = some (.int .u8 t.kind) ∧ w.cell? ⟨g, k * 4 + 1, none⟩ = some (sv t.s) ∧ w.cell? ⟨g, k * 4 + 2, none⟩ = some (.int .i64 t.n) ∧ w.cell? ⟨g, k * 4 + 3, none⟩ = some (.int .i64 ((N - t.back : Nat) : Int)))
theorem RowIs.of {w : World} {B : Nat} {ao : Option Addr} {n c : Nat} {N : Nat} {ts : List Tok} (h : w.ownsRow B 33 4 (.slice ao n c) ts.length (tc N ts)) : RowIs w ao n N ts := by
  obtain ⟨h1, h2⟩ := row_form h
  refine ⟨h1, ?_⟩
  rcases h2 with h2 | ⟨g, e, _, hl, hc⟩
  · exact .inl h2
  · exact .inr ⟨g, e, hl, hc⟩
theorem RowIs.bw {w w' : World} {ao : Option Addr} {n N : Nat} {ts : List Tok} (h : RowIs w ao n N ts) (k : BW w w') : RowIs w' ao n N ts := by
  obtain ⟨h1, h2⟩ := h
  refine ⟨h1, ?_⟩
  rcases h2 with h2 | ⟨g, e, hl, hc⟩
  · exact .inl h2
  · refine .inr ⟨g, e, Nat.lt_of_lt_of_le hl k.size, fun j t ht => ?_⟩
    obtain ⟨q0, q1, q2, q3⟩ := hc j t ht
    exact ⟨(k.cells g _ hl).trans q0, (k.cells g _ hl).trans q1, (k.cells g _ hl).trans q2, (k.cells g _ hl).trans q3⟩
theorem row_empty (w : World) (ao : Option Addr) (N : Nat) : RowIs w ao 0 N [] := ⟨rfl, .inl rfl⟩
set_option maxRecDepth 100000 in
set_option maxHeartbeats 1000000 in
theorem same_any (ao1 ao2 : Option Addr) (n1 c1 n2 c2 N : Nat) (ts : List Tok) (hts : ts.length ≤ 100000) (w : World) (h1 : RowIs w ao1 n1 N ts) (h2 : RowIs w ao2 n2 N ts) :
    Calls Tryd.prog 12 #[.slice ao1 n1 c1, .slice ao2 n2 c2] w fun e w' => e = .returned (.bool true) ∧ BW w w' := by
  obtain ⟨rfl, h1⟩ := h1
  obtain ⟨rfl, h2⟩ := h2
  have H1 : Hid _ := h1
  have H2 : Hid _ := h2
  clear h1 h2
  go_enter Tryd.func12, Tryd.ntmps12
  go_wp2_with (fail)
  go_loopw [13] (fun i wr => ∃ k : Nat, k ≤ ts.length ∧ i = .int .i64 k ∧ ∃ m, wr = w.drewN m) (fun i _ => ts.length - (intOf i).toNat)
  case atStart => exact ⟨0, Nat.zero_le _, rfl, 0, rfl⟩
  case round =>
    obtain ⟨k, hk, rfl, m, rfl⟩ := hrel
    by_cases hlt : k < ts.length
    · have hlt' : (k : Int) < ts.length := by omega
      obtain ⟨t, ht⟩ : ∃ t, ts[k]? = some t := ⟨_, List.getElem?_eq_getElem hlt⟩
      rcases H1.out with h0 | ⟨g1, rfl, _, hc1⟩
      · rw [h0] at hlt; simp at hlt
      rcases H2.out with h0 | ⟨g2, rfl, _, hc2⟩
      · rw [h0] at hlt; simp at hlt
      obtain ⟨a0, a1, a2, a3⟩ := hc1 k t ht
      obtain ⟨b0, b1, b2, b3⟩ := hc2 k t ht
      unfold sv at a1 b1
      clear hc1 hc2 ht
      generalize (⟨t.s.toArray⟩ : ByteArray) = S at *
      generalize t.n = tn at *
      generalize ((N - t.back : Nat) : Int) = at_ at *
      generalize (t.kind : Int) = tk at *
      go_wp2_with fail
      go_quiet (fail)
      go_wp2_with fail
      go_roundw
      case rel => exact ⟨k + 1, by omega, by go_num, _, rfl⟩
      case measure => simp [intOf]; omega
    · have hlt' : ¬ (k : Int) < ts.length := by omega
      go_wp2_with fail
      go_ret
      exact ⟨rfl, (BW.refl w).drewN _⟩

end Go.Proofs.YtinigblglaolmaaDoor
