import Derived.Test.YtinigblglaolmaaDoorP2
import Derived.Test.YtinigblglaolmaaDoorS1
namespace Go.Proofs.YtinigblglaolmaaDoor
open Go.RowKit
set_option linter.unusedVariables false
set_option linter.unusedSimpArgs false

theorem lex_no0 {s : ByteArray} (h : s.size ≤ 60000) {bk k : Nat} (hL : lexAll s.data.toList = .error (bk, k)) : ¬ (k : Int) = 0 := by
  have hl : s.data.toList.length = s.size := by simp
  unfold lexAll at hL
  rw [if_neg (by omega)] at hL
  have := lxr_e hL
  omega
theorem lexJoins_long (a b : ByteArray) (h : ¬ (a.size ≤ 3000 ∧ b.size ≤ 3000)) (w : World) (hE : Er w) : Calls Tryd.prog 6 #[.string a, .string b] w fun e w' => e = .returned (.bool true) ∧ BW w w' := by
  have hE' : Hid (Er w) := hE
  clear hE
  by_cases h1 : a.size ≤ 3000
  · have g1 : decide ((3000 : Int) < a.size) = false := by simp; omega
    have g2 : decide ((3000 : Int) < b.size) = true := by simp; omega
    go_enter Tryd.func6, Tryd.ntmps6
    go_wp2_with (go_at_call 9; refine (awake_any _ hE'.out).mono ?_; rintro e w' ⟨rfl, hw⟩)
    all_goals (go_ret; exact ⟨rfl, hw⟩)
  · have g1 : decide ((3000 : Int) < a.size) = true := by simp; omega
    go_enter Tryd.func6, Tryd.ntmps6
    go_wp2_with (go_at_call 9; refine (awake_any _ hE'.out).mono ?_; rintro e w' ⟨rfl, hw⟩)
    all_goals (go_ret; exact ⟨rfl, hw⟩)
set_option maxRecDepth 100000 in
set_option maxHeartbeats 1000000 in
theorem lexJoins_no1 (a b : ByteArray) (h1 : a.size ≤ 3000) (h2 : b.size ≤ 3000) (bk k : Nat) (hL : lexAll a.data.toList = .error (bk, k)) (w : World) (hE : Er w) : Calls Tryd.prog 6 #[.string a, .string b] w fun e w' => e = .returned (.bool true) ∧ BW w w' := by
  have hE' : Hid (Er w) := hE
  clear hE
  have g1 : decide ((3000 : Int) < a.size) = false := by simp; omega
  have g2 : decide ((3000 : Int) < b.size) = false := by simp; omega
  have hk := lex_no0 (by omega) hL
  go_enter Tryd.func6, Tryd.ntmps6
  go_wp2_with (fail)
  refine (lexTokens_any a w hE'.out).mono ?_
  rw [hL]
  rintro e w1 ⟨rfl, hb1⟩
  go_wp2_with (fail)
  refine (lexTokens_any b w1 (hE'.out.bw hb1)).mono ?_
  cases hM : lexAll b.data.toList with
  | error x =>
    obtain ⟨bk2, k2⟩ := x
    rintro e w2 ⟨rfl, hb2⟩
    go_wp2_with (go_at_call 9; refine (awake_any _ (hE'.out.bw (hb1.trans hb2))).mono ?_; rintro e w' ⟨rfl, hw⟩)
    all_goals (go_ret; exact ⟨rfl, (hb1.trans hb2).trans hw⟩)
  | ok us =>
    rintro e w2 ⟨ao, n, c, rfl, hown, hb2⟩
    go_wp2_with (go_at_call 9; refine (awake_any _ (hE'.out.bw (hb1.trans hb2))).mono ?_; rintro e w' ⟨rfl, hw⟩)
    all_goals (go_ret; exact ⟨rfl, (hb1.trans hb2).trans hw⟩)
set_option maxRecDepth 100000 in
set_option maxHeartbeats 1000000 in
theorem lexJoins_no2 (a b : ByteArray) (h1 : a.size ≤ 3000) (h2 : b.size ≤ 3000) (ts : List Tok) (hL : lexAll a.data.toList = .ok ts) (bk k : Nat) (hM : lexAll b.data.toList = .error (bk, k)) (w : World) (hE : Er w) : Calls Tryd.prog 6 #[.string a, .string b] w fun e w' => e = .returned (.bool true) ∧ BW w w' := by
  have hE' : Hid (Er w) := hE
  clear hE
  have g1 : decide ((3000 : Int) < a.size) = false := by simp; omega
  have g2 : decide ((3000 : Int) < b.size) = false := by simp; omega
  have hk := lex_no0 (by omega) hM
  go_enter Tryd.func6, Tryd.ntmps6
  go_wp2_with (fail)
  refine (lexTokens_any a w hE'.out).mono ?_
  rw [hL]
  rintro e w1 ⟨ao, n, c, rfl, hown, hb1⟩
  go_wp2_with (fail)
  refine (lexTokens_any b w1 (hE'.out.bw hb1)).mono ?_
  rw [hM]
  rintro e w2 ⟨rfl, hb2⟩
  go_wp2_with (go_at_call 9; refine (awake_any _ (hE'.out.bw (hb1.trans hb2))).mono ?_; rintro e w' ⟨rfl, hw⟩)
  all_goals (go_ret; exact ⟨rfl, (hb1.trans hb2).trans hw⟩)
theorem join_str (a b : ByteArray) : (a ++ ⟨#[10]⟩ ++ b).data.toList = a.data.toList ++ 10 :: b.data.toList := by
  simp [ByteArray.data_append]
theorem RowIs.fd {w w' : World} {ao : Option Addr} {n N g : Nat} {ts : List Tok} (h : RowIs w ao n N ts) (k : Fd g w w') (hg : ∀ x, ao = some ⟨x, 0, none⟩ → x ≠ g) : RowIs w' ao n N ts := by
  obtain ⟨h1, h2⟩ := h
  refine ⟨h1, ?_⟩
  rcases h2 with h2 | ⟨x, e, hl, hc⟩
  · exact .inl h2
  · have hx := hg x e
    have hcell : ∀ o, w'.cell? ⟨x, o, none⟩ = w.cell? ⟨x, o, none⟩ := fun o => by
      simp only [World.cell?, k.oth x hl hx]
    refine .inr ⟨x, e, Nat.lt_of_lt_of_le hl k.size, fun j t ht => ?_⟩
    obtain ⟨q0, q1, q2, q3⟩ := hc j t ht
    exact ⟨(hcell _).trans q0, (hcell _).trans q1, (hcell _).trans q2, (hcell _).trans q3⟩
/-- The law's loop on m: up to k the places are those of the whole (N), from there on those of b alone. -/
def JR (W : World) (g Na Nb : Nat) (us : List Tok) (i : Value) (wr : World) : Prop :=
  ∃ k : Nat, k ≤ us.length ∧ i = .int .i64 k ∧ Fd g W wr ∧ (∀ o, wr.frozen? ⟨g, o, none⟩ = false) ∧ ∀ j t, us[j]? = some t → wr.cell? ⟨g, j * 4, none⟩ = some (.int .u8 t.kind) ∧ wr.cell? ⟨g, j * 4 + 1, none⟩ = some (sv t.s) ∧ wr.cell? ⟨g, j * 4 + 2, none⟩ = some (.int .i64 t.n) ∧ wr.cell? ⟨g, j * 4 + 3, none⟩ = some (.int .i64 (if j < k then ((Na + 1 + Nb - t.back : Nat) : Int) else ((Nb - t.back : Nat) : Int)))
theorem JR.step {W wr : World} {g Na Nb k : Nat} {us : List Tok} {t : Tok} (ht : us[k]? = some t) (hlt : k < us.length) (hF : Fd g W wr) (hz : ∀ o, wr.frozen? ⟨g, o, none⟩ = false) (hb : t.back ≤ Nb)
    (hc : ∀ j t, us[j]? = some t → wr.cell? ⟨g, j * 4, none⟩ = some (.int .u8 t.kind) ∧ wr.cell? ⟨g, j * 4 + 1, none⟩ = some (sv t.s) ∧ wr.cell? ⟨g, j * 4 + 2, none⟩ = some (.int .i64 t.n) ∧ wr.cell? ⟨g, j * 4 + 3, none⟩ = some (.int .i64 (if j < k then ((Na + 1 + Nb - t.back : Nat) : Int) else ((Nb - t.back : Nat) : Int)))) :
    JR W g Na Nb us (.int .i64 ((k : Int) + 1)) (wr.setCell ⟨g, k * 4 + 3, none⟩ (.int .i64 (((Nb - t.back : Nat) : Int) + ((Na : Int) + 1)))) := by
  refine ⟨k + 1, by omega, by simp, hF.set _ _, fun o => by simpa using hz o, fun j u hu => ?_⟩
  obtain ⟨q0, q1, q2, q3⟩ := hc j u hu
  have hne : ∀ o, o ≠ k * 4 + 3 → (wr.setCell ⟨g, k * 4 + 3, none⟩ (.int .i64 (((Nb - t.back : Nat) : Int) + ((Na : Int) + 1)))).cell? ⟨g, o, none⟩ = wr.cell? ⟨g, o, none⟩ := fun o ho => World.cell?_setCell_other _ _ _ _ (fun e => ho (by injection e with _ e; exact e.symm))
  refine ⟨(hne _ (by omega)).trans q0, (hne _ (by omega)).trans q1, (hne _ (by omega)).trans q2, ?_⟩
  by_cases hj : j = k
  · subst hj
    rw [ht] at hu
    cases hu
    rw [World.cell?_setCell_same _ _ _ q3, if_pos (by omega)]
    congr 2; omega
  · rw [hne _ (by omega), q3]
    by_cases h1 : j < k
    · rw [if_pos h1, if_pos (by omega)]
    · rw [if_neg h1, if_neg (by omega)]
theorem up_cells (Na Nb : Nat) (ts : List Tok) : tc (Na + 1 + Nb) (ts.map (Tok.up (Nb + 1))) = tc Na ts := by
  induction ts with
  | nil => rfl
  | cons t r ih =>
    have e : tcs (Na + 1 + Nb) (t.up (Nb + 1)) = tcs Na t := by
      unfold tcs Tok.up
      dsimp only
      rw [show Na + 1 + Nb - (t.back + (Nb + 1)) = Na - t.back by omega]
    unfold tc at ih ⊢
    rw [List.map_cons, List.flatMap_cons, List.flatMap_cons, ih, e]
theorem tc_len (N : Nat) (ts : List Tok) : (tc N ts).length = ts.length * 4 := by
  induction ts with
  | nil => rfl
  | cons t r ih =>
    have e : tc N (t :: r) = tcs N t ++ tc N r := by simp [tc]
    rw [e, List.length_append, ih]
    show 4 + r.length * 4 = (r.length + 1) * 4
    omega
theorem RowIs.cells {w : World} {g N : Nat} {n : Nat} {ts : List Tok} (h : RowIs w (some ⟨g, 0, none⟩) n N ts) : ∀ j u, (tc N ts)[j]? = some u → w.cell? ((⟨g, 0, none⟩ : Addr).add j) = some u := by
  intro j u hu
  obtain ⟨_, rfl | ⟨g', e, _, hc⟩⟩ := h
  · simp [tc] at hu
  · injection e with e
    injection e with e
    subst e
    rw [add0]
    have hlen : (tc N ts).length = ts.length * 4 := tc_len N ts
    have hj : j < (tc N ts).length := (List.getElem?_eq_some_iff.1 hu).1
    obtain ⟨t, ht⟩ : ∃ t, ts[j / 4]? = some t := ⟨_, List.getElem?_eq_getElem (by omega)⟩
    have hg := tc_get N ts (j / 4) t ht (j % 4) (by omega)
    rw [show j / 4 * 4 + j % 4 = j by omega, hu] at hg
    obtain ⟨q0, q1, q2, q3⟩ := hc _ t ht
    have hm : j % 4 = 0 ∨ j % 4 = 1 ∨ j % 4 = 2 ∨ j % 4 = 3 := by omega
    rcases hm with hm | hm | hm | hm
    · rw [hm] at hg; rw [show j = j / 4 * 4 by omega]; rw [hg]; exact q0
    · rw [hm] at hg; rw [show j = j / 4 * 4 + 1 by omega]; rw [hg]; exact q1
    · rw [hm] at hg; rw [show j = j / 4 * 4 + 2 by omega]; rw [hg]; exact q2
    · rw [hm] at hg; rw [show j = j / 4 * 4 + 3 by omega]; rw [hg]; exact q3
theorem tc_one (N : Nat) (ts : List Tok) : ∀ u ∈ tc N ts, u.oneCell' = true := by
  intro u hu
  unfold tc at hu
  obtain ⟨t, _, ht⟩ := List.mem_flatMap.1 hu
  simp only [tcs, sv, List.mem_cons, List.not_mem_nil, or_false] at ht
  rcases ht with rfl | rfl | rfl | rfl <;> rfl

end Go.Proofs.YtinigblglaolmaaDoor
