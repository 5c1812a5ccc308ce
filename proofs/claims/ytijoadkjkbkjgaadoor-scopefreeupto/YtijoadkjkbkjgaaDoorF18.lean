import Derived.Test.YtijoadkjkbkjgaaDoorF16
import Derived.Test.YtijoadkjkbkjgaaDoorF17
namespace Go.Proofs.YtijoadkjkbkjgaaDoor
open Go.RowKit
set_option linter.unusedVariables false
set_option linter.unusedSimpArgs false

theorem findS : ∀ n, FindS n := by
  intro n
  induction n with
  | zero => intro val bv fv t B F w h; exact h.elim
  | succ n ih =>
    intro val bv fv t B F w hN ht hBv hFv hBs hm hfl
    obtain ⟨k, hk, fk⟩ := rt_fk ht
    obtain ⟨_, hr⟩ := rt_kids ht
    obtain ⟨_, k2⟩ := kids_k ht
    obtain ⟨na, nl, nc, ka, kl, kc, rfl, wf, a1, a2, a3, a4, s1, s2⟩ := hN
    obtain ⟨bao, bcp, rfl, b1, b2, b3⟩ := hBv
    obtain ⟨fao, fcp, rfl, c1, c2, c3⟩ := hFv
    rcases t with ⟨tk, tn, ts, tns, tks⟩
    simp only at hk fk hr k2 wf s1 s2 ⊢
    have hs := wf.s
    have hm' : B.length + (1 + tns.length + (tks.map (bz n)).sum) ≤ 5000000 := hm
    have hfl' : F.length + (1 + tns.length + (tks.map (bz n)).sum) ≤ 5000000 := hfl
    subst hk
    by_cases h5 : k = 5
    · subst h5
      exact find_5 tn ts tns tks na nl nc ka kl kc bao bcp fao fcp B F w hs s1 a1 s2 a3 a4 b1 b2 b3 c1 c2 c3 hm' hfl'
    by_cases h6 : k = 6
    · subst h6
      exact find_6 ih tn ts tns tks na nl nc ka kl kc bao bcp fao fcp B F w hs s1 a1 s2 a3 a4 b1 b2 b3 c1 c2 c3 hm' hfl' hBs hr
    by_cases h8 : k = 8
    · subst h8
      obtain ⟨x, y, rfl⟩ : ∃ x y, tks = [x, y] := by
        match tks, k2 rfl with
        | [x, y], _ => exact ⟨x, y, rfl⟩
      exact find_8 ih x y tn ts tns [x, y] na nl nc ka kl kc bao bcp fao fcp B F w hs s1 a1 s2 a3 a4 b1 b2 b3 c1 c2 c3 hm' hfl' hBs rfl hr
    have e : fr (n + 1) (⟨(k : Int), tn, ts, tns, tks⟩ : Nd (Tr n)) B F = tks.foldl (fun F x => fr n x (B ++ tns) F) F := by
      show (if (k : Int) = 5 then _ else if (k : Int) = 8 then _ else tks.foldl (fun F x => fr n x (B ++ tns ++ (if (k : Int) = 6 then [ts] else [])) F) F) = _
      rw [if_neg (by omega), if_neg (by omega), if_neg (by omega), List.append_nil]
    rw [e]
    exact find_d ih (k : Int) (by omega) (by omega) (by omega) tn ts tns tks na nl nc ka kl kc bao bcp fao fcp B F w hs s1 a1 s2 a3 a4 b1 b2 b3 c1 c2 c3 hm' hfl' hBs hr
set_option maxRecDepth 100000 in
set_option maxHeartbeats 4000000 in
theorem refFree_any (n : Nat) (val : Value) (t : Tr n) (w : World) (h : NodeAt w n val t) (ht : rt n t = true) (hz : bz n t ≤ 1000000) : Calls Tryd.prog 12 #[val] w fun e w' => ∃ v, e = .returned v ∧ StrsV w' v (fr n t [] []) ∧ BW w w' := by
  have HN : Hid (NodeAt w n val t) := h
  cases n with
  | zero => exact h.elim
  | succ n =>
    obtain ⟨na, nl, nc, ka, kl, kc, rfl, _⟩ := h
    have CF : Hid (∀ w' a b, BW w w' → a < w'.heap.size → b < w'.heap.size → Calls Tryd.prog 17 #[ndv (Nd.k (K := Tr n) t) (Nd.n (K := Tr n) t) (Nd.s (K := Tr n) t) na nl nc ka kl kc, .slice (some ⟨a, 0, none⟩) 0 0, .slice (some ⟨b, 0, none⟩) 0 0] w' fun e w'' => ∃ v, e = .returned v ∧ StrsV w'' v (fr (n + 1) t [] []) ∧ BW w' w'') := fun w' a b hw _ _ => findS (n + 1) _ _ _ t [] [] w' (HN.out.bw hw) ht ⟨_, 0, rfl, ⟨rfl, Nat.zero_le _, by simp, .inl rfl⟩, Nat.le_refl _, Nat.zero_le _⟩ ⟨_, 0, rfl, ⟨rfl, Nat.zero_le _, by simp, .inl rfl⟩, Nat.le_refl _, Nat.zero_le _⟩ (by simp) (by simp; omega) (by simp; omega)
    go_enter Tryd.func12, Tryd.ntmps12
    go_wp2_with (fail)
    refine (CF.out _ _ _ (BW.alloc (BW.alloc (BW.alloc (BW.refl w) _) _) _) (by simp; try omega) (by simp; try omega)).mono ?_
    rintro e w2 ⟨v, rfl, hv, b2⟩
    obtain ⟨ao, ln, cp, hve⟩ := hv.form
    subst hve
    have HV : Hid (StrsV w2 (.slice ao ln cp) (fr (n + 1) t [] [])) := hv
    have HB : Hid (BW w w2) := BW.trans (BW.alloc (BW.alloc (BW.alloc (BW.refl w) _) _) _) b2
    clear hv b2 CF
    go_wp2_with (fail)
    go_ret
    exact ⟨_, rfl, HV.out, HB.out⟩

end Go.Proofs.YtijoadkjkbkjgaaDoor
