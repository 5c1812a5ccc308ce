import Derived.Test.YtijoadkjkbkjgaaDoorR4
namespace Go.Proofs.YtijoadkjkbkjgaaDoor
open Go.RowKit
set_option linter.unusedVariables false
set_option linter.unusedSimpArgs false

theorem bytes_ne {x : ByteArray} (h : ¬ x = ⟨#[]⟩) : (x.toList == []) = false ∧ ¬ x.toList = [] := by
  have h1 : (x.toList == []) = false := by
    have := lit_dec x []
    rw [decide_eq_false h] at this
    exact this
  exact ⟨h1, by simpa using h1⟩
set_option maxRecDepth 100000 in
set_option maxHeartbeats 1000000 in
theorem clause_raw (w : World) (k tn : Int) (ts : ByteArray) (na : Option Addr) (nl nc : Nat) (ka : Option Addr) (kl kc d : Nat) (qv qn : Bool) (hd : d ≤ 61) (hk : k = 17 ∨ k = 18 ∨ k = 19) (hs : ts.size ≤ 9223372036854775807) (hml : kl ≤ 9223372036854775807) (hmn : nl ≤ 9223372036854775807)
    (CV : Hid (d ≤ 60 → kl = 1 → ∀ w', BW w w' → Calls Tryd.prog 25 #[ndv k tn ts na nl nc ka kl kc, .int .i64 0, .int .i64 1, .int .i64 d] w' fun e w'' => e = .returned (.bool qv) ∧ BW w' w''))
    (CN : Hid (∀ w', BW w w' → Calls Tryd.prog 24 #[.slice na nl nc] w' fun e w'' => e = .returned (.bool qn) ∧ BW w' w'')) :
    Calls Tryd.prog 47 #[ndv k tn ts na nl nc ka kl kc, .int .i64 d] w fun e w' => e = .returned (.bool (decide (d ≤ 60) && decide (tn = 0) && decide (kl = 1) && qv && qn && cf k ts nl)) ∧ BW w w' := by
  generalize hR : (decide (d ≤ 60) && decide (tn = 0) && decide (kl = 1) && qv && qn && cf k ts nl) = R
  have HR : Hid ((decide (d ≤ 60) && decide (tn = 0) && decide (kl = 1) && qv && qn && cf k ts nl) = R) := hR
  clear hR
  by_cases h1 : 60 < d
  · have e1 : decide ((60 : Int) < d) = true := by simp; omega
    have h1' : ¬ d ≤ 60 := by omega
    have HE : Hid (R = false) := by show R = _; rw [← HR.out]; simp [h1']
    clear CV CN h1 h1' hk
    go_enter Tryd.func47, Tryd.ntmps47
    go_wp2_with (fail)
    go_ret
    exact ⟨by rw [HE.out]; rfl, (by repeat (first | exact BW.refl _ | assumption | apply BW.alloc | apply BW.drewN | apply BW.drew | (refine BW.setCell ?_ (by first | omega | (simp; done) | (simp; omega)) _) | (refine BW.trans ?_ (by assumption))))⟩
  · have e1 : decide ((60 : Int) < d) = false := by simp; omega
    by_cases h2 : tn = 0
    · subst h2
      by_cases h3 : kl = 1
      · subst h3
        have C1 : Hid _ := CV.out (by omega) rfl
        clear CV
        have hda : Hid (d ≤ 60) := by show d ≤ 60; omega
        go_enter Tryd.func47, Tryd.ntmps47
        go_wp2_with (fail)
        refine (C1.out _ (by repeat (first | exact BW.refl _ | assumption | apply BW.alloc | apply BW.drewN | apply BW.drew | (refine BW.setCell ?_ (by first | omega | (simp; done) | (simp; omega)) _) | (refine BW.trans ?_ (by assumption))))).mono ?_
        rintro e w2 ⟨rfl, b2⟩
        have HB2 : Hid (BW (bx w k 0 ts na nl nc ka 1 kc) w2) := b2
        clear b2 C1
        obtain ⟨⟨g0, g1, g2, g3, g4⟩, hz1, hb⟩ := bx_at HB2.out
        cases qv with
        | false =>
          have HE : Hid (R = false) := by show R = _; rw [← HR.out]; simp
          go_wp2_with (fail)
          go_ret
          exact ⟨by rw [HE.out]; rfl, hb⟩
        | true =>
          go_wp2_with (fail)
          refine (CN.out _ hb).mono ?_
          rintro e w3 ⟨rfl, b3⟩
          have HB3 : Hid (BW (bx w k 0 ts na nl nc ka 1 kc) w3) := BW.trans HB2.out b3
          clear b3 CN g0 g1 g2 g3 g4 hz1 hb HB2
          obtain ⟨⟨g0, g1, g2, g3, g4⟩, hz1, hb⟩ := bx_at HB3.out
          cases qn with
          | false =>
            have HE : Hid (R = false) := by show R = _; rw [← HR.out]; simp
            go_wp2_with (fail)
            go_ret
            exact ⟨by rw [HE.out]; rfl, hb⟩
          | true =>
            have HE : Hid (cf k ts nl = R) := by show _ = R; rw [← HR.out]; simp [hda.out]
            clear HR h1
            rcases hk with rfl | rfl | rfl
            · have hcf : cf 17 ts nl = (decide (ts = ⟨#[]⟩) && decide (nl = 1)) := rfl
              rw [hcf] at HE
              clear hcf
              by_cases ht : ts = ⟨#[]⟩
              · subst ht
                by_cases hn : nl = 1
                · subst hn
                  have HF : Hid (R = true) := by show R = _; rw [← HE.out]; rfl
                  go_wp2_with (fail)
                  go_ret
                  exact ⟨by rw [HF.out]; rfl, hb⟩
                · have e5 : ((nl : Int) == 1) = false := by simp; omega
                  have HF : Hid (R = false) := by show R = _; rw [← HE.out]; simp [hn]
                  go_wp2_with (fail)
                  go_ret
                  exact ⟨by rw [HF.out]; rfl, hb⟩
              · have HF : Hid (R = false) := by show R = _; rw [← HE.out]; simp [ht]
                obtain ⟨et, et2⟩ := bytes_ne ht
                go_wp2_with (fail)
                go_ret
                exact ⟨by rw [HF.out]; rfl, hb⟩
            · have hcf : cf 18 ts nl = (nmB ts && decide (nl = 2)) := rfl
              rw [hcf] at HE
              clear hcf
              have C3 : Hid (∀ w', Calls Tryd.prog 23 #[.string ts] w' fun e w'' => e = .returned (.bool (nmB ts)) ∧ w'' = w') := fun w' => refName_any ts hs w'
              cases hnm : nmB ts with
              | false =>
                have HF : Hid (R = false) := by show R = _; rw [← HE.out, hnm]; rfl
                rw [hnm] at C3
                clear hnm
                go_wp2_with (fail)
                refine (C3.out _).mono ?_
                rintro e w4 ⟨rfl, rfl⟩
                go_wp2_with (fail)
                go_ret
                exact ⟨by rw [HF.out]; rfl, hb⟩
              | true =>
                rw [hnm] at C3
                by_cases hn : nl = 2
                · subst hn
                  have HF : Hid (R = true) := by show R = _; rw [← HE.out, hnm]; rfl
                  clear hnm
                  go_wp2_with (fail)
                  refine (C3.out _).mono ?_
                  rintro e w4 ⟨rfl, rfl⟩
                  go_wp2_with (fail)
                  go_ret
                  exact ⟨by rw [HF.out]; rfl, hb⟩
                · have e5 : ((nl : Int) == 2) = false := by simp; omega
                  have HF : Hid (R = false) := by show R = _; rw [← HE.out]; simp [hn]
                  clear hnm
                  go_wp2_with (fail)
                  refine (C3.out _).mono ?_
                  rintro e w4 ⟨rfl, rfl⟩
                  go_wp2_with (fail)
                  go_ret
                  exact ⟨by rw [HF.out]; rfl, hb⟩
            · have hcf : cf 19 ts nl = (decide (ts = ⟨#[]⟩) && decide (nl = 0)) := rfl
              rw [hcf] at HE
              clear hcf
              by_cases ht : ts = ⟨#[]⟩
              · subst ht
                by_cases hn : nl = 0
                · subst hn
                  have HF : Hid (R = true) := by show R = _; rw [← HE.out]; rfl
                  go_wp2_with (fail)
                  go_ret
                  exact ⟨by rw [HF.out]; rfl, hb⟩
                · have e5 : ((nl : Int) == 0) = false := by simp; omega
                  have HF : Hid (R = false) := by show R = _; rw [← HE.out]; simp [hn]
                  go_wp2_with (fail)
                  go_ret
                  exact ⟨by rw [HF.out]; rfl, hb⟩
              · have HF : Hid (R = false) := by show R = _; rw [← HE.out]; simp [ht]
                obtain ⟨et, et2⟩ := bytes_ne ht
                go_wp2_with (fail)
                go_ret
                exact ⟨by rw [HF.out]; rfl, hb⟩
      · have e3 : ((kl : Int) == 1) = false := by simp; omega
        have e3' : ((kl : Int) != 1) = true := by simp; omega
        have HE : Hid (R = false) := by show R = _; rw [← HR.out]; simp [h3]
        clear CV CN h1 h3 hk
        go_enter Tryd.func47, Tryd.ntmps47
        go_wp2_with (fail)
        go_ret
        exact ⟨by rw [HE.out]; rfl, (by repeat (first | exact BW.refl _ | assumption | apply BW.alloc | apply BW.drewN | apply BW.drew | (refine BW.setCell ?_ (by first | omega | (simp; done) | (simp; omega)) _) | (refine BW.trans ?_ (by assumption))))⟩
    · have e2 : (tn == 0) = false := by simpa using h2
      have e2' : (tn != 0) = true := by simpa using h2
      have HE : Hid (R = false) := by show R = _; rw [← HR.out]; simp [h2]
      clear CV CN h1 hk
      go_enter Tryd.func47, Tryd.ntmps47
      go_wp2_with (fail)
      go_ret
      exact ⟨by rw [HE.out]; rfl, (by repeat (first | exact BW.refl _ | assumption | apply BW.alloc | apply BW.drewN | apply BW.drew | (refine BW.setCell ?_ (by first | omega | (simp; done) | (simp; omega)) _) | (refine BW.trans ?_ (by assumption))))⟩
/-- The reference's clause at a clause. -/
theorem refClause_of {n : Nat} (ih : RefRight n) (v : Value) (t : Tr (n + 1)) (d : Nat) (w : World) (h : NodeAt w (n + 1) v t) (hd : d ≤ 61) (hzt : sz (n + 1) t ≤ 2000000) (hk : knd (n + 1) t = 17 ∨ knd (n + 1) t = 18 ∨ knd (n + 1) t = 19) : Calls Tryd.prog 47 #[v, .int .i64 d] w fun e w' => e = .returned (.bool (decide (dep (n + 1) t + d ≤ 61) && rt (n + 1) t)) ∧ BW w w' := by
  obtain ⟨na, nl, nc, ka, kl, kc, rfl, wf, a1, a2, a3, a4, s1, s2⟩ := h
  have hs := wf.s
  have hk' : Nd.k (K := Tr n) t = 17 ∨ Nd.k (K := Tr n) t = 18 ∨ Nd.k (K := Tr n) t = 19 := hk
  have hl1 : (Nd.ns (K := Tr n) t).length = nl := s1.1
  have hl2 : (Nd.ks (K := Tr n) t).length = kl := s2.1
  unfold maxLen at *
  have := clause_raw w (Nd.k (K := Tr n) t) (Nd.n (K := Tr n) t) (Nd.s (K := Tr n) t) na nl nc ka kl kc d ((Nd.ks (K := Tr n) t).all (kok n d)) ((Nd.ns (K := Tr n) t).all nmB && decide (Nd.ns (K := Tr n) t).Nodup) hd hk' (by omega) (by omega) (by omega)
    (fun h1 h2 w' hb => by
      have := values_of ih t na nl nc ka kl kc 1 d w' (s2.bw hb (fun _ _ hh => NodeAt.bw hb hh)) (by omega) (by unfold maxLen; omega) (by omega) h1 (fun x hx => by have := sz_kid hx; omega) (Nd.k (K := Tr n) t) (Nd.n (K := Tr n) t) (Nd.s (K := Tr n) t)
      rw [List.take_of_length_le (by omega)] at this
      exact this)
    (fun w' hb => names_any na nl nc _ w' (s1.bw hb) (by omega) (by unfold maxLen; omega))
  refine this.mono ?_
  rintro e w' ⟨rfl, hb⟩
  refine ⟨?_, hb⟩
  congr 2
  obtain ⟨k, hkk, hkn⟩ : ∃ k : Nat, (k = 17 ∨ k = 18 ∨ k = 19) ∧ Nd.k (K := Tr n) t = k := by
    rcases hk' with h | h | h
    · exact ⟨17, .inl rfl, h⟩
    · exact ⟨18, .inr (.inl rfl), h⟩
    · exact ⟨19, .inr (.inr rfl), h⟩
  obtain ⟨s, hsp, hsu⟩ := cl_su hkk
  by_cases h60 : d ≤ 60
  · rw [rt_plain hkn hsp (by omega) d h60, hsu, hl1, hl2, hkn]
    simp only [h60, decide_true, Bool.true_and]
    generalize (Nd.ks (K := Tr n) t).all (kok n d) = q
    generalize ((Nd.ns (K := Tr n) t).all nmB && decide (Nd.ns (K := Tr n) t).Nodup) = q2
    cases q <;> cases q2 <;> simp
  · rw [deep_none t d (by omega)]
    simp [h60]

end Go.Proofs.YtijoadkjkbkjgaaDoor
