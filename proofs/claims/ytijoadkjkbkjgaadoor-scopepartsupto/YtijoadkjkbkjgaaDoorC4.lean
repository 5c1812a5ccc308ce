import Derived.Test.YtijoadkjkbkjgaaDoorC3
import Derived.Laws.EntriesVeiled
namespace Go.Proofs.YtijoadkjkbkjgaaDoor
open Go.RowKit
set_option linter.unusedVariables false
set_option linter.unusedSimpArgs false

theorem shp_isT : ∀ (k : Nat) (s : Shp), shp k = some s → isT s.f
  | 0, s, h => by first | (cases h; done) | (cases h; simp [isT])
  | 1, s, h => by first | (cases h; done) | (cases h; simp [isT])
  | 2, s, h => by first | (cases h; done) | (cases h; simp [isT])
  | 3, s, h => by first | (cases h; done) | (cases h; simp [isT])
  | 4, s, h => by first | (cases h; done) | (cases h; simp [isT])
  | 5, s, h => by first | (cases h; done) | (cases h; simp [isT])
  | 6, s, h => by first | (cases h; done) | (cases h; simp [isT])
  | 7, s, h => by first | (cases h; done) | (cases h; simp [isT])
  | 8, s, h => by first | (cases h; done) | (cases h; simp [isT])
  | 9, s, h => by first | (cases h; done) | (cases h; simp [isT])
  | 10, s, h => by first | (cases h; done) | (cases h; simp [isT])
  | 11, s, h => by first | (cases h; done) | (cases h; simp [isT])
  | 12, s, h => by first | (cases h; done) | (cases h; simp [isT])
  | 13, s, h => by first | (cases h; done) | (cases h; simp [isT])
  | 14, s, h => by first | (cases h; done) | (cases h; simp [isT])
  | 15, s, h => by first | (cases h; done) | (cases h; simp [isT])
  | 16, s, h => by first | (cases h; done) | (cases h; simp [isT])
  | 17, s, h => by first | (cases h; done) | (cases h; simp [isT])
  | 18, s, h => by first | (cases h; done) | (cases h; simp [isT])
  | 19, s, h => by first | (cases h; done) | (cases h; simp [isT])
  | n + 20, s, h => by cases h
theorem sz_kid {n : Nat} {t : Tr (n + 1)} {x : Tr n} (h : x ∈ Nd.ks (K := Tr n) t) : sz n x < sz (n + 1) t := by
  have : ∀ (l : List (Tr n)), x ∈ l → sz n x ≤ (l.map (sz n)).sum := by
    intro l
    induction l with
    | nil => intro h; cases h
    | cons a r ih =>
      intro h
      simp only [List.map_cons, List.sum_cons]
      rcases List.mem_cons.1 h with rfl | h
      · omega
      · have := ih h; omega
  have := this _ h
  show _ < 1 + _
  omega
theorem sz_pos : ∀ {n : Nat} (t : Tr n), 1 ≤ sz n t
  | 0, t => t.elim
  | n + 1, t => by show 1 ≤ 1 + _; omega
theorem ks_sz {n : Nat} (t : Tr (n + 1)) : (Nd.ks (K := Tr n) t).length < sz (n + 1) t := by
  have : ∀ (l : List (Tr n)), l.length ≤ (l.map (sz n)).sum := by
    intro l
    induction l with
    | nil => simp
    | cons a r ih => have := sz_pos a; simp only [List.map_cons, List.sum_cons, List.length_cons]; omega
  have := this (Nd.ks (K := Tr n) t)
  show _ < 1 + _
  omega
theorem SeqAt.drop1 {K : Type} {At : Value → K → Prop} {W : World} {b off kl : Nat} {l : List K} (h : SeqAt At W (some ⟨b, off, none⟩) kl l) (h1 : 1 ≤ kl) : SeqAt At W (some ⟨b, off + 5, none⟩) (kl - 1) (l.drop 1) := by
  obtain ⟨h1', h2, h4⟩ := h
  refine ⟨by simp [h1'], by omega, ?_⟩
  rcases h4 with h4 | ⟨b', off', e, hb, hc⟩
  · omega
  · cases e
    refine .inr ⟨b, off + 5, rfl, hb, fun i x hx => ?_⟩
    rw [List.getElem?_drop] at hx
    obtain ⟨r, hr, ha⟩ := hc (1 + i) x hx
    rw [show off + (1 + i) * 5 = off + 5 + i * 5 by omega] at hr
    exact ⟨r, hr, ha⟩
theorem SeqAt.take1 {K : Type} {At : Value → K → Prop} {W : World} {b off kl : Nat} {l : List K} (h : SeqAt At W (some ⟨b, off, none⟩) kl l) (h1 : 1 ≤ kl) : SeqAt At W (some ⟨b, off, none⟩) 1 (l.take 1) := by
  obtain ⟨h1', h2, h4⟩ := h
  refine ⟨by simp [h1']; omega, by omega, ?_⟩
  rcases h4 with h4 | ⟨b', off', e, hb, hc⟩
  · omega
  · cases e
    refine .inr ⟨b, off, rfl, hb, fun i x hx => ?_⟩
    have := (List.getElem?_eq_some_iff.1 hx).1
    simp at this
    obtain rfl : i = 0 := by omega
    refine hc 0 x ?_
    rw [List.getElem?_take] at hx
    simpa using hx
set_option maxRecDepth 100000 in
set_option maxHeartbeats 3000000 in
theorem right_any : ∀ n, RightAt n := by
  intro n
  induction n with
  | zero => intro v t b w h; exact h.elim
  | succ n ih =>
    intro v t b w h hsz hsh htw
    have VA : Hid (ValueAt n) := value_of ih
    have CA : Hid _ := fun ka kl kc l b w => clauses_of ih ka kl kc l b w
    have HZ : Hid (∀ x ∈ Nd.ks (K := Tr n) t, sz n x ≤ 4000) := fun x hx => by have := sz_kid hx; omega
    have HL4 : Hid ((Nd.ks (K := Tr n) t).length < 4000) := by have := ks_sz t; show _ < _; omega
    have HSH : Hid (ShapesAt w b) := hsh
    have HTW : Hid (Tw w) := htw
    obtain ⟨na, nl, nc, ka, kl, kc, rfl, wf, a1, a2, a3, a4, s1, s2⟩ := h
    have hml : kl ≤ 9223372036854775807 := by unfold maxLen at a4; omega
    have hms : (Nd.s (K := Tr n) t).size ≤ 9223372036854775807 := by have := wf.s; unfold maxLen at this; omega
    have S1 : Hid (StrsAt w na nl (Nd.ns (K := Tr n) t)) := s1
    have S2 : Hid (SeqAt (NodeAt w n) w ka kl (Nd.ks (K := Tr n) t)) := s2
    have L2 : Hid ((Nd.ks (K := Tr n) t).length = kl) := s2.1
    have HRT : Hid (rt (n + 1) t = match shp (Nd.k (K := Tr n) t).toNat with
      | none => false
      | some s => su s (Nd.k (K := Tr n) t) (Nd.n (K := Tr n) t) (Nd.s (K := Tr n) t) (Nd.ns (K := Tr n) t) (Nd.ks (K := Tr n) t).length && (if (Nd.k (K := Tr n) t) = 13 then clsG (knd n) (ttx n) (rt n) 0 [] ((Nd.ks (K := Tr n) t).drop 1) && ((Nd.ks (K := Tr n) t).take 1).all (fun x => !isCl (knd n x) && rt n x) else (Nd.ks (K := Tr n) t).all (fun x => !isCl (knd n x) && rt n x))) := rfl
    have hk0 := wf.k0
    have hk1 := wf.k1
    generalize rt (n + 1) t = R at *
    generalize Nd.k (K := Tr n) t = kk at *
    obtain ⟨kn, rfl⟩ := Int.eq_ofNat_of_zero_le hk0
    generalize Nd.n (K := Tr n) t = tn at *
    generalize Nd.s (K := Tr n) t = ts at *
    rw [Int.toNat_natCast] at HRT
    have hlook := look_ok (HSH.out.bw (BW.alloc (BW.alloc (BW.refl w) (.cells #[.map (some b)] 41)) (.cells #[.int .u8 kn, .int .i64 tn, .string ts, .slice na nl nc, .slice ka kl kc] 25))) kn (by omega)
    clear ih s1 s2 wf a2 a4 hsh htw hsz
    cases hsp : shp kn with
    | none =>
      rw [hsp] at hlook
      have HR : Hid (R = false) := by show R = _; rw [HRT.out, hsp]
      have hlook2 : (Instr.lookup 38 (.map (some b)) (.int .u8 kn) true).run Tryd.prog ((w.alloc (.cells #[.map (some b)] 41)).alloc (.cells #[.int .u8 kn, .int .i64 tn, .string ts, .slice na nl nc, .slice ka kl kc] 25)) = .ok (.tuple #[.agg #[.string ⟨#[]⟩, .int .i64 0, .int .i64 0, .int .i64 0, .int .i64 0, .int .i64 0, .int .i64 0, .nilFunc], .bool false]) ((w.alloc (.cells #[.map (some b)] 41)).alloc (.cells #[.int .u8 kn, .int .i64 tn, .string ts, .slice na nl nc, .slice ka kl kc] 25)) := hlook
      clear hlook
      clear hsp HRT
      go_enter Tryd.func38, Tryd.ntmps38
      go_wp2_with (fail)
      go_ret
      exact ⟨by rw [HR.out]; rfl, (by repeat (first | exact BW.refl _ | assumption | apply BW.alloc | apply BW.drewN | apply BW.drew | (refine BW.setCell ?_ (by first | omega | (simp; done) | (simp; omega)) _) | (refine BW.trans ?_ (by assumption))))⟩
    | some s =>
      rw [hsp] at hlook
      have hT := shp_isT kn s hsp
      have HSU : Hid (∀ w', BW w w' → Calls Tryd.prog 49 #[s.v, ndv kn tn ts na nl nc ka kl kc] w' fun e w'' => e = .returned (.bool (su s kn tn ts (Nd.ns (K := Tr n) t) kl)) ∧ BW w' w'') := fun w' hb => suits_any s hT kn tn ts na nl nc ka kl kc _ w' hms (S1.out.bw hb) a1 hml (HTW.out.bw hb)
      have HR1 : Hid (R = (su s kn tn ts (Nd.ns (K := Tr n) t) kl && (if (kn : Int) = 13 then clsG (knd n) (ttx n) (rt n) 0 [] ((Nd.ks (K := Tr n) t).drop 1) && ((Nd.ks (K := Tr n) t).take 1).all (fun x => !isCl (knd n x) && rt n x) else (Nd.ks (K := Tr n) t).all (fun x => !isCl (knd n x) && rt n x)))) := by
        show R = _
        rw [HRT.out, hsp, L2.out]
      have hlook2 : (Instr.lookup 38 (.map (some b)) (.int .u8 kn) true).run Tryd.prog ((w.alloc (.cells #[.map (some b)] 41)).alloc (.cells #[.int .u8 kn, .int .i64 tn, .string ts, .slice na nl nc, .slice ka kl kc] 25)) = .ok (.tuple #[.agg #[.string s.head, .int .i64 s.n0, .int .i64 s.n1, .int .i64 s.a0, .int .i64 s.a1, .int .i64 s.p0, .int .i64 s.p1, .func (.func s.f) #[] #[]], .bool true]) ((w.alloc (.cells #[.map (some b)] 41)).alloc (.cells #[.int .u8 kn, .int .i64 tn, .string ts, .slice na nl nc, .slice ka kl kc] 25)) := hlook
      clear hlook
      have HP : Hid (kn = 13 → su s kn tn ts (Nd.ns (K := Tr n) t) kl = true → 1 ≤ kl) := fun e h => by
        subst e
        cases hsp
        simp only [su, Bool.and_eq_true, decide_eq_true_eq] at h
        have := h.1.1.1.2.1
        omega
      clear HRT hsp hT
      generalize su s kn tn ts (Nd.ns (K := Tr n) t) kl = q at *
      cases q with
      | false =>
        have HR : Hid (R = false) := by show R = _; rw [HR1.out]; rfl
        go_enter Tryd.func38, Tryd.ntmps38
        go_wp2_with (go_at_call 49; refine (HSU.out _ (by repeat (first | exact BW.refl _ | assumption | apply BW.alloc | apply BW.drewN | apply BW.drew | (refine BW.setCell ?_ (by first | omega | (simp; done) | (simp; omega)) _) | (refine BW.trans ?_ (by assumption))))).mono ?_; rintro e w1 ⟨rfl, b1⟩)
        go_ret
        exact ⟨by rw [HR.out]; rfl, (by repeat (first | exact BW.refl _ | assumption | apply BW.alloc | apply BW.drewN | apply BW.drew | (refine BW.setCell ?_ (by first | omega | (simp; done) | (simp; omega)) _) | (refine BW.trans ?_ (by assumption))))⟩
      | true =>
        by_cases h13 : kn = 13
        · have hk1l : 1 ≤ kl := HP.out h13 rfl
          have e13 : ((kn : Int) == 13) = true := by simp; omega
          have HR2 : Hid (R = (clsG (knd n) (ttx n) (rt n) 0 [] ((Nd.ks (K := Tr n) t).drop 1) && ((Nd.ks (K := Tr n) t).take 1).all (fun x => !isCl (knd n x) && rt n x))) := by
            show R = _
            rw [HR1.out, if_pos (by omega)]; rfl
          clear h13 HP
          obtain ⟨bq, oq, x0, rfl, hbq, _, _⟩ := SeqAt.get S2.out (show 0 < kl by omega)
          have S3 : Hid (SeqAt (NodeAt w n) w (some ⟨bq, oq, none⟩) 1 ((Nd.ks (K := Tr n) t).take 1)) := S2.out.take1 hk1l
          have HCL : Hid (∀ w', BW w w' → ∀ ao' kc', SeqAt (NodeAt w n) w ao' (kl - 1) ((Nd.ks (K := Tr n) t).drop 1) → kl - 1 ≤ kc' → Calls Tryd.prog 50 #[.agg #[.map (some b)], .slice ao' (kl - 1) kc'] w' fun e w'' => e = .returned (.bool (clsG (knd n) (ttx n) (rt n) 0 [] ((Nd.ks (K := Tr n) t).drop 1))) ∧ BW w' w'') := fun w' hb ao' kc' hq hkc =>
            CA.out _ _ kc' _ b w' (hq.bw hb (fun _ _ h => NodeAt.bw hb h)) hkc (by have := HL4.out; rw [L2.out] at this; omega) (fun x hx => HZ.out x (List.mem_of_mem_drop hx)) (HSH.out.bw hb) (HTW.out.bw hb)
          have HD : Hid (SeqAt (NodeAt w n) w (some ⟨bq, oq + 5, none⟩) (kl - 1) ((Nd.ks (K := Tr n) t).drop 1)) := S2.out.drop1 hk1l
          have HD0 : Hid (kl = 1 → ∀ ao', SeqAt (NodeAt w n) w ao' 0 ((Nd.ks (K := Tr n) t).drop 1)) := fun e ao' => ⟨by rw [List.length_drop, L2.out]; omega, Nat.zero_le _, .inl rfl⟩
          generalize clsG (knd n) (ttx n) (rt n) 0 [] ((Nd.ks (K := Tr n) t).drop 1) = cl at *
          by_cases hc1 : kc = 1
          · obtain rfl : kl = 1 := by omega
            subst hc1
            go_enter Tryd.func38, Tryd.ntmps38
            go_wp2_with (go_at_call 49; refine (HSU.out _ (by repeat (first | exact BW.refl _ | assumption | apply BW.alloc | apply BW.drewN | apply BW.drew | (refine BW.setCell ?_ (by first | omega | (simp; done) | (simp; omega)) _) | (refine BW.trans ?_ (by assumption))))).mono ?_; rintro e w1 ⟨rfl, b1⟩; obtain ⟨e9, ⟨e0, e1, e2, e3, e4⟩, ez, eb⟩ := cx_at (BW.trans (BW.alloc (BW.refl _) _) b1))
            have HB2 : Hid (BW (bx (cx w b) kn tn ts na nl nc (some ⟨bq, oq, none⟩) 1 1) w1) := BW.trans (BW.alloc (BW.refl _) _) b1
            clear b1
            go_region_held3 (fun w' => BW w1 w' ∧ w'.cell? ⟨w.heap.size, 0, none⟩ = some (.map (some b)) ∧ w'.cell? ⟨w.heap.size + 1, 4, none⟩ = some (.slice (some ⟨bq, oq, none⟩) 1 1)) ((refine ⟨(by repeat (first | exact BW.refl _ | assumption | apply BW.alloc | apply BW.drewN | apply BW.drew | (refine BW.setCell ?_ (by first | omega | (simp; done) | (simp; omega)) _) | (refine BW.trans ?_ (by assumption)))), ?_⟩; go_keep)) (first | (go_at_call 50; refine (HCL.out _ (by repeat (first | exact BW.refl _ | assumption | apply BW.alloc | apply BW.drewN | apply BW.drew | (refine BW.setCell ?_ (by first | omega | (simp; done) | (simp; omega)) _) | (refine BW.trans ?_ (by assumption)))) _ _ (HD0.out (by first | rfl | trivial) _) (by omega)).mono ?_; rintro e w3 ⟨rfl, b3⟩; have z1 := fun o => b3.cells (w.heap.size + 1) o (by simp; omega); have z2 := fun o => b3.cells w.heap.size o (by simp; omega)))
            have HB3 : Hid (BW (bx (cx w b) kn tn ts na nl nc (some ⟨bq, oq, none⟩) 1 1) w3) := BW.trans HB2.out (BW.trans (BW.drew (BW.refl _)) b3)
            clear z1 z2 e9 e0 e1 e2 e3 e4 ez eb
            obtain ⟨e9, ⟨e0, e1, e2, e3, e4⟩, ez, eb⟩ := cx_at HB3.out
            cases cl with
            | false =>
              have HR : Hid (R = false) := by show R = _; rw [HR2.out]; rfl
              go_wp2_with (fail)
              go_ret
              exact ⟨by rw [HR.out]; rfl, eb⟩
            | true =>
              have HR3 : Hid (R = ((Nd.ks (K := Tr n) t).take 1).all (fun x => !isCl (knd n x) && rt n x)) := by show R = _; rw [HR2.out]; rfl
              clear e9 e0 e1 e2 e3 e4 ez eb
              obtain ⟨e9, ⟨e0, e1, e2, e3, e4⟩, ez, eb⟩ := cx_at HB3.out
              go_wp2_with (fail)
              go_loopw [42] (fun i w' => ∃ j : Nat, j ≤ 1 ∧ Hid ((((Nd.ks (K := Tr n) t).take 1).take j).all (fun x => !isCl (knd n x) && rt n x) = true) ∧ i = .int .i64 j ∧ BW (bx (cx w b) kn tn ts na nl nc (some ⟨bq, oq, none⟩) 1 1) w') (fun i _ => 1 - (intOf i).toNat)
              case atStart => exact ⟨0, Nat.zero_le _, by simp [Hid], rfl, (by repeat (first | exact BW.refl _ | assumption | apply BW.alloc | apply BW.drewN | apply BW.drew | (refine BW.setCell ?_ (by first | omega | (simp; done) | (simp; omega)) _) | (refine BW.trans ?_ (by assumption))))⟩
              case round =>
                clear e9 e0 e1 e2 e3 e4 ez eb
                obtain ⟨j, hj, HA, rfl, hb1⟩ := hrel
                obtain ⟨e9, ⟨e0, e1, e2, e3, e4⟩, ez, hb⟩ := cx_at hb1
                by_cases hlt : j < 1
                · obtain ⟨bk, off2, x, hao, hbl, hx, r, hr, hax⟩ := SeqAt.get S3.out hlt
                  cases hao
                  have HX : Hid (NodeAt w n r.v x) := hax
                  have HXX : Hid _ := hx
                  have HM : Hid (x ∈ Nd.ks (K := Tr n) t) := List.mem_of_mem_take (List.mem_of_getElem? hx)
                  obtain ⟨d0, d1, d2, d3, d4⟩ := hr.bw hb hbl
                  have hz := hb.size
                  have n0 : ¬ w.heap.size = wr.heap.size := by omega
                  have n0' : ¬ wr.heap.size = w.heap.size := by omega
                  have e9' := fun ob => (BW.cells (BW.alloc (BW.refl wr) ob) w.heap.size 0 (by omega)).trans e9
                  clear hax hx hr
                  go_wp2_with (fail)
                  refine (VA.out _ x b _ (HX.out.bw (by repeat (first | exact BW.refl _ | assumption | apply BW.alloc | apply BW.drewN | apply BW.drew | (refine BW.setCell ?_ (by first | omega | (simp; done) | (simp; omega)) _) | (refine BW.trans ?_ (by assumption))))) (HZ.out x HM.out) (HSH.out.bw (by repeat (first | exact BW.refl _ | assumption | apply BW.alloc | apply BW.drewN | apply BW.drew | (refine BW.setCell ?_ (by first | omega | (simp; done) | (simp; omega)) _) | (refine BW.trans ?_ (by assumption))))) (HTW.out.bw (by repeat (first | exact BW.refl _ | assumption | apply BW.alloc | apply BW.drewN | apply BW.drew | (refine BW.setCell ?_ (by first | omega | (simp; done) | (simp; omega)) _) | (refine BW.trans ?_ (by assumption)))))).mono ?_
                  rintro e w5 ⟨rfl, b5⟩
                  have hb5 : Hid (BW _ w5) := BW.trans hb1 (BW.trans (BW.alloc (BW.refl _) _) b5)
                  cases hvx : vl n x with
                  | true =>
                    have HQ : Hid ((((Nd.ks (K := Tr n) t).take 1).take (j + 1)).all (fun x => !isCl (knd n x) && rt n x) = true) := by show _ = true; rw [all_snoc (fun x => !isCl (knd n x) && rt n x) HXX.out, HA.out]; exact hvx
                    clear hvx
                    go_wp2_with (fail)
                    go_roundw
                    case rel => exact ⟨j + 1, by omega, HQ, by go_num, hb5.out⟩
                    case measure => simp [intOf]; omega
                  | false =>
                    have HR : Hid (R = false) := by show R = _; rw [HR3.out, all_miss (fun x => !isCl (knd n x) && rt n x) HXX.out hvx]
                    clear hvx
                    go_wp2_with (fail)
                    go_ret
                    exact ⟨by rw [HR.out]; rfl, (cx_at hb5.out).2.2.2⟩
                · have hjn : 1 = j := by omega
                  have HR : Hid (R = true) := by
                    show R = _
                    have := HA.out
                    rw [List.take_of_length_le (by simp; omega)] at this
                    rw [HR3.out, this]
                  go_wp2_with (fail)
                  go_ret
                  exact ⟨by rw [HR.out]; rfl, hb⟩
          · have hkli : (1 : Int) ≤ kl := by omega
            go_enter Tryd.func38, Tryd.ntmps38
            go_wp2_with (go_at_call 49; refine (HSU.out _ (by repeat (first | exact BW.refl _ | assumption | apply BW.alloc | apply BW.drewN | apply BW.drew | (refine BW.setCell ?_ (by first | omega | (simp; done) | (simp; omega)) _) | (refine BW.trans ?_ (by assumption))))).mono ?_; rintro e w1 ⟨rfl, b1⟩; obtain ⟨e9, ⟨e0, e1, e2, e3, e4⟩, ez, eb⟩ := cx_at (BW.trans (BW.alloc (BW.refl _) _) b1))
            have HB2 : Hid (BW (bx (cx w b) kn tn ts na nl nc (some ⟨bq, oq, none⟩) kl kc) w1) := BW.trans (BW.alloc (BW.refl _) _) b1
            clear b1
            go_region_held3 (fun w' => BW w1 w' ∧ w'.cell? ⟨w.heap.size, 0, none⟩ = some (.map (some b)) ∧ w'.cell? ⟨w.heap.size + 1, 4, none⟩ = some (.slice (some ⟨bq, oq, none⟩) kl kc)) ((refine ⟨(by repeat (first | exact BW.refl _ | assumption | apply BW.alloc | apply BW.drewN | apply BW.drew | (refine BW.setCell ?_ (by first | omega | (simp; done) | (simp; omega)) _) | (refine BW.trans ?_ (by assumption)))), ?_⟩; go_keep)) (first | (go_at_call 50; refine (HCL.out _ (by repeat (first | exact BW.refl _ | assumption | apply BW.alloc | apply BW.drewN | apply BW.drew | (refine BW.setCell ?_ (by first | omega | (simp; done) | (simp; omega)) _) | (refine BW.trans ?_ (by assumption)))) _ _ HD.out (by omega)).mono ?_; rintro e w3 ⟨rfl, b3⟩; have z1 := fun o => b3.cells (w.heap.size + 1) o (by simp; omega); have z2 := fun o => b3.cells w.heap.size o (by simp; omega)))
            have HB3 : Hid (BW (bx (cx w b) kn tn ts na nl nc (some ⟨bq, oq, none⟩) kl kc) w3) := BW.trans HB2.out (BW.trans (BW.drew (BW.refl _)) b3)
            clear z1 z2 e9 e0 e1 e2 e3 e4 ez eb
            obtain ⟨e9, ⟨e0, e1, e2, e3, e4⟩, ez, eb⟩ := cx_at HB3.out
            cases cl with
            | false =>
              have HR : Hid (R = false) := by show R = _; rw [HR2.out]; rfl
              go_wp2_with (fail)
              go_ret
              exact ⟨by rw [HR.out]; rfl, eb⟩
            | true =>
              have HR3 : Hid (R = ((Nd.ks (K := Tr n) t).take 1).all (fun x => !isCl (knd n x) && rt n x)) := by show R = _; rw [HR2.out]; rfl
              clear e9 e0 e1 e2 e3 e4 ez eb
              obtain ⟨e9, ⟨e0, e1, e2, e3, e4⟩, ez, eb⟩ := cx_at HB3.out
              go_wp2_with (fail)
              go_loopw [42] (fun i w' => ∃ j : Nat, j ≤ 1 ∧ Hid ((((Nd.ks (K := Tr n) t).take 1).take j).all (fun x => !isCl (knd n x) && rt n x) = true) ∧ i = .int .i64 j ∧ BW (bx (cx w b) kn tn ts na nl nc (some ⟨bq, oq, none⟩) kl kc) w') (fun i _ => 1 - (intOf i).toNat)
              case atStart => exact ⟨0, Nat.zero_le _, by simp [Hid], rfl, (by repeat (first | exact BW.refl _ | assumption | apply BW.alloc | apply BW.drewN | apply BW.drew | (refine BW.setCell ?_ (by first | omega | (simp; done) | (simp; omega)) _) | (refine BW.trans ?_ (by assumption))))⟩
              case round =>
                clear e9 e0 e1 e2 e3 e4 ez eb
                obtain ⟨j, hj, HA, rfl, hb1⟩ := hrel
                obtain ⟨e9, ⟨e0, e1, e2, e3, e4⟩, ez, hb⟩ := cx_at hb1
                by_cases hlt : j < 1
                · obtain ⟨bk, off2, x, hao, hbl, hx, r, hr, hax⟩ := SeqAt.get S3.out hlt
                  cases hao
                  have HX : Hid (NodeAt w n r.v x) := hax
                  have HXX : Hid _ := hx
                  have HM : Hid (x ∈ Nd.ks (K := Tr n) t) := List.mem_of_mem_take (List.mem_of_getElem? hx)
                  obtain ⟨d0, d1, d2, d3, d4⟩ := hr.bw hb hbl
                  have hz := hb.size
                  have n0 : ¬ w.heap.size = wr.heap.size := by omega
                  have n0' : ¬ wr.heap.size = w.heap.size := by omega
                  have e9' := fun ob => (BW.cells (BW.alloc (BW.refl wr) ob) w.heap.size 0 (by omega)).trans e9
                  clear hax hx hr
                  go_wp2_with (fail)
                  refine (VA.out _ x b _ (HX.out.bw (by repeat (first | exact BW.refl _ | assumption | apply BW.alloc | apply BW.drewN | apply BW.drew | (refine BW.setCell ?_ (by first | omega | (simp; done) | (simp; omega)) _) | (refine BW.trans ?_ (by assumption))))) (HZ.out x HM.out) (HSH.out.bw (by repeat (first | exact BW.refl _ | assumption | apply BW.alloc | apply BW.drewN | apply BW.drew | (refine BW.setCell ?_ (by first | omega | (simp; done) | (simp; omega)) _) | (refine BW.trans ?_ (by assumption))))) (HTW.out.bw (by repeat (first | exact BW.refl _ | assumption | apply BW.alloc | apply BW.drewN | apply BW.drew | (refine BW.setCell ?_ (by first | omega | (simp; done) | (simp; omega)) _) | (refine BW.trans ?_ (by assumption)))))).mono ?_
                  rintro e w5 ⟨rfl, b5⟩
                  have hb5 : Hid (BW _ w5) := BW.trans hb1 (BW.trans (BW.alloc (BW.refl _) _) b5)
                  cases hvx : vl n x with
                  | true =>
                    have HQ : Hid ((((Nd.ks (K := Tr n) t).take 1).take (j + 1)).all (fun x => !isCl (knd n x) && rt n x) = true) := by show _ = true; rw [all_snoc (fun x => !isCl (knd n x) && rt n x) HXX.out, HA.out]; exact hvx
                    clear hvx
                    go_wp2_with (fail)
                    go_roundw
                    case rel => exact ⟨j + 1, by omega, HQ, by go_num, hb5.out⟩
                    case measure => simp [intOf]; omega
                  | false =>
                    have HR : Hid (R = false) := by show R = _; rw [HR3.out, all_miss (fun x => !isCl (knd n x) && rt n x) HXX.out hvx]
                    clear hvx
                    go_wp2_with (fail)
                    go_ret
                    exact ⟨by rw [HR.out]; rfl, (cx_at hb5.out).2.2.2⟩
                · have hjn : 1 = j := by omega
                  have HR : Hid (R = true) := by
                    show R = _
                    have := HA.out
                    rw [List.take_of_length_le (by simp; omega)] at this
                    rw [HR3.out, this]
                  go_wp2_with (fail)
                  go_ret
                  exact ⟨by rw [HR.out]; rfl, hb⟩
        · have e13 : ((kn : Int) == 13) = false := by simp; omega
          have HR2 : Hid (R = (Nd.ks (K := Tr n) t).all (fun x => !isCl (knd n x) && rt n x)) := by
            show R = _
            rw [HR1.out, if_neg (by omega)]; rfl
          go_enter Tryd.func38, Tryd.ntmps38
          go_wp2_with (go_at_call 49; refine (HSU.out _ (by repeat (first | exact BW.refl _ | assumption | apply BW.alloc | apply BW.drewN | apply BW.drew | (refine BW.setCell ?_ (by first | omega | (simp; done) | (simp; omega)) _) | (refine BW.trans ?_ (by assumption))))).mono ?_; rintro e w1 ⟨rfl, b1⟩; obtain ⟨e9, ⟨e0, e1, e2, e3, e4⟩, ez, eb⟩ := cx_at (BW.trans (BW.alloc (BW.refl _) _) b1))
          have HB3 : Hid (BW (bx (cx w b) kn tn ts na nl nc ka kl kc) w1) := BW.trans (BW.alloc (BW.refl _) _) b1
          clear e9 e0 e1 e2 e3 e4 ez eb
          obtain ⟨e9, ⟨e0, e1, e2, e3, e4⟩, ez, eb⟩ := cx_at HB3.out
          go_wp2_with (fail)
          go_loopw [42] (fun i w' => ∃ j : Nat, j ≤ kl ∧ Hid (((Nd.ks (K := Tr n) t).take j).all (fun x => !isCl (knd n x) && rt n x) = true) ∧ i = .int .i64 j ∧ BW (bx (cx w b) kn tn ts na nl nc ka kl kc) w') (fun i _ => kl - (intOf i).toNat)
          case atStart => exact ⟨0, Nat.zero_le _, by simp [Hid], rfl, (by repeat (first | exact BW.refl _ | assumption | apply BW.alloc | apply BW.drewN | apply BW.drew | (refine BW.setCell ?_ (by first | omega | (simp; done) | (simp; omega)) _) | (refine BW.trans ?_ (by assumption))))⟩
          case round =>
            clear e9 e0 e1 e2 e3 e4 ez eb
            obtain ⟨j, hj, HA, rfl, hb1⟩ := hrel
            obtain ⟨e9, ⟨e0, e1, e2, e3, e4⟩, ez, hb⟩ := cx_at hb1
            by_cases hlt : j < kl
            · obtain ⟨bk, off2, x, hao, hbl, hx, r, hr, hax⟩ := SeqAt.get S2.out hlt
              cases hao
              have HX : Hid (NodeAt w n r.v x) := hax
              have HXX : Hid _ := hx
              have HM : Hid (x ∈ Nd.ks (K := Tr n) t) := List.mem_of_getElem? hx
              obtain ⟨d0, d1, d2, d3, d4⟩ := hr.bw hb hbl
              have hz := hb.size
              have n0 : ¬ w.heap.size = wr.heap.size := by omega
              have n0' : ¬ wr.heap.size = w.heap.size := by omega
              have e9' := fun ob => (BW.cells (BW.alloc (BW.refl wr) ob) w.heap.size 0 (by omega)).trans e9
              clear hax hx hr
              go_wp2_with (fail)
              refine (VA.out _ x b _ (HX.out.bw (by repeat (first | exact BW.refl _ | assumption | apply BW.alloc | apply BW.drewN | apply BW.drew | (refine BW.setCell ?_ (by first | omega | (simp; done) | (simp; omega)) _) | (refine BW.trans ?_ (by assumption))))) (HZ.out x HM.out) (HSH.out.bw (by repeat (first | exact BW.refl _ | assumption | apply BW.alloc | apply BW.drewN | apply BW.drew | (refine BW.setCell ?_ (by first | omega | (simp; done) | (simp; omega)) _) | (refine BW.trans ?_ (by assumption))))) (HTW.out.bw (by repeat (first | exact BW.refl _ | assumption | apply BW.alloc | apply BW.drewN | apply BW.drew | (refine BW.setCell ?_ (by first | omega | (simp; done) | (simp; omega)) _) | (refine BW.trans ?_ (by assumption)))))).mono ?_
              rintro e w5 ⟨rfl, b5⟩
              have hb5 : Hid (BW _ w5) := BW.trans hb1 (BW.trans (BW.alloc (BW.refl _) _) b5)
              cases hvx : vl n x with
              | true =>
                have HQ : Hid (((Nd.ks (K := Tr n) t).take (j + 1)).all (fun x => !isCl (knd n x) && rt n x) = true) := by show _ = true; rw [all_snoc (fun x => !isCl (knd n x) && rt n x) HXX.out, HA.out]; exact hvx
                clear hvx
                go_wp2_with (fail)
                go_roundw
                case rel => exact ⟨j + 1, by omega, HQ, by go_num, hb5.out⟩
                case measure => simp [intOf]; omega
              | false =>
                have HR : Hid (R = false) := by show R = _; rw [HR2.out, all_miss (fun x => !isCl (knd n x) && rt n x) HXX.out hvx]
                clear hvx
                go_wp2_with (fail)
                go_ret
                exact ⟨by rw [HR.out]; rfl, (cx_at hb5.out).2.2.2⟩
            · have hjn : kl = j := by omega
              have HR : Hid (R = true) := by
                show R = _
                have := HA.out
                rw [List.take_of_length_le (by rw [L2.out]; omega)] at this
                rw [HR2.out, this]
              go_wp2_with (fail)
              go_ret
              exact ⟨by rw [HR.out]; rfl, hb⟩

end Go.Proofs.YtijoadkjkbkjgaaDoor
