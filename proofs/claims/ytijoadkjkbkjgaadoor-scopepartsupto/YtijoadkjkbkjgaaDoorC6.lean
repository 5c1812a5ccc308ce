import Derived.Test.YtijoadkjkbkjgaaDoorC5
namespace Go.Proofs.YtijoadkjkbkjgaaDoor
open Go.RowKit
set_option linter.unusedVariables false
set_option linter.unusedSimpArgs false

/-- How deep a node is. -/
def dep : (n : Nat) → Tr n → Nat
  | 0, _ => 0
  | n + 1, t => 1 + ((Nd.ks (K := Tr n) t).map (dep n)).foldr max 0
theorem wi_spec : ∀ (n : Nat) (t : Tr n) (d L : Nat), wi n t d L = if dep n t + d ≤ 61 ∧ sz n t ≤ L then some (L - sz n t) else none := by
  intro n
  induction n with
  | zero => intro t; exact t.elim
  | succ n ih =>
    intro t d L
    have key : ∀ (l : List (Tr n)) (M : Nat), l.foldl (fun o x => o.bind (fun M => wi n x (d + 1) M)) (some M) = if (∀ x ∈ l, dep n x + (d + 1) ≤ 61) ∧ (l.map (sz n)).sum ≤ M then some (M - (l.map (sz n)).sum) else none := by
      intro l
      induction l with
      | nil => intro M; simp
      | cons a r ihr =>
        intro M
        rw [List.foldl_cons]
        show r.foldl _ (wi n a (d + 1) M) = _
        rw [ih a (d + 1) M]
        by_cases h : dep n a + (d + 1) ≤ 61 ∧ sz n a ≤ M
        · rw [if_pos h, ihr]
          by_cases h2 : (∀ x ∈ r, dep n x + (d + 1) ≤ 61) ∧ (r.map (sz n)).sum ≤ M - sz n a
          · rw [if_pos h2, if_pos ⟨fun x hx => by rcases List.mem_cons.1 hx with rfl | hx; exact h.1; exact h2.1 x hx, by simp only [List.map_cons, List.sum_cons]; omega⟩]
            simp only [List.map_cons, List.sum_cons]
            congr 1; omega
          · rw [if_neg h2, if_neg]
            rintro ⟨q1, q2⟩
            simp only [List.map_cons, List.sum_cons] at q2
            exact h2 ⟨fun x hx => q1 x (List.mem_cons_of_mem _ hx), by omega⟩
        · rw [if_neg h, foldl_none (fun x M => wi n x (d + 1) M), if_neg]
          rintro ⟨q1, q2⟩
          simp only [List.map_cons, List.sum_cons] at q2
          exact h ⟨q1 a List.mem_cons_self, by omega⟩
    have hdep : ∀ (l : List (Tr n)) (c : Nat), 1 ≤ c → ((∀ x ∈ l, dep n x + c ≤ 61) ↔ ((l.map (dep n)).foldr max 0 + c ≤ 61 ∨ l = [])) := by
      intro l c hc
      induction l with
      | nil => simp
      | cons a r ihr =>
        simp only [List.mem_cons, forall_eq_or_imp, List.map_cons, List.foldr_cons, ihr, reduceCtorEq, or_false]
        constructor
        · rintro ⟨h1, h2 | h2⟩
          · omega
          · subst h2; simp; omega
        · intro h; exact ⟨by omega, .inl (by omega)⟩
    show (if 60 < d ∨ L = 0 then none else _) = if (1 + _) + d ≤ 61 ∧ (1 + _) ≤ L then some (L - (1 + _)) else none
    by_cases hb : 60 < d ∨ L = 0
    · rw [if_pos hb, if_neg]
      rintro ⟨h1, h2⟩
      omega
    · rw [if_neg hb, key]
      have hd := hdep (Nd.ks (K := Tr n) t) (d + 1) (by omega)
      by_cases h : (∀ x ∈ Nd.ks (K := Tr n) t, dep n x + (d + 1) ≤ 61) ∧ ((Nd.ks (K := Tr n) t).map (sz n)).sum ≤ L - 1
      · rw [if_pos h, if_pos]
        · congr 1; omega
        · refine ⟨?_, by omega⟩
          rcases hd.1 h.1 with h3 | h3
          · omega
          · rw [h3]; simp; omega
      · rw [if_neg h, if_neg]
        rintro ⟨q1, q2⟩
        exact h ⟨hd.2 (.inl (by omega)), by omega⟩
/-- Whether a node may be. -/
def mayB (n : Nat) (t : Tr n) : Bool := (wi n t 1 4000).isSome && vl n t
theorem wi_size {n : Nat} {t : Tr n} (h : (wi n t 1 4000).isSome = true) : sz n t ≤ 4000 ∧ dep n t ≤ 60 := by
  rw [wi_spec] at h
  split at h
  · rename_i h2; omega
  · cases h
theorem mayB_eq (n : Nat) (t : Tr n) : mayB n t = (decide (dep n t ≤ 60) && decide (sz n t ≤ 4000) && vl n t) := by
  unfold mayB
  rw [wi_spec]
  by_cases h : dep n t + 1 ≤ 61 ∧ sz n t ≤ 4000
  · rw [if_pos h, show decide (dep n t ≤ 60) = true by simp; omega, show decide (sz n t ≤ 4000) = true by simp; omega]; rfl
  · rw [if_neg h]
    by_cases h1 : dep n t ≤ 60
    · rw [show decide (sz n t ≤ 4000) = false by simp; omega]; simp
    · rw [show decide (dep n t ≤ 60) = false by simp; omega]; simp
set_option maxRecDepth 100000 in
set_option maxHeartbeats 1000000 in
theorem fits_any (n : Nat) (v : Value) (t : Tr n) (w : World) (h : NodeAt w n v t) : Calls Tryd.prog 18 #[v] w fun e w' => e = .returned (.bool (wi n t 1 4000).isSome) ∧ BW w w' := by
  have HN : Hid (NodeAt w n v t) := h
  cases n with
  | zero => exact h.elim
  | succ n =>
    obtain ⟨na, nl, nc, ka, kl, kc, rfl, _⟩ := h
    go_enter Tryd.func18, Tryd.ntmps18
    go_wp2_with (fail)
    refine (fits1_any (n + 1) _ t 1 4000 w _ (w.heap.size + 1) (w.heap.size + 2) HN.out (by repeat (first | exact BW.refl _ | assumption | apply BW.alloc | apply BW.drewN | apply BW.drew | (refine BW.setCell ?_ (by first | omega | (simp; done) | (simp; omega)) _) | (refine BW.trans ?_ (by assumption)))) (by omega) (by omega) ?_ ?_ (by omega) (by omega)).mono ?_
    · unfold LeftIs
      rw [Lib.alloc_old _ _ _ (by simp)]
      have := heap_alloc_new (w.alloc (.cells #[.int .u8 (Nd.k (K := Tr n) t), .int .i64 (Nd.n (K := Tr n) t), .string (Nd.s (K := Tr n) t), .slice na nl nc, .slice ka kl kc] 25)) (.cells #[.int .i64 4000] 3)
      simpa using this
    · refine ⟨by simp, ?_⟩
      have := cell_new ((w.alloc (.cells #[.int .u8 (Nd.k (K := Tr n) t), .int .i64 (Nd.n (K := Tr n) t), .string (Nd.s (K := Tr n) t), .slice na nl nc, .slice ka kl kc] 25)).alloc (.cells #[.int .i64 4000] 3)) #[.func (.func 29) #[] #[.pointer (some ⟨w.heap.size + 1, 0, none⟩), .pointer (some ⟨w.heap.size + 2, 0, none⟩)]] 26 0
      simpa using this
    · rintro e w1 ⟨rfl, _, hf⟩
      have hb : Hid (BW w w1) := hf.bw (by repeat (first | exact BW.refl _ | assumption | apply BW.alloc | apply BW.drewN | apply BW.drew | (refine BW.setCell ?_ (by first | omega | (simp; done) | (simp; omega)) _) | (refine BW.trans ?_ (by assumption)))) (by omega)
      go_wp2_with (fail)
      go_ret
      exact ⟨rfl, hb.out⟩
set_option maxRecDepth 100000 in
set_option maxHeartbeats 2000000 in
theorem may_any (n : Nat) (v : Value) (t : Tr n) (w : World) (h : NodeAt w n v t) (ht : Tw w) : Calls Tryd.prog 14 #[v] w fun e w' => e = .returned (.bool (mayB n t)) ∧ BW w w' := by
  have HN : Hid (NodeAt w n v t) := h
  cases n with
  | zero => exact h.elim
  | succ n =>
    obtain ⟨na, nl, nc, ka, kl, kc, rfl, _⟩ := h
    have HF : Hid (∀ w', BW w w' → Calls Tryd.prog 18 #[ndv (Nd.k (K := Tr n) t) (Nd.n (K := Tr n) t) (Nd.s (K := Tr n) t) na nl nc ka kl kc] w' fun e w'' => e = .returned (.bool (wi (n + 1) t 1 4000).isSome) ∧ BW w' w'') := fun w' hb => fits_any (n + 1) _ t w' (HN.out.bw hb)
    have HM : Hid (mayB (n + 1) t = ((wi (n + 1) t 1 4000).isSome && vl (n + 1) t)) := rfl
    have HV : Hid ((wi (n + 1) t 1 4000).isSome = true → ∀ b w', BW w w' → ShapesAt w' b → Calls Tryd.prog 20 #[.agg #[.map (some b)], ndv (Nd.k (K := Tr n) t) (Nd.n (K := Tr n) t) (Nd.s (K := Tr n) t) na nl nc ka kl kc] w' fun e w'' => e = .returned (.bool (vl (n + 1) t)) ∧ BW w' w'') := fun hs b w' hb hsh => value_of (right_any (n + 1)) _ t b w' (HN.out.bw hb) (wi_size hs).1 hsh (ht.bw hb)
    generalize mayB (n + 1) t = R at *
    generalize vl (n + 1) t = q at *
    generalize (wi (n + 1) t 1 4000).isSome = f at *
    generalize Nd.k (K := Tr n) t = tk at *
    generalize Nd.n (K := Tr n) t = tn at *
    generalize Nd.s (K := Tr n) t = ts at *
    clear HN ht
    go_enter Tryd.func14, Tryd.ntmps14
    go_wp2_with (fail)
    have hz1 : (w.alloc (.cells #[.int .u8 tk, .int .i64 tn, .string ts, .slice na nl nc, .slice ka kl kc] 25)).heap.size = w.heap.size + 1 := by simp
    obtain ⟨W1, hW1⟩ : ∃ W1, W1 = w.alloc (.cells #[.int .u8 tk, .int .i64 tn, .string ts, .slice na nl nc, .slice ka kl kc] 25) := ⟨_, rfl⟩
    have hbW : BW w W1 := by rw [hW1]; exact BW.alloc (BW.refl w) _
    obtain ⟨⟨g0, g1, g2, g3, g4⟩, gz, _⟩ := bx_at (w' := W1) (by rw [hW1]; exact BW.refl _)
    rw [← hW1]
    clear hW1 hz1
    cases f with
    | false =>
      have HR : Hid (R = false) := by show R = _; rw [HM.out]; rfl
      go_region_with (first | (go_at_call 18; refine (HF.out _ (by repeat (first | exact BW.refl _ | assumption | apply BW.alloc | apply BW.drewN | apply BW.drew | (refine BW.setCell ?_ (by first | omega | (simp; done) | (simp; omega)) _) | (refine BW.trans ?_ (by assumption))))).mono ?_; rintro e w3 ⟨rfl, b3⟩))
      all_goals (
        go_wp2_with (fail)
        go_ret
        exact ⟨by rw [HR.out]; rfl, BW.trans hbW (BW.trans (BW.drew (BW.refl _)) b3)⟩)
    | true =>
      have HR : Hid (R = q) := by show R = _; rw [HM.out]; rfl
      go_region_held3 (fun w' => BW W1 w' ∧ w'.cell? ⟨w.heap.size, 0, none⟩ = some (.int .u8 tk) ∧ w'.cell? ⟨w.heap.size, 1, none⟩ = some (.int .i64 tn) ∧ w'.cell? ⟨w.heap.size, 2, none⟩ = some (.string ts) ∧ w'.cell? ⟨w.heap.size, 3, none⟩ = some (.slice na nl nc) ∧ w'.cell? ⟨w.heap.size, 4, none⟩ = some (.slice ka kl kc)) ((refine ⟨(by repeat (first | exact BW.refl _ | assumption | apply BW.alloc | apply BW.drewN | apply BW.drew | (refine BW.setCell ?_ (by first | omega | (simp; done) | (simp; omega)) _) | (refine BW.trans ?_ (by assumption)))), ?_⟩; go_keep)) (first | (go_at_call 18; refine (HF.out _ (by repeat (first | exact BW.refl _ | assumption | apply BW.alloc | apply BW.drewN | apply BW.drew | (refine BW.setCell ?_ (by first | omega | (simp; done) | (simp; omega)) _) | (refine BW.trans ?_ (by assumption))))).mono ?_; rintro e w3 ⟨rfl, b3⟩; have z1 := fun o => b3.cells w.heap.size o (by simp; omega)) | (go_at_call 19; refine (shapes_any _).mono ?_; rintro e w4 ⟨rfl, hsh, b4⟩; have z2 := fun o => b4.cells w.heap.size o (by have := b3.size; simp at this; simp; omega)) | (go_at_call 20; refine (HV.out (by first | rfl | trivial) _ _ (by repeat (first | exact BW.refl _ | assumption | apply BW.alloc | apply BW.drewN | apply BW.drew | (refine BW.setCell ?_ (by first | omega | (simp; done) | (simp; omega)) _) | (refine BW.trans ?_ (by assumption)))) hsh).mono ?_; rintro e w5 ⟨rfl, b5⟩; have z3 := fun o => b5.cells w.heap.size o (by have := b3.size; have := b4.size; simp at *; omega)))
      have HB : Hid (BW w w5) := BW.trans hbW (BW.trans (BW.drew (BW.refl _)) (BW.trans b3 (BW.trans b4 b5)))
      clear z1 z2 z3 b3 b4 b5 hsh
      go_wp2_with (fail)
      go_ret
      exact ⟨by rw [HR.out]; rfl, HB.out⟩

end Go.Proofs.YtijoadkjkbkjgaaDoor
