import Derived.Test.YtijoadkjkbkjgaaDoorF21
import Derived.Test.YtijoadkjkbkjgaaDoorF13
import Derived.Deep.DeepCutAuto
namespace Go.Proofs.YtijoadkjkbkjgaaDoor
open Go.RowKit
set_option linter.unusedVariables false
set_option linter.unusedSimpArgs false

theorem xs1_l : xs1.toList = [120] := by decide +kernel
theorem fre_len {n : Nat} {t : Tr n} (h : mayB n t = true) (k : n200 n t = true) : (fre n t).length ≤ 1000000 := by
  unfold fre
  rw [h, if_pos rfl]
  have h1 := fr_len n t [] []
  have h2 := may_bz h k
  have e : ([] : List ByteArray).length = 0 := rfl
  omega
set_option maxRecDepth 100000 in
set_option maxHeartbeats 4000000 in
theorem scopeParts_any (f : Nat) (v0 v1 : Value) (t u : Tr f) (p : ByteArray) (w : World) (h0 : NodeAt w f v0 t) (h1 : NodeAt w f v1 u) (hz : sz f t + sz f u ≤ 1048576) (hp : p.size ≤ maxLen) (hT : Tw w) : Calls Tryd.prog 5 #[v0, v1, .string p] w fun e w' => e = .returned (.bool true) ∧ BW w w' := by
  have HN : Hid (NodeAt w f v0 t) := h0
  have HU : Hid (NodeAt w f v1 u) := h1
  cases f with
  | zero => exact h0.elim
  | succ n =>
    obtain ⟨na, nl, nc, ka, kl, kc, rfl, _⟩ := h0
    obtain ⟨ma, ml, mc, qa, ql, qc, rfl, _⟩ := h1
    have HT : Hid (Tw w) := hT
    have HP : Hid (p.size ≤ maxLen) := hp
    have HA : Hid (∀ w', BW w w' → Calls Tryd.prog 8 #[] w' fun e w'' => e = .returned (.bool true) ∧ BW w' w'') := fun w' hw => awake_any w' (hT.bw hw)
    have CG : Hid (∀ w', BW w w' → PX w w' t u na nl nc ka kl kc ma ml mc qa ql qc p → Calls Tryd.prog 7 #[ndv 10 0 ⟨#[]⟩ none 0 0 (some ⟨w.heap.size + 1 + 1, 0, none⟩) 2 2, .int .i64 0] w' fun e w'' => e = .returned (.bool (gr (n + 2) (doT2 t u) 0)) ∧ BW w' w'') := fun w' hw hx => by
      have := great_any (n + 2) _ (doT2 t u) 0 w' (by decide) (hx.nd HN.out HU.out)
      simpa using this
    have CM : Hid (∀ w', BW w w' → PX w w' t u na nl nc ka kl kc ma ml mc qa ql qc p → Calls Tryd.prog 11 #[ndv 10 0 ⟨#[]⟩ none 0 0 (some ⟨w.heap.size + 1 + 1, 0, none⟩) 2 2] w' fun e w'' => e = .returned (.bool (mayB (n + 2) (doT2 t u))) ∧ BW w' w'') := fun w' hw hx => refMay_any (n + 2) _ _ w' (hx.nd HN.out HU.out) (by rw [doT2_sz]; omega)
    have CN : Hid (∀ w', BW w w' → PX w w' t u na nl nc ka kl kc ma ml mc qa ql qc p → Calls Tryd.prog 11 #[ndv 6 0 ⟨#[120]⟩ (some ⟨w.heap.size + 1 + 1 + 1 + 1, 0, none⟩) 1 1 (some ⟨w.heap.size + 1 + 1 + 1 + 1 + 1, 0, none⟩) 1 1] w' fun e w'' => e = .returned (.bool (mayB (n + 2) (funT p t))) ∧ BW w' w'') := fun w' hw hx => refMay_any (n + 2) _ _ w' (hx.nf HP.out HN.out) (by rw [funT_sz]; omega)
    clear hT hz hp
    cases hg0 : gr (n + 2) (doT2 t u) 0 with
    | true =>
      rw [hg0] at CG
      clear hg0 CM CN
      go_enter Tryd.func5, Tryd.ntmps5
      have P0 : Hid (PX w (((((((w.alloc (.cells #[.int .u8 (Nd.k (K := Tr n) t), .int .i64 (Nd.n (K := Tr n) t), .string (Nd.s (K := Tr n) t), .slice na nl nc, .slice ka kl kc] 25)).alloc (.cells #[.int .u8 (Nd.k (K := Tr n) u), .int .i64 (Nd.n (K := Tr n) u), .string (Nd.s (K := Tr n) u), .slice ma ml mc, .slice qa ql qc] 25)).alloc (.cells #[.int .u8 (Nd.k (K := Tr n) t), .int .i64 (Nd.n (K := Tr n) t), .string (Nd.s (K := Tr n) t), .slice na nl nc, .slice ka kl kc, .int .u8 (Nd.k (K := Tr n) u), .int .i64 (Nd.n (K := Tr n) u), .string (Nd.s (K := Tr n) u), .slice ma ml mc, .slice qa ql qc] 25)).alloc (.cells #[.int .u8 10, .int .i64 0, .string ⟨#[]⟩, .slice none 0 0, .slice (some ⟨w.heap.size + 1 + 1, 0, none⟩) 2 2] 25)).alloc (.cells #[.string p] 9)).alloc (.cells #[.int .u8 (Nd.k (K := Tr n) t), .int .i64 (Nd.n (K := Tr n) t), .string (Nd.s (K := Tr n) t), .slice na nl nc, .slice ka kl kc] 25)).alloc (.cells #[.int .u8 6, .int .i64 0, .string ⟨#[120]⟩, .slice (some ⟨w.heap.size + 1 + 1 + 1 + 1, 0, none⟩) 1 1, .slice (some ⟨w.heap.size + 1 + 1 + 1 + 1 + 1, 0, none⟩) 1 1] 25)) t u na nl nc ka kl kc ma ml mc qa ql qc p) := PX.new w t u na nl nc ka kl kc ma ml mc qa ql qc p
      obtain ⟨⟨a0, a1, a2, a3, a4⟩, ⟨b0, b1, b2, b3, b4⟩, _, _⟩ := (Bx2.new w t u na nl nc ka kl kc ma ml mc qa ql qc).cells
      go_wp2_with (fail)
      refine (CG.out _ (P0.out.bw) P0.out).mono ?_
      rintro e w1 ⟨rfl, bw1⟩
      have P1 : Hid (PX w w1 t u na nl nc ka kl kc ma ml mc qa ql qc p) := P0.out.on bw1
      clear a0 a1 a2 a3 a4 b0 b1 b2 b3 b4
      have d0 := PX.d0 P1.out
      have d1 := PX.d1 P1.out
      have d2 := PX.d2 P1.out
      have d3 := PX.d3 P1.out
      have d4 := PX.d4 P1.out
      have f0 := PX.f0 P1.out
      have f1 := PX.f1 P1.out
      have f2 := PX.f2 P1.out
      have f3 := PX.f3 P1.out
      have f4 := PX.f4 P1.out
      have t0 := PX.t0 P1.out
      have t1 := PX.t1 P1.out
      have t2 := PX.t2 P1.out
      have t3 := PX.t3 P1.out
      have t4 := PX.t4 P1.out
      have u0 := PX.u0 P1.out
      have u1 := PX.u1 P1.out
      have u2 := PX.u2 P1.out
      have u3 := PX.u3 P1.out
      have u4 := PX.u4 P1.out
      have zz := PX.lt P1.out
      have gb := PX.bw P1.out
      go_wp2_with (first | (go_at_call 8; refine (HA.out _ gb).mono ?_; rintro e wz ⟨rfl, bz⟩))
      go_ret
      exact ⟨rfl, BW.trans gb bz⟩
    | false =>
      rw [hg0] at CG
      have n0 := gr_n200 _ _ _ hg0
      clear hg0
      by_cases hps : 100 < p.size
      · have e1 : decide ((100 : Int) < (p.size : Int)) = true := decide_eq_true (by omega)
        clear CM CN
        go_enter Tryd.func5, Tryd.ntmps5
        have P0 : Hid (PX w (((((((w.alloc (.cells #[.int .u8 (Nd.k (K := Tr n) t), .int .i64 (Nd.n (K := Tr n) t), .string (Nd.s (K := Tr n) t), .slice na nl nc, .slice ka kl kc] 25)).alloc (.cells #[.int .u8 (Nd.k (K := Tr n) u), .int .i64 (Nd.n (K := Tr n) u), .string (Nd.s (K := Tr n) u), .slice ma ml mc, .slice qa ql qc] 25)).alloc (.cells #[.int .u8 (Nd.k (K := Tr n) t), .int .i64 (Nd.n (K := Tr n) t), .string (Nd.s (K := Tr n) t), .slice na nl nc, .slice ka kl kc, .int .u8 (Nd.k (K := Tr n) u), .int .i64 (Nd.n (K := Tr n) u), .string (Nd.s (K := Tr n) u), .slice ma ml mc, .slice qa ql qc] 25)).alloc (.cells #[.int .u8 10, .int .i64 0, .string ⟨#[]⟩, .slice none 0 0, .slice (some ⟨w.heap.size + 1 + 1, 0, none⟩) 2 2] 25)).alloc (.cells #[.string p] 9)).alloc (.cells #[.int .u8 (Nd.k (K := Tr n) t), .int .i64 (Nd.n (K := Tr n) t), .string (Nd.s (K := Tr n) t), .slice na nl nc, .slice ka kl kc] 25)).alloc (.cells #[.int .u8 6, .int .i64 0, .string ⟨#[120]⟩, .slice (some ⟨w.heap.size + 1 + 1 + 1 + 1, 0, none⟩) 1 1, .slice (some ⟨w.heap.size + 1 + 1 + 1 + 1 + 1, 0, none⟩) 1 1] 25)) t u na nl nc ka kl kc ma ml mc qa ql qc p) := PX.new w t u na nl nc ka kl kc ma ml mc qa ql qc p
        obtain ⟨⟨a0, a1, a2, a3, a4⟩, ⟨b0, b1, b2, b3, b4⟩, _, _⟩ := (Bx2.new w t u na nl nc ka kl kc ma ml mc qa ql qc).cells
        go_wp2_with (fail)
        refine (CG.out _ (P0.out.bw) P0.out).mono ?_
        rintro e w1 ⟨rfl, bw1⟩
        have P1 : Hid (PX w w1 t u na nl nc ka kl kc ma ml mc qa ql qc p) := P0.out.on bw1
        clear a0 a1 a2 a3 a4 b0 b1 b2 b3 b4
        have d0 := PX.d0 P1.out
        have d1 := PX.d1 P1.out
        have d2 := PX.d2 P1.out
        have d3 := PX.d3 P1.out
        have d4 := PX.d4 P1.out
        have f0 := PX.f0 P1.out
        have f1 := PX.f1 P1.out
        have f2 := PX.f2 P1.out
        have f3 := PX.f3 P1.out
        have f4 := PX.f4 P1.out
        have t0 := PX.t0 P1.out
        have t1 := PX.t1 P1.out
        have t2 := PX.t2 P1.out
        have t3 := PX.t3 P1.out
        have t4 := PX.t4 P1.out
        have u0 := PX.u0 P1.out
        have u1 := PX.u1 P1.out
        have u2 := PX.u2 P1.out
        have u3 := PX.u3 P1.out
        have u4 := PX.u4 P1.out
        have zz := PX.lt P1.out
        have gb := PX.bw P1.out
        go_wp2_with (first | (go_at_call 8; refine (HA.out _ gb).mono ?_; rintro e wz ⟨rfl, bz⟩))
        go_ret
        exact ⟨rfl, BW.trans gb bz⟩
      · have e1 : decide ((100 : Int) < (p.size : Int)) = false := decide_eq_false (by omega)
        cases hm0 : mayB (n + 2) (doT2 t u) with
        | false =>
          rw [hm0] at CM
          clear hm0 CN
          go_enter Tryd.func5, Tryd.ntmps5
          have P0 : Hid (PX w (((((((w.alloc (.cells #[.int .u8 (Nd.k (K := Tr n) t), .int .i64 (Nd.n (K := Tr n) t), .string (Nd.s (K := Tr n) t), .slice na nl nc, .slice ka kl kc] 25)).alloc (.cells #[.int .u8 (Nd.k (K := Tr n) u), .int .i64 (Nd.n (K := Tr n) u), .string (Nd.s (K := Tr n) u), .slice ma ml mc, .slice qa ql qc] 25)).alloc (.cells #[.int .u8 (Nd.k (K := Tr n) t), .int .i64 (Nd.n (K := Tr n) t), .string (Nd.s (K := Tr n) t), .slice na nl nc, .slice ka kl kc, .int .u8 (Nd.k (K := Tr n) u), .int .i64 (Nd.n (K := Tr n) u), .string (Nd.s (K := Tr n) u), .slice ma ml mc, .slice qa ql qc] 25)).alloc (.cells #[.int .u8 10, .int .i64 0, .string ⟨#[]⟩, .slice none 0 0, .slice (some ⟨w.heap.size + 1 + 1, 0, none⟩) 2 2] 25)).alloc (.cells #[.string p] 9)).alloc (.cells #[.int .u8 (Nd.k (K := Tr n) t), .int .i64 (Nd.n (K := Tr n) t), .string (Nd.s (K := Tr n) t), .slice na nl nc, .slice ka kl kc] 25)).alloc (.cells #[.int .u8 6, .int .i64 0, .string ⟨#[120]⟩, .slice (some ⟨w.heap.size + 1 + 1 + 1 + 1, 0, none⟩) 1 1, .slice (some ⟨w.heap.size + 1 + 1 + 1 + 1 + 1, 0, none⟩) 1 1] 25)) t u na nl nc ka kl kc ma ml mc qa ql qc p) := PX.new w t u na nl nc ka kl kc ma ml mc qa ql qc p
          obtain ⟨⟨a0, a1, a2, a3, a4⟩, ⟨b0, b1, b2, b3, b4⟩, _, _⟩ := (Bx2.new w t u na nl nc ka kl kc ma ml mc qa ql qc).cells
          go_wp2_with (fail)
          refine (CG.out _ (P0.out.bw) P0.out).mono ?_
          rintro e w1 ⟨rfl, bw1⟩
          have P1 : Hid (PX w w1 t u na nl nc ka kl kc ma ml mc qa ql qc p) := P0.out.on bw1
          clear a0 a1 a2 a3 a4 b0 b1 b2 b3 b4
          have d0 := PX.d0 P1.out
          have d1 := PX.d1 P1.out
          have d2 := PX.d2 P1.out
          have d3 := PX.d3 P1.out
          have d4 := PX.d4 P1.out
          have f0 := PX.f0 P1.out
          have f1 := PX.f1 P1.out
          have f2 := PX.f2 P1.out
          have f3 := PX.f3 P1.out
          have f4 := PX.f4 P1.out
          have t0 := PX.t0 P1.out
          have t1 := PX.t1 P1.out
          have t2 := PX.t2 P1.out
          have t3 := PX.t3 P1.out
          have t4 := PX.t4 P1.out
          have u0 := PX.u0 P1.out
          have u1 := PX.u1 P1.out
          have u2 := PX.u2 P1.out
          have u3 := PX.u3 P1.out
          have u4 := PX.u4 P1.out
          have zz := PX.lt P1.out
          have gb := PX.bw P1.out
          go_wp2_with (fail)
          refine (CM.out _ gb P1.out).mono ?_
          rintro e w2 ⟨rfl, bw2⟩
          have P2 : Hid (PX w w2 t u na nl nc ka kl kc ma ml mc qa ql qc p) := P1.out.on bw2
          clear d0 d1 d2 d3 d4 f0 f1 f2 f3 f4 t0 t1 t2 t3 t4 u0 u1 u2 u3 u4 zz gb
          have d0 := PX.d0 P2.out
          have d1 := PX.d1 P2.out
          have d2 := PX.d2 P2.out
          have d3 := PX.d3 P2.out
          have d4 := PX.d4 P2.out
          have f0 := PX.f0 P2.out
          have f1 := PX.f1 P2.out
          have f2 := PX.f2 P2.out
          have f3 := PX.f3 P2.out
          have f4 := PX.f4 P2.out
          have t0 := PX.t0 P2.out
          have t1 := PX.t1 P2.out
          have t2 := PX.t2 P2.out
          have t3 := PX.t3 P2.out
          have t4 := PX.t4 P2.out
          have u0 := PX.u0 P2.out
          have u1 := PX.u1 P2.out
          have u2 := PX.u2 P2.out
          have u3 := PX.u3 P2.out
          have u4 := PX.u4 P2.out
          have zz := PX.lt P2.out
          have gb := PX.bw P2.out
          go_wp2_with (first | (go_at_call 8; refine (HA.out _ gb).mono ?_; rintro e wz ⟨rfl, bz⟩))
          go_ret
          exact ⟨rfl, BW.trans gb bz⟩
        | true =>
          rw [hm0] at CM
          cases hm1 : mayB (n + 2) (funT p t) with
          | false =>
            rw [hm1] at CN
            clear hm0 hm1
            go_enter Tryd.func5, Tryd.ntmps5
            have P0 : Hid (PX w (((((((w.alloc (.cells #[.int .u8 (Nd.k (K := Tr n) t), .int .i64 (Nd.n (K := Tr n) t), .string (Nd.s (K := Tr n) t), .slice na nl nc, .slice ka kl kc] 25)).alloc (.cells #[.int .u8 (Nd.k (K := Tr n) u), .int .i64 (Nd.n (K := Tr n) u), .string (Nd.s (K := Tr n) u), .slice ma ml mc, .slice qa ql qc] 25)).alloc (.cells #[.int .u8 (Nd.k (K := Tr n) t), .int .i64 (Nd.n (K := Tr n) t), .string (Nd.s (K := Tr n) t), .slice na nl nc, .slice ka kl kc, .int .u8 (Nd.k (K := Tr n) u), .int .i64 (Nd.n (K := Tr n) u), .string (Nd.s (K := Tr n) u), .slice ma ml mc, .slice qa ql qc] 25)).alloc (.cells #[.int .u8 10, .int .i64 0, .string ⟨#[]⟩, .slice none 0 0, .slice (some ⟨w.heap.size + 1 + 1, 0, none⟩) 2 2] 25)).alloc (.cells #[.string p] 9)).alloc (.cells #[.int .u8 (Nd.k (K := Tr n) t), .int .i64 (Nd.n (K := Tr n) t), .string (Nd.s (K := Tr n) t), .slice na nl nc, .slice ka kl kc] 25)).alloc (.cells #[.int .u8 6, .int .i64 0, .string ⟨#[120]⟩, .slice (some ⟨w.heap.size + 1 + 1 + 1 + 1, 0, none⟩) 1 1, .slice (some ⟨w.heap.size + 1 + 1 + 1 + 1 + 1, 0, none⟩) 1 1] 25)) t u na nl nc ka kl kc ma ml mc qa ql qc p) := PX.new w t u na nl nc ka kl kc ma ml mc qa ql qc p
            obtain ⟨⟨a0, a1, a2, a3, a4⟩, ⟨b0, b1, b2, b3, b4⟩, _, _⟩ := (Bx2.new w t u na nl nc ka kl kc ma ml mc qa ql qc).cells
            go_wp2_with (fail)
            refine (CG.out _ (P0.out.bw) P0.out).mono ?_
            rintro e w1 ⟨rfl, bw1⟩
            have P1 : Hid (PX w w1 t u na nl nc ka kl kc ma ml mc qa ql qc p) := P0.out.on bw1
            clear a0 a1 a2 a3 a4 b0 b1 b2 b3 b4
            have d0 := PX.d0 P1.out
            have d1 := PX.d1 P1.out
            have d2 := PX.d2 P1.out
            have d3 := PX.d3 P1.out
            have d4 := PX.d4 P1.out
            have f0 := PX.f0 P1.out
            have f1 := PX.f1 P1.out
            have f2 := PX.f2 P1.out
            have f3 := PX.f3 P1.out
            have f4 := PX.f4 P1.out
            have t0 := PX.t0 P1.out
            have t1 := PX.t1 P1.out
            have t2 := PX.t2 P1.out
            have t3 := PX.t3 P1.out
            have t4 := PX.t4 P1.out
            have u0 := PX.u0 P1.out
            have u1 := PX.u1 P1.out
            have u2 := PX.u2 P1.out
            have u3 := PX.u3 P1.out
            have u4 := PX.u4 P1.out
            have zz := PX.lt P1.out
            have gb := PX.bw P1.out
            go_wp2_with (fail)
            refine (CM.out _ gb P1.out).mono ?_
            rintro e w2 ⟨rfl, bw2⟩
            have P2 : Hid (PX w w2 t u na nl nc ka kl kc ma ml mc qa ql qc p) := P1.out.on bw2
            clear d0 d1 d2 d3 d4 f0 f1 f2 f3 f4 t0 t1 t2 t3 t4 u0 u1 u2 u3 u4 zz gb
            have d0 := PX.d0 P2.out
            have d1 := PX.d1 P2.out
            have d2 := PX.d2 P2.out
            have d3 := PX.d3 P2.out
            have d4 := PX.d4 P2.out
            have f0 := PX.f0 P2.out
            have f1 := PX.f1 P2.out
            have f2 := PX.f2 P2.out
            have f3 := PX.f3 P2.out
            have f4 := PX.f4 P2.out
            have t0 := PX.t0 P2.out
            have t1 := PX.t1 P2.out
            have t2 := PX.t2 P2.out
            have t3 := PX.t3 P2.out
            have t4 := PX.t4 P2.out
            have u0 := PX.u0 P2.out
            have u1 := PX.u1 P2.out
            have u2 := PX.u2 P2.out
            have u3 := PX.u3 P2.out
            have u4 := PX.u4 P2.out
            have zz := PX.lt P2.out
            have gb := PX.bw P2.out
            go_wp2_with (fail)
            refine (CN.out _ gb P2.out).mono ?_
            rintro e w3 ⟨rfl, bw3⟩
            have P3 : Hid (PX w w3 t u na nl nc ka kl kc ma ml mc qa ql qc p) := P2.out.on bw3
            clear d0 d1 d2 d3 d4 f0 f1 f2 f3 f4 t0 t1 t2 t3 t4 u0 u1 u2 u3 u4 zz gb
            have d0 := PX.d0 P3.out
            have d1 := PX.d1 P3.out
            have d2 := PX.d2 P3.out
            have d3 := PX.d3 P3.out
            have d4 := PX.d4 P3.out
            have f0 := PX.f0 P3.out
            have f1 := PX.f1 P3.out
            have f2 := PX.f2 P3.out
            have f3 := PX.f3 P3.out
            have f4 := PX.f4 P3.out
            have t0 := PX.t0 P3.out
            have t1 := PX.t1 P3.out
            have t2 := PX.t2 P3.out
            have t3 := PX.t3 P3.out
            have t4 := PX.t4 P3.out
            have u0 := PX.u0 P3.out
            have u1 := PX.u1 P3.out
            have u2 := PX.u2 P3.out
            have u3 := PX.u3 P3.out
            have u4 := PX.u4 P3.out
            have zz := PX.lt P3.out
            have gb := PX.bw P3.out
            go_wp2_with (first | (go_at_call 8; refine (HA.out _ gb).mono ?_; rintro e wz ⟨rfl, bz⟩))
            go_ret
            exact ⟨rfl, BW.trans gb bz⟩
          | true =>
            rw [hm1] at CN
            obtain ⟨k1, k2, kd⟩ := doT2_fre hm0
            have kf := funT_fre hm1 k1
            obtain ⟨n1, n2⟩ := doT2_n200 n0
            have CL : Hid (∀ w', BW w w' → Calls Tryd.prog 9 #[ndv (Nd.k (K := Tr n) t) (Nd.n (K := Tr n) t) (Nd.s (K := Tr n) t) na nl nc ka kl kc] w' fun e w'' => ∃ v, e = .returned v ∧ StrsV w'' v (fre (n + 1) t) ∧ BW w' w'') := fun w' hw => Free_any (n + 1) _ t w' (HN.out.bw hw) n1 (HT.out.bw hw)
            have CR : Hid (∀ w', BW w w' → Calls Tryd.prog 9 #[ndv (Nd.k (K := Tr n) u) (Nd.n (K := Tr n) u) (Nd.s (K := Tr n) u) ma ml mc qa ql qc] w' fun e w'' => ∃ v, e = .returned v ∧ StrsV w'' v (fre (n + 1) u) ∧ BW w' w'') := fun w' hw => Free_any (n + 1) _ u w' (HU.out.bw hw) n2 (HT.out.bw hw)
            have CD : Hid (∀ w', BW w w' → PX w w' t u na nl nc ka kl kc ma ml mc qa ql qc p → Calls Tryd.prog 9 #[ndv 10 0 ⟨#[]⟩ none 0 0 (some ⟨w.heap.size + 1 + 1, 0, none⟩) 2 2] w' fun e w'' => ∃ v, e = .returned v ∧ StrsV w'' v (uni (fre (n + 1) u) (fre (n + 1) t)) ∧ BW w' w'') := fun w' hw hx => by
              have := Free_any (n + 2) _ _ w' (hx.nd HN.out HU.out) n0 (HT.out.bw hw)
              rw [kd] at this
              exact this
            have CE : Hid (∀ w', BW w w' → PX w w' t u na nl nc ka kl kc ma ml mc qa ql qc p → Calls Tryd.prog 9 #[ndv 6 0 ⟨#[120]⟩ (some ⟨w.heap.size + 1 + 1 + 1 + 1, 0, none⟩) 1 1 (some ⟨w.heap.size + 1 + 1 + 1 + 1 + 1, 0, none⟩) 1 1] w' fun e w'' => ∃ v, e = .returned v ∧ StrsV w'' v ((fre (n + 1) t).filter (ot p)) ∧ BW w' w'') := fun w' hw hx => by
              have := Free_any (n + 2) _ _ w' (hx.nf HP.out HN.out) (funT_n200 n1) (HT.out.bw hw)
              rw [kf] at this
              exact this
            have HLen : Hid ((fre (n + 1) t).length ≤ 1000000 ∧ (fre (n + 1) u).length ≤ 1000000) := ⟨fre_len k1 n1, fre_len k2 n2⟩
            clear hm0 hm1 k1 k2 kd kf n0 n1 n2
            go_enter Tryd.func5, Tryd.ntmps5
            have P0 : Hid (PX w (((((((w.alloc (.cells #[.int .u8 (Nd.k (K := Tr n) t), .int .i64 (Nd.n (K := Tr n) t), .string (Nd.s (K := Tr n) t), .slice na nl nc, .slice ka kl kc] 25)).alloc (.cells #[.int .u8 (Nd.k (K := Tr n) u), .int .i64 (Nd.n (K := Tr n) u), .string (Nd.s (K := Tr n) u), .slice ma ml mc, .slice qa ql qc] 25)).alloc (.cells #[.int .u8 (Nd.k (K := Tr n) t), .int .i64 (Nd.n (K := Tr n) t), .string (Nd.s (K := Tr n) t), .slice na nl nc, .slice ka kl kc, .int .u8 (Nd.k (K := Tr n) u), .int .i64 (Nd.n (K := Tr n) u), .string (Nd.s (K := Tr n) u), .slice ma ml mc, .slice qa ql qc] 25)).alloc (.cells #[.int .u8 10, .int .i64 0, .string ⟨#[]⟩, .slice none 0 0, .slice (some ⟨w.heap.size + 1 + 1, 0, none⟩) 2 2] 25)).alloc (.cells #[.string p] 9)).alloc (.cells #[.int .u8 (Nd.k (K := Tr n) t), .int .i64 (Nd.n (K := Tr n) t), .string (Nd.s (K := Tr n) t), .slice na nl nc, .slice ka kl kc] 25)).alloc (.cells #[.int .u8 6, .int .i64 0, .string ⟨#[120]⟩, .slice (some ⟨w.heap.size + 1 + 1 + 1 + 1, 0, none⟩) 1 1, .slice (some ⟨w.heap.size + 1 + 1 + 1 + 1 + 1, 0, none⟩) 1 1] 25)) t u na nl nc ka kl kc ma ml mc qa ql qc p) := PX.new w t u na nl nc ka kl kc ma ml mc qa ql qc p
            obtain ⟨⟨a0, a1, a2, a3, a4⟩, ⟨b0, b1, b2, b3, b4⟩, _, _⟩ := (Bx2.new w t u na nl nc ka kl kc ma ml mc qa ql qc).cells
            go_wp2_with (fail)
            refine (CG.out _ (P0.out.bw) P0.out).mono ?_
            rintro e w1 ⟨rfl, bw1⟩
            have P1 : Hid (PX w w1 t u na nl nc ka kl kc ma ml mc qa ql qc p) := P0.out.on bw1
            clear a0 a1 a2 a3 a4 b0 b1 b2 b3 b4
            have d0 := PX.d0 P1.out
            have d1 := PX.d1 P1.out
            have d2 := PX.d2 P1.out
            have d3 := PX.d3 P1.out
            have d4 := PX.d4 P1.out
            have f0 := PX.f0 P1.out
            have f1 := PX.f1 P1.out
            have f2 := PX.f2 P1.out
            have f3 := PX.f3 P1.out
            have f4 := PX.f4 P1.out
            have t0 := PX.t0 P1.out
            have t1 := PX.t1 P1.out
            have t2 := PX.t2 P1.out
            have t3 := PX.t3 P1.out
            have t4 := PX.t4 P1.out
            have u0 := PX.u0 P1.out
            have u1 := PX.u1 P1.out
            have u2 := PX.u2 P1.out
            have u3 := PX.u3 P1.out
            have u4 := PX.u4 P1.out
            have zz := PX.lt P1.out
            have gb := PX.bw P1.out
            go_wp2_with (fail)
            refine (CM.out _ gb P1.out).mono ?_
            rintro e w2 ⟨rfl, bw2⟩
            have P2 : Hid (PX w w2 t u na nl nc ka kl kc ma ml mc qa ql qc p) := P1.out.on bw2
            clear d0 d1 d2 d3 d4 f0 f1 f2 f3 f4 t0 t1 t2 t3 t4 u0 u1 u2 u3 u4 zz gb
            have d0 := PX.d0 P2.out
            have d1 := PX.d1 P2.out
            have d2 := PX.d2 P2.out
            have d3 := PX.d3 P2.out
            have d4 := PX.d4 P2.out
            have f0 := PX.f0 P2.out
            have f1 := PX.f1 P2.out
            have f2 := PX.f2 P2.out
            have f3 := PX.f3 P2.out
            have f4 := PX.f4 P2.out
            have t0 := PX.t0 P2.out
            have t1 := PX.t1 P2.out
            have t2 := PX.t2 P2.out
            have t3 := PX.t3 P2.out
            have t4 := PX.t4 P2.out
            have u0 := PX.u0 P2.out
            have u1 := PX.u1 P2.out
            have u2 := PX.u2 P2.out
            have u3 := PX.u3 P2.out
            have u4 := PX.u4 P2.out
            have zz := PX.lt P2.out
            have gb := PX.bw P2.out
            go_wp2_with (fail)
            refine (CN.out _ gb P2.out).mono ?_
            rintro e w3 ⟨rfl, bw3⟩
            have P3 : Hid (PX w w3 t u na nl nc ka kl kc ma ml mc qa ql qc p) := P2.out.on bw3
            clear d0 d1 d2 d3 d4 f0 f1 f2 f3 f4 t0 t1 t2 t3 t4 u0 u1 u2 u3 u4 zz gb
            have d0 := PX.d0 P3.out
            have d1 := PX.d1 P3.out
            have d2 := PX.d2 P3.out
            have d3 := PX.d3 P3.out
            have d4 := PX.d4 P3.out
            have f0 := PX.f0 P3.out
            have f1 := PX.f1 P3.out
            have f2 := PX.f2 P3.out
            have f3 := PX.f3 P3.out
            have f4 := PX.f4 P3.out
            have t0 := PX.t0 P3.out
            have t1 := PX.t1 P3.out
            have t2 := PX.t2 P3.out
            have t3 := PX.t3 P3.out
            have t4 := PX.t4 P3.out
            have u0 := PX.u0 P3.out
            have u1 := PX.u1 P3.out
            have u2 := PX.u2 P3.out
            have u3 := PX.u3 P3.out
            have u4 := PX.u4 P3.out
            have zz := PX.lt P3.out
            have gb := PX.bw P3.out
            clear CG CM CN P0 P1 P2
            go_upto_region 5 with fail
            go_cut [9, 10] (fun x0 y0 wx => Hid (StrsV wx x0 (fre (n + 1) t)) ∧ Hid (StrsV wx y0 (fre (n + 1) u)) ∧ BW w3 wx)
            case first =>
              go_region_held3 (fun w' => BW w3 w' ∧ w'.cell? ⟨w.heap.size, 0, none⟩ = some (.int .u8 (Nd.k (K := Tr n) t)) ∧ w'.cell? ⟨w.heap.size, 1, none⟩ = some (.int .i64 (Nd.n (K := Tr n) t)) ∧ w'.cell? ⟨w.heap.size, 2, none⟩ = some (.string (Nd.s (K := Tr n) t)) ∧ w'.cell? ⟨w.heap.size, 3, none⟩ = some (.slice na nl nc) ∧ w'.cell? ⟨w.heap.size, 4, none⟩ = some (.slice ka kl kc) ∧ w'.cell? ⟨w.heap.size + 1, 0, none⟩ = some (.int .u8 (Nd.k (K := Tr n) u)) ∧ w'.cell? ⟨w.heap.size + 1, 1, none⟩ = some (.int .i64 (Nd.n (K := Tr n) u)) ∧ w'.cell? ⟨w.heap.size + 1, 2, none⟩ = some (.string (Nd.s (K := Tr n) u)) ∧ w'.cell? ⟨w.heap.size + 1, 3, none⟩ = some (.slice ma ml mc) ∧ w'.cell? ⟨w.heap.size + 1, 4, none⟩ = some (.slice qa ql qc)) ((refine ⟨(by repeat (first | exact BW.refl _ | assumption | apply BW.alloc | apply BW.drewN | apply BW.drew | (refine BW.setCell ?_ (by first | omega | (simp; done) | (simp; omega)) _) | (refine BW.trans ?_ (by assumption)))), ?_⟩; go_keep)) (first | (go_at_call 9; refine (CL.out _ (BW.trans gb (by repeat (first | exact BW.refl _ | assumption | apply BW.alloc | apply BW.drewN | apply BW.drew | (refine BW.setCell ?_ (by first | omega | (simp; done) | (simp; omega)) _) | (refine BW.trans ?_ (by assumption)))))).mono ?_; rintro e wa ⟨va, rfl, hva, bwa⟩; obtain ⟨xa, xl, xc, hve⟩ := StrsV.form' hva; subst hve; have HVa : Hid (StrsV wa (.slice xa xl xc) (fre (n + 1) t)) := hva; clear hva; have z1 := fun o => bwa.cells (w.heap.size) o (show w.heap.size < w3.heap.size by omega); have z2 := fun o => bwa.cells (w.heap.size + 1) o (show w.heap.size + 1 < w3.heap.size by omega); have hza : w3.heap.size ≤ wa.heap.size := bwa.size) | (go_at_call 9; refine (CR.out _ (BW.trans gb (by repeat (first | exact BW.refl _ | assumption | apply BW.alloc | apply BW.drewN | apply BW.drew | (refine BW.setCell ?_ (by first | omega | (simp; done) | (simp; omega)) _) | (refine BW.trans ?_ (by assumption)))))).mono ?_; rintro e wb ⟨vb, rfl, hvb, bwb⟩; obtain ⟨ya, yl, yc, hve⟩ := StrsV.form' hvb; subst hve; have HVb : Hid (StrsV wb (.slice ya yl yc) (fre (n + 1) u)) := hvb; clear hvb; have z3 := fun o => bwb.cells (w.heap.size) o (show w.heap.size < wa.heap.size by omega); have z4 := fun o => bwb.cells (w.heap.size + 1) o (show w.heap.size + 1 < wa.heap.size by omega)))
              all_goals (go_wp2_with fail; go_meet)
              have hab : BW wa wb := (by repeat (first | exact BW.refl _ | assumption | apply BW.alloc | apply BW.drewN | apply BW.drew | (refine BW.setCell ?_ (by first | omega | (simp; done) | (simp; omega)) _) | (refine BW.trans ?_ (by assumption))))
              exact ⟨HVa.out.bw hab, HVb, (by repeat (first | exact BW.refl _ | assumption | apply BW.alloc | apply BW.drewN | apply BW.drew | (refine BW.setCell ?_ (by first | omega | (simp; done) | (simp; omega)) _) | (refine BW.trans ?_ (by assumption))))⟩
            case rest =>
              obtain ⟨HVa, HVb, hbc⟩ := hcut
              obtain ⟨xa, xl, xc, hve⟩ := StrsV.form' HVa.out
              subst hve
              obtain ⟨ya, yl, yc, hve⟩ := StrsV.form' HVb.out
              subst hve
              have P4 : Hid (PX w wc t u na nl nc ka kl kc ma ml mc qa ql qc p) := P3.out.on hbc
              clear P3 hbc CL CR
              clear d0 d1 d2 d3 d4 f0 f1 f2 f3 f4 t0 t1 t2 t3 t4 u0 u1 u2 u3 u4 zz gb
              have HLx : Hid (StrsV wc (.slice xa xl xc) (fre (n + 1) t)) := HVa
              have HMx : Hid (StrsV wc (.slice ya yl yc) (fre (n + 1) u)) := HVb
              clear HVa HVb bw1 bw2 bw3
              generalize fre (n + 1) t = L at *
              generalize fre (n + 1) u = M at *
              have hxl : L.length = xl := HLx.out.len'.1
              have hyl : M.length = yl := HMx.out.len'.1
              have hL1 := HLen.out.1
              have hM1 := HLen.out.2
              have hxc := HLx.out.len'.2.2.1
              have hyc := HMx.out.len'.2.2.1
              have HSm : Hid ((∀ x ∈ M, x.size ≤ maxLen) ∧ (∀ x ∈ L, x.size ≤ maxLen)) := ⟨HMx.out.len'.2.1.2.2.1, HLx.out.len'.2.1.2.2.1⟩
              go_wp2_with (at_builtin; refine wpList_append_all rfl _ _ rfl wc.heap.size _ [] L xa xl xc rfl rfl (own_empty wc) (HLx.out.len'.2.1.bw (BW.alloc (BW.refl wc) _)) (by simp; omega) (by simp) ?_)
              intro v5 w5 hown5 hgrow5
              have hb5 : BW wc w5 := (BW.alloc (BW.refl wc) _).own (own_empty wc) hgrow5
              have HO5 : Hid (w5.ownsRow wc.heap.size 9 1 v5 (uni (M.take 0) L).length ((uni (M.take 0) L).map Value.string)) := by
                show World.ownsRow _ _ _ _ _ _ _
                simpa [uni, hxl] using hown5
              have HB5 : Hid (BW wc w5) := hb5
              clear hown5 hgrow5 hb5
              go_wp2_with (fail)
              go_loopw [11, 12] (fun wv i wr => ∃ j : Nat, j ≤ yl ∧ i = .int .i64 j ∧ Hid (wr.ownsRow wc.heap.size 9 1 wv (uni (M.take j) L).length ((uni (M.take j) L).map Value.string)) ∧ BW wc wr) (fun _ i _ => yl - (intOf i).toNat)
              case atStart => exact ⟨0, Nat.zero_le _, rfl, HO5, HB5.out⟩
              case round =>
                clear HO5 HB5
                obtain ⟨j, hj, rfl, HOj, hb⟩ := hrel
                have HWj : Hid (StrsV wr _ (uni (M.take j) L)) := own_strsV HOj.out (uni_sm (fun x hx => HSm.out.1 x (List.mem_of_mem_take hx)) HSm.out.2)
                obtain ⟨wa, wl, wcp, hve⟩ := StrsV.form' HWj.out
                subst hve
                have hwl : (uni (M.take j) L).length = wl := HWj.out.len'.1
                have hwc := HWj.out.len'.2.2.1
                have hwb : wl ≤ 2000000 := by have h1 := uni_len (M.take j) L; have h2 := List.length_take_le j M; omega
                have HBj : Hid (BW wc wr) := hb
                by_cases hlt : j < yl
                · obtain ⟨b, off, x, e, hbl, hx, hxs, hc⟩ := StrsAt.get (HMx.out.len'.2.1.bw hb) hlt
                  subst e
                  have HX : Hid (M[j]? = some x) := hx
                  have HWa : Hid (StrsAt wr wa wl (uni (M.take j) L)) := HWj.out.len'.2.1
                  generalize hW : uni (M.take j) L = Wt at *
                  have HWt : Hid (uni (M.take j) L = Wt) := hW
                  clear hx hW hb HWj
                  go_wp2_with (fail)
                  go_loopw [13, 14] (fun fd k wk => ∃ (q : Nat) (fb : Bool), q ≤ wl ∧ fd = .bool fb ∧ k = .int .i64 q ∧ Hid (fb = inB (Wt.take q) x) ∧ BW wr wk) (fun _ k _ => wl - (intOf k).toNat)
                  case atStart => exact ⟨0, false, Nat.zero_le _, rfl, rfl, rfl, BW.refl _⟩
                  case round =>
                    obtain ⟨q, fb, hq, rfl, rfl, HFb, hbk⟩ := hrel
                    have cx := (hbk.cells b (off + j) hbl).trans hc
                    by_cases hq2 : q < wl
                    · obtain ⟨ob, ooff, y, rfl, hobl, hy, hys, hoc⟩ := StrsAt.get (HWa.out.bw hbk) hq2
                      have HFb2 : Hid (inB (Wt.take (q + 1)) x = (fb || decide (y = x))) := by
                        show inB _ _ = _
                        rw [HFb.out]
                        exact any_snoc (fun z => decide (z = x)) hy
                      clear hy
                      cases fb with
                      | true =>
                        have HFb3 : Hid (true = inB (Wt.take (q + 1)) x) := by show true = _; rw [HFb2.out]; rfl
                        go_wp2_with (fail)
                        go_quiet (fail)
                        go_wp2_with (fail)
                        go_roundw
                        case rel => exact ⟨q + 1, true, by omega, rfl, by go_num, HFb3, BW.drewN hbk _⟩
                        case measure => simp [intOf]; omega
                      | false =>
                        by_cases he : y = x
                        · have e1 := (bytes_eq' y x).2 he
                          have e2 : (y.toList == x.toList) = true := by rw [e1]; simp
                          have HFb3 : Hid (true = inB (Wt.take (q + 1)) x) := by show true = _; rw [HFb2.out, decide_eq_true he]; rfl
                          clear he
                          go_wp2_with (fail)
                          go_quiet (fail)
                          go_wp2_with (fail)
                          go_roundw
                          case rel => exact ⟨q + 1, true, by omega, rfl, by go_num, HFb3, BW.drewN hbk _⟩
                          case measure => simp [intOf]; omega
                        · have e1 : ¬ y.toList = x.toList := fun e => he ((bytes_eq' y x).1 e)
                          have e2 : (y.toList == x.toList) = false := by simpa using e1
                          have HFb3 : Hid (false = inB (Wt.take (q + 1)) x) := by show false = _; rw [HFb2.out, decide_eq_false he]; rfl
                          clear he
                          go_wp2_with (fail)
                          go_quiet (fail)
                          go_wp2_with (fail)
                          go_roundw
                          case rel => exact ⟨q + 1, false, by omega, rfl, by go_num, HFb3, BW.drewN hbk _⟩
                          case measure => simp [intOf]; omega
                    · obtain rfl : wl = q := by omega
                      have HFo : Hid (fb = inB Wt x) := by
                        show fb = _
                        rw [HFb.out, List.take_of_length_le (by omega)]
                      have HBk : Hid (BW wc wr) := BW.trans HBj.out hbk
                      have HOk : Hid (World.ownsRow wr wc.heap.size 9 1 (.slice wa wl wcp) Wt.length (Wt.map Value.string)) := own_bw HOj.out hbk
                      have hbz := hbk.size
                      have hbl2 : b < wr.heap.size := Nat.lt_of_lt_of_le hbl hbz
                      clear HFb hc HOj HWa
                      cases fb with
                      | true =>
                        have HU2 : Hid (uni (M.take (j + 1)) L = Wt) := by
                          show _ = _
                          rw [uni_take HX.out, HWt.out, addN_mem ((inB_mem Wt x).1 HFo.out.symm)]
                        go_wp2_with (fail)
                        go_roundw
                        case rel => exact ⟨j + 1, by omega, by go_num, by rw [HU2.out]; exact HOk, HBk.out⟩
                        case measure => simp [intOf]; omega
                      | false =>
                        have HU2 : Hid (uni (M.take (j + 1)) L = Wt ++ [x]) := by
                          show _ = _
                          rw [uni_take HX.out, HWt.out, addN_new (fun h => by have := (inB_mem Wt x).2 h; rw [← HFo.out] at this; cases this)]
                        go_wp2_with (at_builtin; refine wpList_append_all rfl _ _ rfl wc.heap.size _ Wt [x] (some ⟨wr.heap.size, 0, none⟩) 1 1 rfl rfl (HOk.out.alloc _) (strs_one wr x hxs) (by omega) (by simp; have := HBk.out.size; omega) ?_)
                        intro v6 w6 hown6 hgrow6
                        have HO6 : Hid (w6.ownsRow wc.heap.size 9 1 v6 (uni (M.take (j + 1)) L).length ((uni (M.take (j + 1)) L).map Value.string)) := by
                          show World.ownsRow _ _ _ _ _ _ _
                          rw [HU2.out]
                          rw [← hwl] at hown6
                          simpa using hown6
                        have HB6 : Hid (BW wc w6) := (BW.alloc HBk.out _).own (HOk.out.alloc _) hgrow6
                        clear hown6 hgrow6
                        go_wp2_with (fail)
                        go_roundw
                        case rel => exact ⟨j + 1, by omega, by go_num, HO6, HB6.out⟩
                        case measure => simp [intOf]; omega
                · obtain rfl : yl = j := by omega
                  rw [List.take_of_length_le (by omega)] at HWj
                  rw [List.take_of_length_le (by omega)] at hwl
                  have P5 : Hid (PX w wr t u na nl nc ka kl kc ma ml mc qa ql qc p) := P4.out.on hb
                  have HL5 : Hid (StrsAt wr xa xl L) := HLx.out.len'.2.1.bw hb
                  have HW5 : Hid (StrsAt wr wa wl (uni M L)) := HWj.out.len'.2.1
                  clear P4 HLx HMx HOj HBj HWj hb
                  generalize uni M L = W at *
                  have d0 := PX.d0 P5.out
                  have d1 := PX.d1 P5.out
                  have d2 := PX.d2 P5.out
                  have d3 := PX.d3 P5.out
                  have d4 := PX.d4 P5.out
                  have f0 := PX.f0 P5.out
                  have f1 := PX.f1 P5.out
                  have f2 := PX.f2 P5.out
                  have f3 := PX.f3 P5.out
                  have f4 := PX.f4 P5.out
                  have zz := PX.lt P5.out
                  have gb := PX.bw P5.out
                  go_wp2_with (fail)
                  refine (CD.out _ gb P5.out).mono ?_
                  rintro e wd ⟨vd, rfl, hvd, bd⟩
                  obtain ⟨ga, gl, gc, hve⟩ := StrsV.form' hvd
                  subst hve
                  have hgl := hvd.len'.1
                  obtain rfl : gl = wl := by omega
                  have hgc := hvd.len'.2.2.1
                  have HG : Hid (StrsAt wd ga gl W) := hvd.len'.2.1
                  have P6 : Hid (PX w wd t u na nl nc ka kl kc ma ml mc qa ql qc p) := P5.out.on bd
                  have HL6 : Hid (StrsAt wd xa xl L) := HL5.out.bw bd
                  have HW6 : Hid (StrsAt wd wa gl W) := HW5.out.bw bd
                  clear hvd bd P5 HL5 HW5 CD
                  clear d0 d1 d2 d3 d4 f0 f1 f2 f3 f4 zz gb
                  go_wp2_with (fail)
                  go_loopw [16] (fun i wr => ∃ q : Nat, q ≤ gl ∧ i = .int .i64 q ∧ BW wd wr) (fun i _ => gl - (intOf i).toNat)
                  case atStart => exact ⟨0, Nat.zero_le _, rfl, BW.refl _⟩
                  case round =>
                    obtain ⟨q, hq, rfl, hbq⟩ := hrel
                    by_cases hlq : q < gl
                    · obtain ⟨b, off, x, rfl, hbl, hx, hxs, hc⟩ := StrsAt.get (HG.out.bw hbq) hlq
                      obtain ⟨b', off', x', rfl, hbl', hx', hxs', hc'⟩ := StrsAt.get (HW6.out.bw hbq) hlq
                      obtain rfl : x = x' := by rw [hx] at hx'; exact Option.some.inj hx'
                      clear hx hx'
                      go_wp2_with (fail)
                      go_quiet (fail)
                      go_wp2_with (fail)
                      go_roundw
                      case rel => exact ⟨q + 1, by omega, by go_num, BW.drewN hbq _⟩
                      case measure => simp [intOf]; omega
                    · obtain rfl : gl = q := by omega
                      have P7 : Hid (PX w wr t u na nl nc ka kl kc ma ml mc qa ql qc p) := P6.out.on hbq
                      have HL7 : Hid (StrsAt wr xa xl L) := HL6.out.bw hbq
                      clear P6 HL6 HW6 HG hbq
                      have f0 := PX.f0 P7.out
                      have f1 := PX.f1 P7.out
                      have f2 := PX.f2 P7.out
                      have f3 := PX.f3 P7.out
                      have f4 := PX.f4 P7.out
                      have zz := PX.lt P7.out
                      have gb := PX.bw P7.out
                      go_wp2_with (fail)
                      refine (CE.out _ gb P7.out).mono ?_
                      rintro e we ⟨ve, rfl, hvo, be⟩
                      obtain ⟨oa, ol, oc, hve⟩ := StrsV.form' hvo
                      subst hve
                      have hol := hvo.len'.1
                      have hoc := hvo.len'.2.2.1
                      have HO : Hid (StrsAt we oa ol (L.filter (ot p))) := hvo.len'.2.1
                      have hoM : ol ≤ 1000000 := by have := List.length_filter_le (ot p) L; omega
                      have HL8 : Hid (StrsAt we xa xl L) := HL7.out.bw be
                      have HBe : Hid (BW w we) := BW.trans gb be
                      clear hvo be P7 HL7 CE
                      clear f0 f1 f2 f3 f4 zz gb
                      go_wp2_with (fail)
                      go_loopw [18, 19] (fun nn i wr => ∃ j m : Nat, j ≤ xl ∧ Hid (m = ((L.take j).filter (ot p)).length) ∧ m ≤ ol ∧ nn = .int .i64 m ∧ i = .int .i64 j ∧ BW we wr) (fun _ i _ => xl - (intOf i).toNat)
                      case atStart => exact ⟨0, 0, Nat.zero_le _, by show _ = _; rfl, Nat.zero_le _, rfl, rfl, BW.refl _⟩
                      case round =>
                        obtain ⟨j, m, hj, HM, hmo, rfl, rfl, hbj⟩ := hrel
                        by_cases hlj : j < xl
                        · obtain ⟨b, off, x, rfl, hbl, hx, hxs, hc⟩ := StrsAt.get (HL8.out.bw hbj) hlj
                          have HS : Hid (((L.take (j + 1)).filter (ot p)).length = m + if ot p x = true then 1 else 0) := by
                            show _ = _
                            rw [filter_snoc hx, HM.out]
                          have HF : Hid (ot p x = true → (L.filter (ot p))[m]? = some x) := fun h => by
                            rw [HM.out]
                            exact filter_at hx h
                          clear hx
                          by_cases h1 : x = xs1
                          · have HS2 : Hid (m = ((L.take (j + 1)).filter (ot p)).length) := by
                              show _ = _
                              rw [HS.out, ot_no (.inl h1)]; rfl
                            clear HF HS
                            unfold xs1 at h1
                            subst h1
                            go_wp2_with (fail)
                            go_roundw
                            case rel => exact ⟨j + 1, m, by omega, HS2, hmo, rfl, by go_num, hbj⟩
                            case measure => simp [intOf]; omega
                          · by_cases h2 : x = p
                            · have HS2 : Hid (m = ((L.take (j + 1)).filter (ot p)).length) := by
                                show _ = _
                                rw [HS.out, ot_no (.inr h2)]; rfl
                              have e2 := (bytes_eq' x p).2 h2
                              have e1 : ¬ p.toList = [120] := fun e => h1 ((bytes_eq' x xs1).1 (e2.trans (e.trans xs1_l.symm)))
                              clear HF HS h1 h2
                              go_wp2_with (fail)
                              go_roundw
                              case rel => exact ⟨j + 1, m, by omega, HS2, hmo, rfl, by go_num, hbj⟩
                              case measure => simp [intOf]; omega
                            · have ho := ot_yes h1 h2
                              have hf := HF.out ho
                              have hlt : m < ol := by
                                have := (List.getElem?_eq_some_iff.1 hf).1
                                omega
                              have HS2 : Hid (m + 1 = ((L.take (j + 1)).filter (ot p)).length) := by
                                show _ = _
                                rw [HS.out, ho]; rfl
                              obtain ⟨b', off', x', rfl, hbl', hx', hxs', hc'⟩ := StrsAt.get (HO.out.bw hbj) hlt
                              obtain rfl : x = x' := by rw [hf] at hx'; exact Option.some.inj hx'
                              have e1 : ¬ x.toList = [120] := fun e => h1 ((bytes_eq' x xs1).1 (e.trans xs1_l.symm))
                              have e2 : ¬ x.toList = p.toList := fun e => h2 ((bytes_eq' x p).1 e)
                              have e4 : (x.toList == [120]) = false := by simpa using e1
                              have e5 : (x.toList == p.toList) = false := by simpa using e2
                              have e3 : decide ((ol : Int) ≤ (m : Int)) = false := decide_eq_false (by omega)
                              clear HF HS h1 h2 ho hf hx'
                              go_wp2_with (fail)
                              go_quiet (fail)
                              go_wp2_with (fail)
                              go_roundw
                              case rel => exact ⟨j + 1, m + 1, by omega, HS2, by omega, by go_num, by go_num, BW.drewN hbj _⟩
                              case measure => simp [intOf]; omega
                        · obtain rfl : xl = j := by omega
                          have hme : m = ol := by
                            have := HM.out
                            rw [List.take_of_length_le (by omega)] at this
                            omega
                          subst hme
                          have HBz : Hid (BW w wr) := BW.trans HBe.out hbj
                          go_wp2_with (first | (go_at_call 8; refine (HA.out _ HBz.out).mono ?_; rintro e wz ⟨rfl, bz⟩))
                          go_ret
                          exact ⟨rfl, BW.trans HBz.out bz⟩

end Go.Proofs.YtijoadkjkbkjgaaDoor
