import Derived.Test.YtijoadkjkbkjgaaDoorF18
import Derived.Test.YtijoadkjkbkjgaaDoorK1
namespace Go.Proofs.YtijoadkjkbkjgaaDoor
open Go.RowKit
set_option linter.unusedVariables false
set_option linter.unusedSimpArgs false

theorem StrsV.len {w : World} {a : Option Addr} {m c : Nat} {l : List ByteArray} (h : StrsV w (.slice a m c) l) : l.length = m ∧ StrsAt w a m l ∧ m ≤ c ∧ c ≤ maxLen := by
  obtain ⟨ao, cp, e, h1, h2, h3⟩ := h
  cases e
  exact ⟨rfl, h1, h2, h3⟩
set_option maxRecDepth 100000 in
set_option maxHeartbeats 4000000 in
theorem scopeFree_any (f : Nat) (v : Value) (t : Tr f) (w : World) (h : NodeAt w f v t) (hz : sz f t ≤ 1048576) (hT : Tw w) : Calls Tryd.prog 3 #[v] w fun e w' => e = .returned (.bool true) ∧ BW w w' := by
  have HN : Hid (NodeAt w f v t) := h
  cases f with
  | zero => exact h.elim
  | succ n =>
    obtain ⟨na, nl, nc, ka, kl, kc, rfl, _⟩ := h
    have HA : Hid (∀ w', BW w w' → Calls Tryd.prog 8 #[] w' fun e w'' => e = .returned (.bool true) ∧ BW w' w'') := fun w' hw => awake_any w' (hT.bw hw)
    have CG : Hid (∀ w', BW w w' → Calls Tryd.prog 7 #[ndv (Nd.k (K := Tr n) t) (Nd.n (K := Tr n) t) (Nd.s (K := Tr n) t) na nl nc ka kl kc, .int .i64 0] w' fun e w'' => e = .returned (.bool (gr (n + 1) t 0)) ∧ BW w' w'') := fun w' hw => by
      have := great_any (n + 1) _ t 0 w' (by decide) (HN.out.bw hw)
      simpa using this
    cases hg : gr (n + 1) t 0 with
    | true =>
      rw [hg] at CG
      clear hT hz hg
      go_enter Tryd.func3, Tryd.ntmps3
      go_wp2_with (first | (go_at_call 7; refine (CG.out _ (by repeat (first | exact BW.refl _ | assumption | apply BW.alloc | apply BW.drewN | apply BW.drew | (refine BW.setCell ?_ (by first | omega | (simp; done) | (simp; omega)) _) | (refine BW.trans ?_ (by assumption))))).mono ?_; rintro e w1 ⟨rfl, b1⟩) | (go_at_call 8; refine (HA.out _ (by repeat (first | exact BW.refl _ | assumption | apply BW.alloc | apply BW.drewN | apply BW.drew | (refine BW.setCell ?_ (by first | omega | (simp; done) | (simp; omega)) _) | (refine BW.trans ?_ (by assumption))))).mono ?_; rintro e w2 ⟨rfl, b2⟩))
      go_ret
      exact ⟨rfl, (by repeat (first | exact BW.refl _ | assumption | apply BW.alloc | apply BW.drewN | apply BW.drew | (refine BW.setCell ?_ (by first | omega | (simp; done) | (simp; omega)) _) | (refine BW.trans ?_ (by assumption))))⟩
    | false =>
      rw [hg] at CG
      have h200 := gr_n200 _ _ _ hg
      have CF : Hid (∀ w', BW w w' → Calls Tryd.prog 9 #[ndv (Nd.k (K := Tr n) t) (Nd.n (K := Tr n) t) (Nd.s (K := Tr n) t) na nl nc ka kl kc] w' fun e w'' => ∃ v, e = .returned v ∧ StrsV w'' v (fre (n + 1) t) ∧ BW w' w'') := fun w' hw => Free_any (n + 1) _ t w' (HN.out.bw hw) h200 (hT.bw hw)
      have CC : Hid (∀ w', BW w w' → Calls Tryd.prog 10 #[ndv (Nd.k (K := Tr n) t) (Nd.n (K := Tr n) t) (Nd.s (K := Tr n) t) na nl nc ka kl kc] w' fun e w'' => e = .returned (.tuple #[.string (chk (n + 1) t).1, .int .i64 (chk (n + 1) t).2]) ∧ BW w' w'') := fun w' hw => Check_any (n + 1) _ t w' (HN.out.bw hw) h200 (hT.bw hw)
      have CM : Hid (∀ w', BW w w' → Calls Tryd.prog 11 #[ndv (Nd.k (K := Tr n) t) (Nd.n (K := Tr n) t) (Nd.s (K := Tr n) t) na nl nc ka kl kc] w' fun e w'' => e = .returned (.bool (mayB (n + 1) t)) ∧ BW w' w'') := fun w' hw => refMay_any (n + 1) _ t w' (HN.out.bw hw) (by omega)
      cases hm : mayB (n + 1) t with
      | false =>
        rw [hm] at CM
        have e1 : chk (n + 1) t = (⟨#[]⟩, 12) := by unfold chk; rw [hm]; rfl
        have e2 : fre (n + 1) t = [] := by unfold fre; rw [hm]; rfl
        rw [e1] at CC
        rw [e2] at CF
        clear hT hz hg h200 hm e1 e2
        go_enter Tryd.func3, Tryd.ntmps3
        go_wp2_with (fail)
        refine (CG.out _ (BW.alloc (BW.refl w) _)).mono ?_
        rintro e w1 ⟨rfl, b1⟩
        obtain ⟨⟨g0, g1, g2, g3, g4⟩, gz, gb⟩ := bx_at b1
        clear CG b1
        go_wp2_with (fail)
        refine (CF.out _ gb).mono ?_
        rintro e w2 ⟨v2, rfl, hv2, b2⟩
        obtain ⟨lao, ll, lcp, hve⟩ := hv2.form
        subst hve
        have gb2 : BW w w2 := BW.trans gb b2
        have h0 := (b2.cells w.heap.size 0 gz).trans g0
        have h1 := (b2.cells w.heap.size 1 gz).trans g1
        have h2 := (b2.cells w.heap.size 2 gz).trans g2
        have h3 := (b2.cells w.heap.size 3 gz).trans g3
        have h4 := (b2.cells w.heap.size 4 gz).trans g4
        have gz2 : w.heap.size < w2.heap.size := Nat.lt_of_lt_of_le gz b2.size
        have HL2 : Hid (StrsV w2 (.slice lao ll lcp) ([] : List ByteArray)) := hv2
        clear CF hv2 b2 g0 g1 g2 g3 g4 gb
        go_wp2_with (fail)
        refine (CC.out _ gb2).mono ?_
        rintro e w3 ⟨rfl, b3⟩
        have gb3 : BW w w3 := BW.trans gb2 b3
        have i0 := (b3.cells w.heap.size 0 gz2).trans h0
        have i1 := (b3.cells w.heap.size 1 gz2).trans h1
        have i2 := (b3.cells w.heap.size 2 gz2).trans h2
        have i3 := (b3.cells w.heap.size 3 gz2).trans h3
        have i4 := (b3.cells w.heap.size 4 gz2).trans h4
        have gz3 : w.heap.size < w3.heap.size := Nat.lt_of_lt_of_le gz2 b3.size
        have HL3 : Hid (StrsV w3 (.slice lao ll lcp) ([] : List ByteArray)) := HL2.out.bw b3
        clear CC b3 h0 h1 h2 h3 h4 gb2 HL2
        go_wp2_with (fail)
        refine (CM.out _ gb3).mono ?_
        rintro e w4 ⟨rfl, b4⟩
        have gb4 : BW w w4 := BW.trans gb3 b4
        have j0 := (b4.cells w.heap.size 0 gz3).trans i0
        have j1 := (b4.cells w.heap.size 1 gz3).trans i1
        have j2 := (b4.cells w.heap.size 2 gz3).trans i2
        have j3 := (b4.cells w.heap.size 3 gz3).trans i3
        have j4 := (b4.cells w.heap.size 4 gz3).trans i4
        have gz4 : w.heap.size < w4.heap.size := Nat.lt_of_lt_of_le gz3 b4.size
        have HL4 : Hid (StrsV w4 (.slice lao ll lcp) ([] : List ByteArray)) := HL3.out.bw b4
        clear CM b4 i0 i1 i2 i3 i4 gb3 HL3

        obtain rfl : ll = 0 := HL4.out.len.1.symm
        clear HL4 j0 j1 j2 j3 j4
        have HA4 : Hid (∀ w', BW w4 w' → Calls Tryd.prog 8 #[] w' fun e w'' => e = .returned (.bool true) ∧ BW w' w'') := fun w' hw => HA.out w' (BW.trans gb4 hw)
        go_wp2_with (first | (go_at_call 8; refine (HA4.out _ (BW.refl _)).mono ?_; rintro e w5 ⟨rfl, b5⟩))
        go_ret
        exact ⟨rfl, BW.trans gb4 b5⟩
      | true =>
        rw [hm] at CM
        have hrt := (may_rt hm).1
        have hbz := may_bz hm h200
        have CR : Hid (∀ w', BW w w' → Calls Tryd.prog 12 #[ndv (Nd.k (K := Tr n) t) (Nd.n (K := Tr n) t) (Nd.s (K := Tr n) t) na nl nc ka kl kc] w' fun e w'' => ∃ v, e = .returned v ∧ StrsV w'' v (fre (n + 1) t) ∧ BW w' w'') := fun w' hw => by
          have := refFree_any (n + 1) _ t w' (HN.out.bw hw) hrt hbz
          unfold fre
          rw [hm]
          exact this
        have HCk : Hid (chk (n + 1) t = (match fre (n + 1) t with
          | [] => (⟨#[]⟩, 0)
          | s :: _ => (s, 14))) := by show _ = _; unfold chk fre; rw [hm]; rfl
        generalize chk (n + 1) t = q at *
        clear hT hz hg h200 hm hrt hbz
        go_enter Tryd.func3, Tryd.ntmps3
        go_wp2_with (fail)
        refine (CG.out _ (BW.alloc (BW.refl w) _)).mono ?_
        rintro e w1 ⟨rfl, b1⟩
        obtain ⟨⟨g0, g1, g2, g3, g4⟩, gz, gb⟩ := bx_at b1
        clear CG b1
        go_wp2_with (fail)
        refine (CF.out _ gb).mono ?_
        rintro e w2 ⟨v2, rfl, hv2, b2⟩
        obtain ⟨lao, ll, lcp, hve⟩ := hv2.form
        subst hve
        have gb2 : BW w w2 := BW.trans gb b2
        have h0 := (b2.cells w.heap.size 0 gz).trans g0
        have h1 := (b2.cells w.heap.size 1 gz).trans g1
        have h2 := (b2.cells w.heap.size 2 gz).trans g2
        have h3 := (b2.cells w.heap.size 3 gz).trans g3
        have h4 := (b2.cells w.heap.size 4 gz).trans g4
        have gz2 : w.heap.size < w2.heap.size := Nat.lt_of_lt_of_le gz b2.size
        have HL2 : Hid (StrsV w2 (.slice lao ll lcp) (fre (n + 1) t)) := hv2
        clear CF hv2 b2 g0 g1 g2 g3 g4 gb
        go_wp2_with (fail)
        refine (CC.out _ gb2).mono ?_
        rintro e w3 ⟨rfl, b3⟩
        have gb3 : BW w w3 := BW.trans gb2 b3
        have i0 := (b3.cells w.heap.size 0 gz2).trans h0
        have i1 := (b3.cells w.heap.size 1 gz2).trans h1
        have i2 := (b3.cells w.heap.size 2 gz2).trans h2
        have i3 := (b3.cells w.heap.size 3 gz2).trans h3
        have i4 := (b3.cells w.heap.size 4 gz2).trans h4
        have gz3 : w.heap.size < w3.heap.size := Nat.lt_of_lt_of_le gz2 b3.size
        have HL3 : Hid (StrsV w3 (.slice lao ll lcp) (fre (n + 1) t)) := HL2.out.bw b3
        clear CC b3 h0 h1 h2 h3 h4 gb2 HL2
        go_wp2_with (fail)
        refine (CM.out _ gb3).mono ?_
        rintro e w4 ⟨rfl, b4⟩
        have gb4 : BW w w4 := BW.trans gb3 b4
        have j0 := (b4.cells w.heap.size 0 gz3).trans i0
        have j1 := (b4.cells w.heap.size 1 gz3).trans i1
        have j2 := (b4.cells w.heap.size 2 gz3).trans i2
        have j3 := (b4.cells w.heap.size 3 gz3).trans i3
        have j4 := (b4.cells w.heap.size 4 gz3).trans i4
        have gz4 : w.heap.size < w4.heap.size := Nat.lt_of_lt_of_le gz3 b4.size
        have HL4 : Hid (StrsV w4 (.slice lao ll lcp) (fre (n + 1) t)) := HL3.out.bw b4
        clear CM b4 i0 i1 i2 i3 i4 gb3 HL3

        go_wp2_with (fail)
        refine (CR.out _ gb4).mono ?_
        rintro e w5 ⟨v5, rfl, hv5, b5⟩
        obtain ⟨mao, ml, mcp, hve⟩ := hv5.form
        subst hve
        have gb5 : BW w w5 := BW.trans gb4 b5
        have HL5 : Hid (StrsV w5 (.slice lao ll lcp) (fre (n + 1) t)) := HL4.out.bw b5
        have HM5 : Hid (StrsV w5 (.slice mao ml mcp) (fre (n + 1) t)) := hv5
        generalize fre (n + 1) t = l at *
        have hll := HL5.out.len.1
        have hml := HM5.out.len.1
        obtain rfl : ml = ll := by omega
        have HLen : Hid (l.length = ml) := hll
        have HLs : Hid (StrsAt w5 lao ml l) := HL5.out.len.2.1
        have HMs : Hid (StrsAt w5 mao ml l) := HM5.out.len.2.1
        have hmx : ml ≤ 9223372036854775807 := by have := HM5.out.len.2.1.2.1; unfold maxLen at this; omega
        have hlc := HL5.out.len.2.2.1
        have hmc := HM5.out.len.2.2.1
        have HB5 : Hid (BW w w5) := gb5
        clear hll hml HL5 HM5 HL4 hv5 b5 j0 j1 j2 j3 j4 CR gb4 gb5
        go_wp2_with (fail)
        go_loopw [7] (fun i wr => ∃ j : Nat, j ≤ ml ∧ i = .int .i64 j ∧ BW w5 wr) (fun i _ => ml - (intOf i).toNat)
        case atStart => exact ⟨0, Nat.zero_le _, rfl, BW.refl _⟩
        case round =>
          obtain ⟨j, hj, rfl, hb⟩ := hrel
          by_cases hlt : j < ml
          · obtain ⟨b, off, x, rfl, hbl, hx, hxs, hc⟩ := StrsAt.get (HLs.out.bw hb) hlt
            obtain ⟨b', off', x', rfl, hbl', hx', hxs', hc'⟩ := StrsAt.get (HMs.out.bw hb) hlt
            obtain rfl : x = x' := by rw [hx] at hx'; exact Option.some.inj hx'
            clear hx hx'
            go_wp2_with (fail)
            go_quiet (fail)
            go_wp2_with (fail)
            go_roundw
            case rel => exact ⟨j + 1, by omega, by go_num, BW.drewN hb _⟩
            case measure => simp [intOf]; omega
          · obtain rfl : ml = j := by omega
            have HBr : Hid (BW w wr) := BW.trans HB5.out hb
            have HAr : Hid (∀ w', BW wr w' → Calls Tryd.prog 8 #[] w' fun e w'' => e = .returned (.bool true) ∧ BW w' w'') := fun w' hw => HA.out w' (BW.trans HBr.out hw)
            have HMr : Hid (StrsAt wr mao ml l) := HMs.out.bw hb
            have hlen := HLen.out
            cases l with
            | nil =>
              obtain rfl : ml = 0 := hlen.symm
              obtain rfl : q = (⟨#[]⟩, 0) := HCk.out
              clear HCk hlen
              go_wp2_with (first | (go_at_call 8; refine (HAr.out _ (BW.refl _)).mono ?_; rintro e w6 ⟨rfl, b6⟩))
              go_ret
              exact ⟨rfl, BW.trans HBr.out b6⟩
            | cons s r =>
              have hpos : 0 < ml := by rw [← hlen]; simp
              obtain rfl : q = (s, 14) := HCk.out
              obtain ⟨b', off', x', rfl, hbl', hx', hxs', hc'⟩ := StrsAt.get HMr.out hpos
              obtain rfl : s = x' := by simpa using hx'
              have t0 : ((ml : Int) == 0) = false := by simp; omega
              have t1 : ¬ ml = 0 := by omega
              simp only [Nat.add_zero] at hc'
              clear HCk hlen hx'
              go_wp2_with (first | (go_at_call 8; refine (HAr.out _ (BW.refl _)).mono ?_; rintro e w6 ⟨rfl, b6⟩))
              go_ret
              exact ⟨rfl, BW.trans HBr.out b6⟩

end Go.Proofs.YtijoadkjkbkjgaaDoor
