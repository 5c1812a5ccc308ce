import Derived.Test.YtijoadkjkbkjgaaDoorC1
import Derived.Test.YtijoadkjkbkjgaaDoorA2
namespace Go.Proofs.YtijoadkjkbkjgaaDoor
open Go.RowKit
set_option linter.unusedVariables false
set_option linter.unusedSimpArgs false

/-- Whether a node's own fields are a shape's. -/
def su (s : Shp) (k n : Int) (x : ByteArray) (ns : List ByteArray) (kl : Nat) : Bool :=
  tx s.f x && (decide (s.n0 ≤ n) && decide (n ≤ s.n1)) && (decide (s.a0 ≤ (ns.length : Int)) && decide ((ns.length : Int) ≤ s.a1)) && (decide (s.p0 ≤ (kl : Int)) && decide ((kl : Int) ≤ s.p1)) && !(decide (k = 11) && !decide ((kl : Int) = tk x.data.toList)) && ns.all nmB && decide ns.Nodup
/-- A text's function is one of the four. -/
def isT (f : Nat) : Prop := f = 30 ∨ f = 31 ∨ f = 32 ∨ f = 35
theorem text_enters {f : Nat} (h : isT f) : ∀ args w, (callFunc f args).run Tryd.prog w = .ok (.enter f args) w := by
  rcases h with rfl | rfl | rfl | rfl
  · exact enters_of Tryd.func30 (by kernel_rfl) rfl
  · exact enters_of Tryd.func31 (by kernel_rfl) rfl
  · exact enters_of Tryd.func32 (by kernel_rfl) rfl
  · exact enters_of Tryd.func35 (by kernel_rfl) rfl
theorem text_any {f : Nat} (h : isT f) (s : ByteArray) (hs : s.size ≤ 9223372036854775807) (w : World) (ht : Tw w) : Calls Tryd.prog f #[.string s] w fun e w' => e = .returned (.bool (tx f s)) ∧ BW w w' := by
  rcases h with rfl | rfl | rfl | rfl
  · exact none_any s w
  · exact short_any s hs w
  · exact prim_any s w ht
  · refine (name_any s hs w).mono ?_
    rintro e w' ⟨rfl, rfl⟩
    exact ⟨rfl, BW.refl _⟩
/-- The world with a shape in a new block. -/
abbrev sx (w : World) (s : Shp) : World := w.alloc (.cells #[.string s.head, .int .i64 s.n0, .int .i64 s.n1, .int .i64 s.a0, .int .i64 s.a1, .int .i64 s.p0, .int .i64 s.p1, .func (.func s.f) #[] #[]] 56)
theorem sx_cells {w w' : World} {s : Shp} {k n : Int} {x : ByteArray} {na : Option Addr} {nl nc : Nat} {ka : Option Addr} {kl kc : Nat} (h : BW (bx (sx w s) k n x na nl nc ka kl kc) w') :
    (∀ o, w'.cell? ⟨w.heap.size, o, none⟩ = (#[.string s.head, .int .i64 s.n0, .int .i64 s.n1, .int .i64 s.a0, .int .i64 s.a1, .int .i64 s.p0, .int .i64 s.p1, .func (.func s.f) #[] #[]] : Array Value)[o]?) ∧ CellsAt w' (w.heap.size + 1) 0 ⟨k, n, x, na, nl, nc, ka, kl, kc⟩ ∧ w.heap.size + 1 < w'.heap.size ∧ BW w w' := by
  obtain ⟨h1, h2, h3⟩ := bx_at h
  have e : (sx w s).heap.size = w.heap.size + 1 := by simp
  rw [e] at h1 h2
  refine ⟨fun o => ?_, h1, h2, BW.trans (BW.alloc (BW.refl _) _) h3⟩
  rw [h3.cells _ _ (by rw [e]; omega)]
  exact cell_new _ _ _ o
set_option maxRecDepth 100000 in
set_option maxHeartbeats 4000000 in
theorem suits_any (s : Shp) (hf : isT s.f) (k n : Int) (x : ByteArray) (na : Option Addr) (nl nc : Nat) (ka : Option Addr) (kl kc : Nat) (ns : List ByteArray) (w : World) (hs : x.size ≤ 9223372036854775807) (hn : StrsAt w na nl ns) (hnc : nl ≤ nc) (hkl : kl ≤ 9223372036854775807) (ht : Tw w) :
    Calls Tryd.prog 49 #[s.v, ndv k n x na nl nc ka kl kc] w fun e w' => e = .returned (.bool (su s k n x ns kl)) ∧ BW w w' := by
  have hen := text_enters hf
  have HT : Hid (∀ w', BW w w' → Calls Tryd.prog s.f #[.string x] w' fun e w'' => e = .returned (.bool (tx s.f x)) ∧ BW w' w'') := fun w' h => text_any hf x hs w' (ht.bw h)
  have HK : Hid (∀ w', BW w w' → Calls Tryd.prog 33 #[.string x] w' fun e w'' => e = .returned (.int .i64 (tk x.data.toList)) ∧ BW w' w'') := fun w' h => takes_any x w' (ht.bw h)
  have HN : Hid (StrsAt w na nl ns) := hn
  have hln : Hid (ns.length = nl) := hn.1
  have hm : nl ≤ 9223372036854775807 := by have := hn.2.1; unfold maxLen at this; omega
  have HS : Hid (su s k n x ns kl = (tx s.f x && (decide (s.n0 ≤ n) && decide (n ≤ s.n1)) && (decide (s.a0 ≤ (nl : Int)) && decide ((nl : Int) ≤ s.a1)) && (decide (s.p0 ≤ (kl : Int)) && decide ((kl : Int) ≤ s.p1)) && !(decide (k = 11) && !decide ((kl : Int) = tk x.data.toList)) && ns.all nmB && decide ns.Nodup)) := by
    show su _ _ _ _ _ _ = _
    unfold su; rw [hln.out]
  generalize tx s.f x = bt at *
  generalize tk x.data.toList = q at *
  generalize su s k n x ns kl = R at *
  clear hn ht hf
  by_cases hbad : (bt && (decide (s.n0 ≤ n) && decide (n ≤ s.n1)) && (decide (s.a0 ≤ (nl : Int)) && decide ((nl : Int) ≤ s.a1)) && (decide (s.p0 ≤ (kl : Int)) && decide ((kl : Int) ≤ s.p1))) = true
  · simp only [Bool.and_eq_true, decide_eq_true_eq] at hbad
    obtain ⟨⟨⟨rfl, h1, h2⟩, h3, h4⟩, h5, h6⟩ := hbad
    have HS' : Hid (R = (!(decide (k = 11) && !decide ((kl : Int) = q)) && ns.all nmB && decide ns.Nodup)) := by
      show R = _
      rw [HS.out]; simp [h1, h2, h3, h4, h5, h6]
    clear HS
    have c1 : (decide (s.n0 ≤ n) && decide (n ≤ s.n1)) = true := by simp [h1, h2]
    have c2 : (decide (s.a0 ≤ (nl : Int)) && decide ((nl : Int) ≤ s.a1)) = true := by simp [h3, h4]
    have c3 : (decide (s.p0 ≤ (kl : Int)) && decide ((kl : Int) ≤ s.p1)) = true := by simp [h5, h6]
    clear h1 h2 h3 h4 h5 h6
    go_enter Tryd.func49, Tryd.ntmps49
    go_wp2_with (first
      | (go_at_fn s.f; refine (HT.out _ (by repeat (first | exact BW.refl _ | assumption | apply BW.alloc | apply BW.drewN | apply BW.drew | (refine BW.setCell ?_ (by first | omega | (simp; done) | (simp; omega)) _) | (refine BW.trans ?_ (by assumption))))).mono ?_; rintro e w1 ⟨rfl, b1⟩; obtain ⟨f0, ⟨g0, g1, g2, g3, g4⟩, gz, gb⟩ := sx_cells b1)
      | (go_at_call 55; refine (has_any _ _ _ _).mono ?_; (first | rw [c1] | rw [c2] | rw [c3]); rintro e w2 ⟨rfl, b2⟩; have b1' := BW.trans b1 b2; clear b1; have b1 := b1'; clear b1'; obtain ⟨f0, ⟨g0, g1, g2, g3, g4⟩, gz, gb⟩ := sx_cells b1))
    have HB : Hid _ := b1
    clear b1 b2
    by_cases hk11 : k = 11
    · subst hk11
      by_cases hq : q = (kl : Int)
      · subst hq
        have HS2 : Hid (R = (ns.all nmB && decide ns.Nodup)) := by
          show R = _
          rw [HS'.out]; simp
        go_region_held3 (fun w' => BW w2 w' ∧ w'.cell? ⟨w.heap.size + 1, 0, none⟩ = some (.int .u8 11) ∧ w'.cell? ⟨w.heap.size + 1, 2, none⟩ = some (.string x) ∧ w'.cell? ⟨w.heap.size + 1, 4, none⟩ = some (.slice ka kl kc)) ((refine ⟨(by repeat (first | exact BW.refl _ | assumption | apply BW.alloc | apply BW.drewN | apply BW.drew | (refine BW.setCell ?_ (by first | omega | (simp; done) | (simp; omega)) _) | (refine BW.trans ?_ (by assumption)))), ?_⟩; go_keep)) (first | (go_at_call 33; refine (HK.out _ (by repeat (first | exact BW.refl _ | assumption | apply BW.alloc | apply BW.drewN | apply BW.drew | (refine BW.setCell ?_ (by first | omega | (simp; done) | (simp; omega)) _) | (refine BW.trans ?_ (by assumption))))).mono ?_; rintro e w3 ⟨rfl, b3⟩; have z1 := fun o => b3.cells (w.heap.size + 1) o (by simp; omega)))
        have HB3 : Hid (BW (bx (sx w s) 11 n x na nl nc ka kl kc) w3) := BW.trans HB.out (BW.trans (BW.drew (BW.refl _)) b3)
        clear z1
        obtain ⟨f9, ⟨e0, e1, e2, e3, e4⟩, ez, eb⟩ := sx_cells HB3.out
        clear f9
        go_wp2_with (fail)
        go_loopw [54] (fun i w' => ∃ j : Nat, j ≤ nl ∧ Hid ((ns.take j).all nmB = true) ∧ i = .int .i64 j ∧ BW (bx (sx w s) 11 n x na nl nc ka kl kc) w') (fun i _ => nl - (intOf i).toNat)
        case atStart => exact ⟨0, Nat.zero_le _, by simp [Hid], rfl, HB3.out⟩
        case round =>
          obtain ⟨j, hj, HA, rfl, hb1⟩ := hrel
          obtain ⟨f9, ⟨e0, e1, e2, e3, e4⟩, ez, hb⟩ := sx_cells hb1
          clear f9
          by_cases hlt : j < nl
          · obtain ⟨b, off, y, rfl, hbl, hy, hys, hc⟩ := StrsAt.get HN.out hlt
            rw [← hb.cells b _ hbl] at hc
            have hys' : y.size ≤ 9223372036854775807 := by unfold maxLen at hys; omega
            have HY : Hid _ := hy
            clear hy hys
            cases hny : nmB y with
            | true =>
              have HQ : Hid ((ns.take (j + 1)).all nmB = true) := by show _ = true; rw [all_snoc nmB HY.out, HA.out, hny]; rfl
              have HNY : Hid _ := hny
              clear hny
              go_wp2_with (go_at_call 35; refine (name_any y hys' _).mono ?_; rw [HNY.out]; rintro e w4 ⟨rfl, rfl⟩)
              go_roundw
              case rel => exact ⟨j + 1, by omega, HQ, by go_num, hb1⟩
              case measure => simp [intOf]; omega
            | false =>
              have HR : Hid (R = false) := by show R = _; rw [HS2.out, all_miss nmB HY.out hny]; rfl
              have HNY : Hid _ := hny
              clear hny
              go_wp2_with (go_at_call 35; refine (name_any y hys' _).mono ?_; rw [HNY.out]; rintro e w4 ⟨rfl, rfl⟩)
              go_ret
              exact ⟨by rw [HR.out]; rfl, hb⟩
          · have hjn : nl = j := by omega
            subst hjn
            have HR : Hid (R = decide ns.Nodup) := by
              show R = _
              have := HA.out
              rw [List.take_of_length_le (by rw [hln.out]; omega)] at this
              rw [HS2.out, this]; rfl
            go_wp2_with (go_at_call 56; refine (unlike_any _ _ _ ns _ (HN.out.bw hb) hnc).mono ?_; rintro e w4 ⟨rfl, b4⟩)
            go_ret
            exact ⟨by rw [HR.out]; rfl, BW.trans hb b4⟩
      · have HR : Hid (R = false) := by
          show R = _
          rw [HS'.out]
          have : ¬ (kl : Int) = q := fun e => hq e.symm
          simp [this]
        have hq2 : ((kl : Int) == q) = false := by simpa using fun e => hq e.symm
        have hq3 : ¬ (kl : Int) = q := fun e => hq e.symm
        go_region_held3 (fun w' => BW w2 w' ∧ w'.cell? ⟨w.heap.size + 1, 0, none⟩ = some (.int .u8 11) ∧ w'.cell? ⟨w.heap.size + 1, 2, none⟩ = some (.string x) ∧ w'.cell? ⟨w.heap.size + 1, 4, none⟩ = some (.slice ka kl kc)) ((refine ⟨(by repeat (first | exact BW.refl _ | assumption | apply BW.alloc | apply BW.drewN | apply BW.drew | (refine BW.setCell ?_ (by first | omega | (simp; done) | (simp; omega)) _) | (refine BW.trans ?_ (by assumption)))), ?_⟩; go_keep)) (first | (go_at_call 33; refine (HK.out _ (by repeat (first | exact BW.refl _ | assumption | apply BW.alloc | apply BW.drewN | apply BW.drew | (refine BW.setCell ?_ (by first | omega | (simp; done) | (simp; omega)) _) | (refine BW.trans ?_ (by assumption))))).mono ?_; rintro e w3 ⟨rfl, b3⟩; have z1 := fun o => b3.cells (w.heap.size + 1) o (by simp; omega)))
        go_wp2_with (fail)
        go_ret
        exact ⟨by rw [HR.out]; rfl, (sx_cells (BW.trans HB.out (BW.trans (BW.drew (BW.refl _)) b3))).2.2.2⟩
    · have k1 : (k == 11) = false := by simpa using hk11
      have HS2 : Hid (R = (ns.all nmB && decide ns.Nodup)) := by
        show R = _
        rw [HS'.out]; simp [hk11]
      go_quiet (fail)
      have HB3 : Hid (BW (bx (sx w s) k n x na nl nc ka kl kc) (w2.drewN nq)) := BW.drewN HB.out nq
      obtain ⟨f9, ⟨e0, e1, e2, e3, e4⟩, ez, eb⟩ := sx_cells HB3.out
      clear f9
      go_wp2_with (fail)
      go_loopw [54] (fun i w' => ∃ j : Nat, j ≤ nl ∧ Hid ((ns.take j).all nmB = true) ∧ i = .int .i64 j ∧ BW (bx (sx w s) k n x na nl nc ka kl kc) w') (fun i _ => nl - (intOf i).toNat)
      case atStart => exact ⟨0, Nat.zero_le _, by simp [Hid], rfl, HB3.out⟩
      case round =>
        obtain ⟨j, hj, HA, rfl, hb1⟩ := hrel
        obtain ⟨f9, ⟨e0, e1, e2, e3, e4⟩, ez, hb⟩ := sx_cells hb1
        clear f9
        by_cases hlt : j < nl
        · obtain ⟨b, off, y, rfl, hbl, hy, hys, hc⟩ := StrsAt.get HN.out hlt
          rw [← hb.cells b _ hbl] at hc
          have hys' : y.size ≤ 9223372036854775807 := by unfold maxLen at hys; omega
          have HY : Hid _ := hy
          clear hy hys
          cases hny : nmB y with
          | true =>
            have HQ : Hid ((ns.take (j + 1)).all nmB = true) := by show _ = true; rw [all_snoc nmB HY.out, HA.out, hny]; rfl
            have HNY : Hid _ := hny
            clear hny
            go_wp2_with (go_at_call 35; refine (name_any y hys' _).mono ?_; rw [HNY.out]; rintro e w4 ⟨rfl, rfl⟩)
            go_roundw
            case rel => exact ⟨j + 1, by omega, HQ, by go_num, hb1⟩
            case measure => simp [intOf]; omega
          | false =>
            have HR : Hid (R = false) := by show R = _; rw [HS2.out, all_miss nmB HY.out hny]; rfl
            have HNY : Hid _ := hny
            clear hny
            go_wp2_with (go_at_call 35; refine (name_any y hys' _).mono ?_; rw [HNY.out]; rintro e w4 ⟨rfl, rfl⟩)
            go_ret
            exact ⟨by rw [HR.out]; rfl, hb⟩
        · have hjn : nl = j := by omega
          subst hjn
          have HR : Hid (R = decide ns.Nodup) := by
            show R = _
            have := HA.out
            rw [List.take_of_length_le (by rw [hln.out]; omega)] at this
            rw [HS2.out, this]; rfl
          go_wp2_with (go_at_call 56; refine (unlike_any _ _ _ ns _ (HN.out.bw hb) hnc).mono ?_; rintro e w4 ⟨rfl, b4⟩)
          go_ret
          exact ⟨by rw [HR.out]; rfl, BW.trans hb b4⟩
  · have HR : Hid (R = false) := by
      show R = _
      rw [HS.out]
      simp only [Bool.not_eq_true] at hbad
      rw [hbad]; simp
    have HBAD : Hid _ := hbad
    clear hbad HS
    generalize c1 : (decide (s.n0 ≤ n) && decide (n ≤ s.n1)) = d1 at *
    generalize c2 : (decide (s.a0 ≤ (nl : Int)) && decide ((nl : Int) ≤ s.a1)) = d2 at *
    generalize c3 : (decide (s.p0 ≤ (kl : Int)) && decide ((kl : Int) ≤ s.p1)) = d3 at *
    have C1 : Hid _ := c1
    have C2 : Hid _ := c2
    have C3 : Hid _ := c3
    clear c1 c2 c3
    cases bt <;> cases d1 <;> cases d2 <;> cases d3
    all_goals first
      | (exact absurd rfl HBAD.out)
      | (go_enter Tryd.func49, Tryd.ntmps49
         go_wp2_with (first
           | (go_at_fn s.f; refine (HT.out _ (by repeat (first | exact BW.refl _ | assumption | apply BW.alloc | apply BW.drewN | apply BW.drew | (refine BW.setCell ?_ (by first | omega | (simp; done) | (simp; omega)) _) | (refine BW.trans ?_ (by assumption))))).mono ?_; rintro e w1 ⟨rfl, b1⟩; obtain ⟨f0, ⟨g0, g1, g2, g3, g4⟩, gz, gb⟩ := sx_cells b1)
           | (go_at_call 55; refine (has_any _ _ _ _).mono ?_; (first | rw [C1.out] | rw [C2.out] | rw [C3.out]); rintro e w2 ⟨rfl, b2⟩; have b1' := BW.trans b1 b2; clear b1; have b1 := b1'; clear b1'; obtain ⟨f0, ⟨g0, g1, g2, g3, g4⟩, gz, gb⟩ := sx_cells b1))
         go_ret
         exact ⟨by rw [HR.out]; rfl, gb⟩)

end Go.Proofs.YtijoadkjkbkjgaaDoor
