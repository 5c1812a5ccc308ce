import Derived.Test.YtogeoaanlkeciaaDoorS3
namespace Go.Proofs.YtogeoaanlkeciaaDoor
open Go.RowKit
set_option linter.unusedVariables false
set_option linter.unusedSimpArgs false

set_option maxRecDepth 100000 in
set_option maxHeartbeats 4000000 in
theorem eqPros_any (ao bo : Option Addr) (ln lc mn mc : Nat) (l m : List Pro) (w : World) (h1 : ProsAt w ao ln l) (h2 : ProsAt w bo mn m) (hc : ln ≤ 9223372036854775807) (hd : mn ≤ 9223372036854775807) : Calls Tryd.prog 33 #[.slice ao ln lc, .slice bo mn mc, .func (.func 34) #[] #[]] w fun e w' => e = .returned (.bool (eqL smP l m)) ∧ BW w w' := by
  have H1 : Hid (ProsAt w ao ln l) := h1
  have H2 : Hid (ProsAt w bo mn m) := h2
  have hl : Hid (l.length = ln) := h1.1
  have hm : Hid (m.length = mn) := h2.1
  clear h1 h2
  by_cases hne : ln = mn
  · subst hne
    go_enter Tryd.func33, Tryd.ntmps33
    go_wp2_with (fail)
    go_loopw [17] (fun i w' => ∃ k : Nat, k ≤ ln ∧ Hid (((l.zip m).take k).all (fun p => smP p.1 p.2) = true) ∧ i = .int .i64 k ∧ BW w w') (fun i _ => ln - (intOf i).toNat)
    case atStart => exact ⟨0, Nat.zero_le _, by simp [Hid], rfl, (by repeat (first | exact BW.refl _ | apply BW.alloc | apply BW.drewN | apply BW.drew))⟩
    case round =>
      obtain ⟨k, hk, HA, rfl, hb⟩ := hrel
      by_cases hlt : k < ln
      · obtain ⟨b, off, x, rfl, hbl, hx, ca, cl, cc, hc1, hv1⟩ := RowAt.get H1.out hlt
        obtain ⟨b', off', y, rfl, hbl', hy, cb, dl, dc, hc2, hv2⟩ := RowAt.get H2.out hlt
        obtain ⟨d0,d1,d2,d3⟩ := hc1.bw hb hbl
        obtain ⟨f0,f1,f2,f3⟩ := hc2.bw hb hbl'
        have hz := hb.size
        have hbw : b < wr.heap.size := by omega
        have hbw' : b' < wr.heap.size := by omega
        have HC : Hid (∀ w', BW wr w' → Calls Tryd.prog 34 #[prv x.p x.s x.u ca cl cc, prv y.p y.s y.u cb dl dc] w' fun e w'' => e = .returned (.bool (smP x y)) ∧ BW w' w'') := fun w' k => sameProto_any x y ca cb cl cc dl dc w' (hv1.bw (BW.trans hb k)) (hv2.bw (BW.trans hb k))
        by_cases he : smP x y = true
        · have HS : Hid (((l.zip m).take (k + 1)).all (fun p => smP p.1 p.2) = true) := by
            show _ = _
            rw [all_snoc _ (zip_get hx hy), HA.out]
            simpa using he
          rw [he] at HC
          clear hx hy he HA hv1 hv2 hc1 hc2
          go_wp2_with (first
            | (go_at_call 34; refine (HC.out _ (by repeat (first | exact BW.refl _ | assumption | apply BW.alloc | apply BW.drewN | apply BW.drew | (refine BW.setCell ?_ (by first | omega | (simp; done) | (simp; omega)) _) | (refine BW.trans ?_ (by assumption))))).mono ?_; rintro e w1 ⟨rfl, b1⟩))
          go_roundw
          case rel => exact ⟨k + 1, by omega, HS, by go_num, (by repeat (first | exact BW.refl _ | assumption | apply BW.alloc | apply BW.drewN | apply BW.drew | (refine BW.setCell ?_ (by first | omega | (simp; done) | (simp; omega)) _) | (refine BW.trans ?_ (by assumption))))⟩
          case measure => simp [intOf]; omega
        · have HS : Hid (eqL smP l m = false) := eqL_miss smP hx hy (by simpa using he)
          have he2 : smP x y = false := by simpa using he
          rw [he2] at HC
          clear hx hy he he2 HA hv1 hv2 hc1 hc2
          go_wp2_with (first
            | (go_at_call 34; refine (HC.out _ (by repeat (first | exact BW.refl _ | assumption | apply BW.alloc | apply BW.drewN | apply BW.drew | (refine BW.setCell ?_ (by first | omega | (simp; done) | (simp; omega)) _) | (refine BW.trans ?_ (by assumption))))).mono ?_; rintro e w1 ⟨rfl, b1⟩))
          go_ret
          exact ⟨by rw [HS.out]; rfl, (by repeat (first | exact BW.refl _ | assumption | apply BW.alloc | apply BW.drewN | apply BW.drew | (refine BW.setCell ?_ (by first | omega | (simp; done) | (simp; omega)) _) | (refine BW.trans ?_ (by assumption))))⟩
      · have HS : Hid (eqL smP l m = true) := eqL_all smP (hl.out.trans hm.out.symm) (by have := hl.out; omega) HA.out
        obtain rfl : ln = k := by omega
        go_wp2_with (fail)
        go_ret
        exact ⟨by rw [HS.out]; rfl, (by repeat (first | exact BW.refl _ | assumption | apply BW.alloc | apply BW.drewN | apply BW.drew | (refine BW.setCell ?_ (by first | omega | (simp; done) | (simp; omega)) _) | (refine BW.trans ?_ (by assumption))))⟩
  · have HS : Hid (eqL smP l m = false) := eqL_len smP (by have := hl.out; have := hm.out; omega)
    have q1 : ((ln : Int) != (mn : Int)) = true := by simp; omega
    have q2 : ¬ (ln : Int) = (mn : Int) := by omega
    clear hl hm
    go_enter Tryd.func33, Tryd.ntmps33
    go_wp2_with (fail)
    go_ret
    exact ⟨by rw [HS.out]; rfl, (by repeat (first | exact BW.refl _ | assumption | apply BW.alloc | apply BW.drewN | apply BW.drew | (refine BW.setCell ?_ (by first | omega | (simp; done) | (simp; omega)) _) | (refine BW.trans ?_ (by assumption))))⟩
set_option maxRecDepth 100000 in
set_option maxHeartbeats 4000000 in
theorem eqTabs_any (ao bo : Option Addr) (ln lc mn mc : Nat) (l m : List Tbl) (w : World) (h1 : TbsAt w ao ln l) (h2 : TbsAt w bo mn m) (hc : ln ≤ 9223372036854775807) (hd : mn ≤ 9223372036854775807) : Calls Tryd.prog 35 #[.slice ao ln lc, .slice bo mn mc, .func (.func 36) #[] #[]] w fun e w' => e = .returned (.bool (eqL smT l m)) ∧ BW w w' := by
  have H1 : Hid (TbsAt w ao ln l) := h1
  have H2 : Hid (TbsAt w bo mn m) := h2
  have hl : Hid (l.length = ln) := h1.1
  have hm : Hid (m.length = mn) := h2.1
  clear h1 h2
  by_cases hne : ln = mn
  · subst hne
    go_enter Tryd.func35, Tryd.ntmps35
    go_wp2_with (fail)
    go_loopw [17] (fun i w' => ∃ k : Nat, k ≤ ln ∧ Hid (((l.zip m).take k).all (fun p => smT p.1 p.2) = true) ∧ i = .int .i64 k ∧ BW w w') (fun i _ => ln - (intOf i).toNat)
    case atStart => exact ⟨0, Nat.zero_le _, by simp [Hid], rfl, (by repeat (first | exact BW.refl _ | apply BW.alloc | apply BW.drewN | apply BW.drew))⟩
    case round =>
      obtain ⟨k, hk, HA, rfl, hb⟩ := hrel
      by_cases hlt : k < ln
      · obtain ⟨b, off, x, rfl, hbl, hx, ca, cl, cc, hc1, hv1⟩ := RowAt.get H1.out hlt
        obtain ⟨b', off', y, rfl, hbl', hy, cb, dl, dc, hc2, hv2⟩ := RowAt.get H2.out hlt
        obtain ⟨d0,d1,d2⟩ := hc1.bw hb hbl
        obtain ⟨f0,f1,f2⟩ := hc2.bw hb hbl'
        have hz := hb.size
        have hbw : b < wr.heap.size := by omega
        have hbw' : b' < wr.heap.size := by omega
        have HC : Hid (∀ w', BW wr w' → Calls Tryd.prog 36 #[tbv ca cl cc x.ret x.fin, tbv cb dl dc y.ret y.fin] w' fun e w'' => e = .returned (.bool (smT x y)) ∧ BW w' w'') := fun w' k => sameTable_any x y ca cb cl cc dl dc w' (hv1.bw (BW.trans hb k)) (hv2.bw (BW.trans hb k))
        by_cases he : smT x y = true
        · have HS : Hid (((l.zip m).take (k + 1)).all (fun p => smT p.1 p.2) = true) := by
            show _ = _
            rw [all_snoc _ (zip_get hx hy), HA.out]
            simpa using he
          rw [he] at HC
          clear hx hy he HA hv1 hv2 hc1 hc2
          go_wp2_with (first
            | (go_at_call 36; refine (HC.out _ (by repeat (first | exact BW.refl _ | assumption | apply BW.alloc | apply BW.drewN | apply BW.drew | (refine BW.setCell ?_ (by first | omega | (simp; done) | (simp; omega)) _) | (refine BW.trans ?_ (by assumption))))).mono ?_; rintro e w1 ⟨rfl, b1⟩))
          go_roundw
          case rel => exact ⟨k + 1, by omega, HS, by go_num, (by repeat (first | exact BW.refl _ | assumption | apply BW.alloc | apply BW.drewN | apply BW.drew | (refine BW.setCell ?_ (by first | omega | (simp; done) | (simp; omega)) _) | (refine BW.trans ?_ (by assumption))))⟩
          case measure => simp [intOf]; omega
        · have HS : Hid (eqL smT l m = false) := eqL_miss smT hx hy (by simpa using he)
          have he2 : smT x y = false := by simpa using he
          rw [he2] at HC
          clear hx hy he he2 HA hv1 hv2 hc1 hc2
          go_wp2_with (first
            | (go_at_call 36; refine (HC.out _ (by repeat (first | exact BW.refl _ | assumption | apply BW.alloc | apply BW.drewN | apply BW.drew | (refine BW.setCell ?_ (by first | omega | (simp; done) | (simp; omega)) _) | (refine BW.trans ?_ (by assumption))))).mono ?_; rintro e w1 ⟨rfl, b1⟩))
          go_ret
          exact ⟨by rw [HS.out]; rfl, (by repeat (first | exact BW.refl _ | assumption | apply BW.alloc | apply BW.drewN | apply BW.drew | (refine BW.setCell ?_ (by first | omega | (simp; done) | (simp; omega)) _) | (refine BW.trans ?_ (by assumption))))⟩
      · have HS : Hid (eqL smT l m = true) := eqL_all smT (hl.out.trans hm.out.symm) (by have := hl.out; omega) HA.out
        obtain rfl : ln = k := by omega
        go_wp2_with (fail)
        go_ret
        exact ⟨by rw [HS.out]; rfl, (by repeat (first | exact BW.refl _ | assumption | apply BW.alloc | apply BW.drewN | apply BW.drew | (refine BW.setCell ?_ (by first | omega | (simp; done) | (simp; omega)) _) | (refine BW.trans ?_ (by assumption))))⟩
  · have HS : Hid (eqL smT l m = false) := eqL_len smT (by have := hl.out; have := hm.out; omega)
    have q1 : ((ln : Int) != (mn : Int)) = true := by simp; omega
    have q2 : ¬ (ln : Int) = (mn : Int) := by omega
    clear hl hm
    go_enter Tryd.func35, Tryd.ntmps35
    go_wp2_with (fail)
    go_ret
    exact ⟨by rw [HS.out]; rfl, (by repeat (first | exact BW.refl _ | assumption | apply BW.alloc | apply BW.drewN | apply BW.drew | (refine BW.setCell ?_ (by first | omega | (simp; done) | (simp; omega)) _) | (refine BW.trans ?_ (by assumption))))⟩

end Go.Proofs.YtogeoaanlkeciaaDoor
