import Derived.Test.YtogeoaanlkeciaaDoorT1
namespace Go.Proofs.YtogeoaanlkeciaaDoor
open Go.RowKit
set_option linter.unusedVariables false
set_option linter.unusedSimpArgs false

/-- Two rows, element by element. -/
def eqL {K : Type} (f : K → K → Bool) (l m : List K) : Bool := decide (l.length = m.length) && (l.zip m).all (fun p => f p.1 p.2)
theorem eqL_miss {K : Type} (f : K → K → Bool) {l m : List K} {i : Nat} {x y : K} (h : l[i]? = some x) (h' : m[i]? = some y) (hf : f x y = false) : eqL f l m = false := by
  unfold eqL
  rw [all_miss _ (zip_get h h') (by simpa using hf), Bool.and_false]
theorem eqL_all {K : Type} (f : K → K → Bool) {l m : List K} (hl : l.length = m.length) {k : Nat} (hk : l.length ≤ k) (h : ((l.zip m).take k).all (fun p => f p.1 p.2) = true) : eqL f l m = true := by
  unfold eqL
  rw [List.take_of_length_le (by simp; omega)] at h
  simp [hl, h]
theorem eqL_len {K : Type} (f : K → K → Bool) {l m : List K} (hl : ¬ l.length = m.length) : eqL f l m = false := by simp [eqL, hl]
theorem eqL_refl {K : Type} (f : K → K → Bool) (hf : ∀ x, f x x = true) (l : List K) : eqL f l l = true := by
  unfold eqL
  simp only [decide_true, Bool.true_and]
  rw [List.all_eq_true]
  rintro ⟨a, b⟩ h
  obtain ⟨i, hi⟩ := List.getElem?_of_mem h
  rw [List.getElem?_zip_eq_some] at hi
  have := hi.1.symm.trans hi.2
  cases this
  exact hf a
def eqI (a b : Int) : Bool := decide (a = b)
def eqS (a b : ByteArray) : Bool := decide (a = b)
def eqN (a b : Ins) : Bool := decide (a.op = b.op) && decide (a.a = b.a)
set_option maxRecDepth 100000 in
set_option maxHeartbeats 4000000 in
theorem eqInts_any (ao bo : Option Addr) (ln lc mn mc : Nat) (l m : List Int) (w : World) (h1 : IntsAt w ao ln l) (h2 : IntsAt w bo mn m) (hc : ln ≤ 9223372036854775807) (hd : mn ≤ 9223372036854775807) : Calls Tryd.prog 31 #[.slice ao ln lc, .slice bo mn mc] w fun e w' => e = .returned (.bool (eqL eqI l m)) ∧ BW w w' := by
  have H1 : Hid (IntsAt w ao ln l) := h1
  have H2 : Hid (IntsAt w bo mn m) := h2
  have hl : Hid (l.length = ln) := h1.1
  have hm : Hid (m.length = mn) := h2.1
  clear h1 h2
  by_cases hne : ln = mn
  · subst hne
    go_enter Tryd.func31, Tryd.ntmps31
    go_wp2_with (fail)
    go_loopw [13] (fun i w' => ∃ k : Nat, k ≤ ln ∧ Hid (((l.zip m).take k).all (fun p => eqI p.1 p.2) = true) ∧ i = .int .i64 k ∧ BW w w') (fun i _ => ln - (intOf i).toNat)
    case atStart => exact ⟨0, Nat.zero_le _, by simp [Hid], rfl, (by repeat (first | exact BW.refl _ | apply BW.alloc | apply BW.drewN | apply BW.drew))⟩
    case round =>
      obtain ⟨k, hk, HA, rfl, hb⟩ := hrel
      by_cases hlt : k < ln
      · obtain ⟨b, off, x, rfl, hbl, hx, _, hc1⟩ := IntsAt.get H1.out hlt
        obtain ⟨b', off', y, rfl, hbl', hy, _, hc2⟩ := IntsAt.get H2.out hlt
        have d1 := (hb.cells b _ hbl).trans hc1
        have d2 := (hb.cells b' _ hbl').trans hc2
        have hz := hb.size
        by_cases he : eqI x y = true
        · have HS : Hid (((l.zip m).take (k + 1)).all (fun p => eqI p.1 p.2) = true) := by
            show _ = _
            rw [all_snoc _ (zip_get hx hy), HA.out]
            simpa using he
          have e0 : x = y := by simpa [eqI] using he
          subst e0
          have e1 : (x != x) = false := by simp
          clear hx hy he HA
          go_wp2_with (fail)
          go_quiet (fail)
          go_wp2_with (fail)
          go_roundw
          case rel => exact ⟨k + 1, by omega, HS, by go_num, (by repeat (first | exact BW.refl _ | assumption | apply BW.alloc | apply BW.drewN | apply BW.drew | (refine BW.setCell ?_ (by first | omega | (simp; done) | (simp; omega)) _) | (refine BW.trans ?_ (by assumption))))⟩
          case measure => simp [intOf]; omega
        · have HS : Hid (eqL eqI l m = false) := eqL_miss eqI hx hy (by simpa using he)
          have e0 : ¬ x = y := by simpa [eqI] using he
          have e1 : (x != y) = true := by simpa using e0
          clear hx hy he HA
          go_wp2_with (fail)
          go_quiet (fail)
          go_wp2_with (fail)
          go_ret
          exact ⟨by rw [HS.out]; rfl, (by repeat (first | exact BW.refl _ | assumption | apply BW.alloc | apply BW.drewN | apply BW.drew | (refine BW.setCell ?_ (by first | omega | (simp; done) | (simp; omega)) _) | (refine BW.trans ?_ (by assumption))))⟩
      · have HS : Hid (eqL eqI l m = true) := eqL_all eqI (hl.out.trans hm.out.symm) (by have := hl.out; omega) HA.out
        obtain rfl : ln = k := by omega
        go_wp2_with (fail)
        go_ret
        exact ⟨by rw [HS.out]; rfl, (by repeat (first | exact BW.refl _ | assumption | apply BW.alloc | apply BW.drewN | apply BW.drew | (refine BW.setCell ?_ (by first | omega | (simp; done) | (simp; omega)) _) | (refine BW.trans ?_ (by assumption))))⟩
  · have HS : Hid (eqL eqI l m = false) := eqL_len eqI (by have := hl.out; have := hm.out; omega)
    have q1 : ((ln : Int) != (mn : Int)) = true := by simp; omega
    have q2 : ¬ (ln : Int) = (mn : Int) := by omega
    clear hl hm
    go_enter Tryd.func31, Tryd.ntmps31
    go_wp2_with (fail)
    go_ret
    exact ⟨by rw [HS.out]; rfl, (by repeat (first | exact BW.refl _ | assumption | apply BW.alloc | apply BW.drewN | apply BW.drew | (refine BW.setCell ?_ (by first | omega | (simp; done) | (simp; omega)) _) | (refine BW.trans ?_ (by assumption))))⟩
set_option maxRecDepth 100000 in
set_option maxHeartbeats 4000000 in
theorem eqOps_any (ao bo : Option Addr) (ln lc mn mc : Nat) (l m : List Int) (w : World) (h1 : IntsAt w ao ln l) (h2 : IntsAt w bo mn m) (hc : ln ≤ 9223372036854775807) (hd : mn ≤ 9223372036854775807) : Calls Tryd.prog 54 #[.slice ao ln lc, .slice bo mn mc] w fun e w' => e = .returned (.bool (eqL eqI l m)) ∧ BW w w' := by
  have H1 : Hid (IntsAt w ao ln l) := h1
  have H2 : Hid (IntsAt w bo mn m) := h2
  have hl : Hid (l.length = ln) := h1.1
  have hm : Hid (m.length = mn) := h2.1
  clear h1 h2
  by_cases hne : ln = mn
  · subst hne
    go_enter Tryd.func54, Tryd.ntmps54
    go_wp2_with (fail)
    go_loopw [13] (fun i w' => ∃ k : Nat, k ≤ ln ∧ Hid (((l.zip m).take k).all (fun p => eqI p.1 p.2) = true) ∧ i = .int .i64 k ∧ BW w w') (fun i _ => ln - (intOf i).toNat)
    case atStart => exact ⟨0, Nat.zero_le _, by simp [Hid], rfl, (by repeat (first | exact BW.refl _ | apply BW.alloc | apply BW.drewN | apply BW.drew))⟩
    case round =>
      obtain ⟨k, hk, HA, rfl, hb⟩ := hrel
      by_cases hlt : k < ln
      · obtain ⟨b, off, x, rfl, hbl, hx, _, hc1⟩ := IntsAt.get H1.out hlt
        obtain ⟨b', off', y, rfl, hbl', hy, _, hc2⟩ := IntsAt.get H2.out hlt
        have d1 := (hb.cells b _ hbl).trans hc1
        have d2 := (hb.cells b' _ hbl').trans hc2
        have hz := hb.size
        by_cases he : eqI x y = true
        · have HS : Hid (((l.zip m).take (k + 1)).all (fun p => eqI p.1 p.2) = true) := by
            show _ = _
            rw [all_snoc _ (zip_get hx hy), HA.out]
            simpa using he
          have e0 : x = y := by simpa [eqI] using he
          subst e0
          have e1 : (x != x) = false := by simp
          clear hx hy he HA
          go_wp2_with (fail)
          go_quiet (fail)
          go_wp2_with (fail)
          go_roundw
          case rel => exact ⟨k + 1, by omega, HS, by go_num, (by repeat (first | exact BW.refl _ | assumption | apply BW.alloc | apply BW.drewN | apply BW.drew | (refine BW.setCell ?_ (by first | omega | (simp; done) | (simp; omega)) _) | (refine BW.trans ?_ (by assumption))))⟩
          case measure => simp [intOf]; omega
        · have HS : Hid (eqL eqI l m = false) := eqL_miss eqI hx hy (by simpa using he)
          have e0 : ¬ x = y := by simpa [eqI] using he
          have e1 : (x != y) = true := by simpa using e0
          clear hx hy he HA
          go_wp2_with (fail)
          go_quiet (fail)
          go_wp2_with (fail)
          go_ret
          exact ⟨by rw [HS.out]; rfl, (by repeat (first | exact BW.refl _ | assumption | apply BW.alloc | apply BW.drewN | apply BW.drew | (refine BW.setCell ?_ (by first | omega | (simp; done) | (simp; omega)) _) | (refine BW.trans ?_ (by assumption))))⟩
      · have HS : Hid (eqL eqI l m = true) := eqL_all eqI (hl.out.trans hm.out.symm) (by have := hl.out; omega) HA.out
        obtain rfl : ln = k := by omega
        go_wp2_with (fail)
        go_ret
        exact ⟨by rw [HS.out]; rfl, (by repeat (first | exact BW.refl _ | assumption | apply BW.alloc | apply BW.drewN | apply BW.drew | (refine BW.setCell ?_ (by first | omega | (simp; done) | (simp; omega)) _) | (refine BW.trans ?_ (by assumption))))⟩
  · have HS : Hid (eqL eqI l m = false) := eqL_len eqI (by have := hl.out; have := hm.out; omega)
    have q1 : ((ln : Int) != (mn : Int)) = true := by simp; omega
    have q2 : ¬ (ln : Int) = (mn : Int) := by omega
    clear hl hm
    go_enter Tryd.func54, Tryd.ntmps54
    go_wp2_with (fail)
    go_ret
    exact ⟨by rw [HS.out]; rfl, (by repeat (first | exact BW.refl _ | assumption | apply BW.alloc | apply BW.drewN | apply BW.drew | (refine BW.setCell ?_ (by first | omega | (simp; done) | (simp; omega)) _) | (refine BW.trans ?_ (by assumption))))⟩
set_option maxRecDepth 100000 in
set_option maxHeartbeats 4000000 in
theorem eqStrs_any (ao bo : Option Addr) (ln lc mn mc : Nat) (l m : List ByteArray) (w : World) (h1 : StrsAt w ao ln l) (h2 : StrsAt w bo mn m) (hc : ln ≤ 9223372036854775807) (hd : mn ≤ 9223372036854775807) : Calls Tryd.prog 32 #[.slice ao ln lc, .slice bo mn mc] w fun e w' => e = .returned (.bool (eqL eqS l m)) ∧ BW w w' := by
  have H1 : Hid (StrsAt w ao ln l) := h1
  have H2 : Hid (StrsAt w bo mn m) := h2
  have hl : Hid (l.length = ln) := h1.1
  have hm : Hid (m.length = mn) := h2.1
  clear h1 h2
  by_cases hne : ln = mn
  · subst hne
    go_enter Tryd.func32, Tryd.ntmps32
    go_wp2_with (fail)
    go_loopw [13] (fun i w' => ∃ k : Nat, k ≤ ln ∧ Hid (((l.zip m).take k).all (fun p => eqS p.1 p.2) = true) ∧ i = .int .i64 k ∧ BW w w') (fun i _ => ln - (intOf i).toNat)
    case atStart => exact ⟨0, Nat.zero_le _, by simp [Hid], rfl, (by repeat (first | exact BW.refl _ | apply BW.alloc | apply BW.drewN | apply BW.drew))⟩
    case round =>
      obtain ⟨k, hk, HA, rfl, hb⟩ := hrel
      by_cases hlt : k < ln
      · obtain ⟨b, off, x, rfl, hbl, hx, _, hc1⟩ := StrsAt.get H1.out hlt
        obtain ⟨b', off', y, rfl, hbl', hy, _, hc2⟩ := StrsAt.get H2.out hlt
        have d1 := (hb.cells b _ hbl).trans hc1
        have d2 := (hb.cells b' _ hbl').trans hc2
        have hz := hb.size
        by_cases he : eqS x y = true
        · have HS : Hid (((l.zip m).take (k + 1)).all (fun p => eqS p.1 p.2) = true) := by
            show _ = _
            rw [all_snoc _ (zip_get hx hy), HA.out]
            simpa using he
          have e0 : x = y := by simpa [eqS] using he
          subst e0
          have e1 : (x.toList != x.toList) = false := by simp
          clear hx hy he HA
          go_wp2_with (fail)
          go_quiet (fail)
          go_wp2_with (fail)
          go_roundw
          case rel => exact ⟨k + 1, by omega, HS, by go_num, (by repeat (first | exact BW.refl _ | assumption | apply BW.alloc | apply BW.drewN | apply BW.drew | (refine BW.setCell ?_ (by first | omega | (simp; done) | (simp; omega)) _) | (refine BW.trans ?_ (by assumption))))⟩
          case measure => simp [intOf]; omega
        · have HS : Hid (eqL eqS l m = false) := eqL_miss eqS hx hy (by simpa using he)
          have e0 : ¬ x = y := by simpa [eqS] using he
          have e2 : ¬ x.toList = y.toList := fun e => e0 ((bytes_eq' x y).1 e)
          have e3 : (x.toList == y.toList) = false := by simpa using e2
          have e1 : (x.toList != y.toList) = true := by simpa using e2
          clear hx hy he HA
          go_wp2_with (fail)
          go_quiet (fail)
          go_wp2_with (fail)
          go_ret
          exact ⟨by rw [HS.out]; rfl, (by repeat (first | exact BW.refl _ | assumption | apply BW.alloc | apply BW.drewN | apply BW.drew | (refine BW.setCell ?_ (by first | omega | (simp; done) | (simp; omega)) _) | (refine BW.trans ?_ (by assumption))))⟩
      · have HS : Hid (eqL eqS l m = true) := eqL_all eqS (hl.out.trans hm.out.symm) (by have := hl.out; omega) HA.out
        obtain rfl : ln = k := by omega
        go_wp2_with (fail)
        go_ret
        exact ⟨by rw [HS.out]; rfl, (by repeat (first | exact BW.refl _ | assumption | apply BW.alloc | apply BW.drewN | apply BW.drew | (refine BW.setCell ?_ (by first | omega | (simp; done) | (simp; omega)) _) | (refine BW.trans ?_ (by assumption))))⟩
  · have HS : Hid (eqL eqS l m = false) := eqL_len eqS (by have := hl.out; have := hm.out; omega)
    have q1 : ((ln : Int) != (mn : Int)) = true := by simp; omega
    have q2 : ¬ (ln : Int) = (mn : Int) := by omega
    clear hl hm
    go_enter Tryd.func32, Tryd.ntmps32
    go_wp2_with (fail)
    go_ret
    exact ⟨by rw [HS.out]; rfl, (by repeat (first | exact BW.refl _ | assumption | apply BW.alloc | apply BW.drewN | apply BW.drew | (refine BW.setCell ?_ (by first | omega | (simp; done) | (simp; omega)) _) | (refine BW.trans ?_ (by assumption))))⟩

end Go.Proofs.YtogeoaanlkeciaaDoor
