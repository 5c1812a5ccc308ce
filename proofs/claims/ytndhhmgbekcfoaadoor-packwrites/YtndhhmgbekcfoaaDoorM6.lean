import Derived.Test.YtndhhmgbekcfoaaDoorM5
namespace Go.Proofs.YtndhhmgbekcfoaaDoor
open Go.RowKit
set_option linter.unusedVariables false
set_option linter.unusedSimpArgs false

theorem unl_take : ∀ (n : Nat) (l : List ByteArray), l.length = n → ∀ k, unl l = true → unl (l.take k) = true := by
  intro n
  induction n with
  | zero =>
    intro l h k _
    have : l = [] := List.length_eq_zero_iff.1 h
    subst this
    simp [unl]
  | succ n ih =>
    intro l h k hu
    obtain ⟨r, x, rfl⟩ : ∃ r x, l = r ++ [x] := by
      rcases List.eq_nil_or_concat l with h0 | ⟨r, x, h0⟩
      · subst h0; simp at h
      · exact ⟨r, x, by simpa using h0⟩
    rw [unl_snoc, Bool.and_eq_true] at hu
    by_cases hk : k ≤ r.length
    · rw [List.take_append_of_le_length hk]
      exact ih r (by simpa using h) k hu.1
    · rw [List.take_of_length_le (by simp; omega), unl_snoc, Bool.and_eq_true]
      exact hu
theorem bxMT_at {w w' : World} {r : Mw} {x : Tbl} {oa : Option Addr} {ol oc : Nat} (h : BW (bxT (bxM w r) x oa ol oc) w') : MdK w' w.heap.size r ∧ TbK w' (w.heap.size + 1) 0 x oa ol oc ∧ w.heap.size + 1 < w'.heap.size ∧ BW w w' := by
  obtain ⟨h4, h5, h6⟩ := bxT_at h
  obtain ⟨h7, h8, h9⟩ := bxM_at h6
  have e : (bxM w r).heap.size = w.heap.size + 1 := by simp
  rw [e] at h4 h5
  exact ⟨h7, h4, h5, h9⟩
set_option maxRecDepth 100000 in
set_option maxHeartbeats 4000000 in
theorem refTable_any (r : Mw) (m : Mdl) (t : Tbl) (oa : Option Addr) (ol oc : Nat) (w : World) (h : ModAt w r m) (ht : TbV w t oa ol oc) : Calls Tryd.prog 18 #[r.v, tbv oa ol oc t.ret t.fin] w fun e w' => e = .returned (.bool (tbB m t)) ∧ BW w w' := by
  obtain ⟨_, l2, _, _, _, b2, _, _⟩ := h.lens
  have HM : Hid (ModAt w r m) := h
  have HO : Hid (IntsAt w oa ol t.ops) := ht.2.2.2
  have hol : t.ops.length = ol := ht.2.2.2.1
  have hob := ht.2.2.1
  by_cases c1 : 200 < ol
  · have e1 : decide ((200 : Int) < (ol : Int)) = true := by simp; omega
    have HR : Hid (tbB m t = false) := by
      show _ = _
      have : ¬ t.ops.length ≤ 200 := by omega
      simp [tbB, this]
    clear h ht l2 hol c1
    go_enter Tryd.func18, Tryd.ntmps18
    go_wp2_with (fail)
    go_ret
    exact ⟨by rw [HR.out]; rfl, (by repeat (first | exact BW.refl _ | assumption | apply BW.alloc | apply BW.drewN | apply BW.drew | (refine BW.setCell ?_ (by first | omega | (simp; done) | (simp; omega)) _) | (refine BW.trans ?_ (by assumption))))⟩
  · have e1 : decide ((200 : Int) < (ol : Int)) = false := by simp; omega
    have hol2 : ol ≤ 200 := by omega
    have L : Hid (m.texts.length = r.tl ∧ t.ops.length = ol) := ⟨l2, hol⟩
    clear h ht l2 hol c1
    obtain ⟨ia, il, ic, ta, tl, tc, pa, pl, pc, ha, hl, hc⟩ := r
    dsimp only at b2
    go_enter Tryd.func18, Tryd.ntmps18
    go_wp2_with (fail)
    go_loopw [14] (fun i w' => ∃ k : Nat, k ≤ ol ∧ i = .int .i64 k ∧ Hid ((t.ops.take k).all (fun o => inR o m.texts.length) = true ∧ unl ((t.ops.take k).map (tx m)) = true) ∧ BW (bxT (bxM w ⟨ia, il, ic, ta, tl, tc, pa, pl, pc, ha, hl, hc⟩) t oa ol oc) w') (fun i _ => ol - (intOf i).toNat)
    case atStart => exact ⟨0, Nat.zero_le _, rfl, by simp [Hid, unl], (by repeat (first | exact BW.refl _ | apply BW.alloc | apply BW.drewN | apply BW.drew))⟩
    case round =>
      obtain ⟨k, hk, rfl, HA, hb1⟩ := hrel
      obtain ⟨⟨g0, g1, g2, g3⟩, ⟨f0, f1, f2⟩, gz, hb⟩ := bxMT_at hb1
      dsimp only at g0 g1 g2 g3
      by_cases hlt : k < ol
      · obtain ⟨b, off, o, rfl, hbl, hx, hoi, hc0⟩ := IntsAt.get HO.out hlt
        have d0 := (hb.cells b (off + k) hbl).trans hc0
        cases hr : inR o (tl : Int) with
        | false =>
          have HS : Hid (t.ops.all (fun o => inR o m.texts.length) = false) := all_miss _ hx (by rw [L.out.1]; exact hr)
          clear hx HA
          go_wp2_with (fail)
          go_quiet ((go_at_call 49; exact Calls.quiet_of_same (place_any _ _ _)))
          go_wp2_with (fail)
          go_ret
          exact ⟨by unfold tbB; rw [HS.out]; simp, BW.trans hb (by repeat (first | exact BW.refl _ | assumption | apply BW.alloc | apply BW.drewN | apply BW.drew | (refine BW.setCell ?_ (by first | omega | (simp; done) | (simp; omega)) _) | (refine BW.trans ?_ (by assumption))))⟩
        | true =>
          have hr2 := hr
          simp only [inR, Bool.and_eq_true, decide_eq_true_eq] at hr2
          obtain ⟨q, rfl⟩ : ∃ q : Nat, o = (q : Int) := ⟨o.toNat, by omega⟩
          have hq : q < tl := by omega
          obtain ⟨b5, of5, s, rfl, hbl5, hs, hsz, hc5⟩ := StrsAt.get HM.out.texts hq
          have HTX : Hid (∀ (p : Nat) (z : ByteArray), m.texts[p]? = some z → tx m (p : Int) = z) := fun p z hz => by unfold tx; simp only [Int.toNat_natCast, List.getD]; rw [hz]; rfl
          have HS : Hid ((t.ops.take (k + 1)).all (fun o => inR o m.texts.length) = true) := by show _ = _; rw [all_snoc _ hx, HA.out.1, L.out.1, hr]; rfl
          have HT : Hid ((t.ops.take (k + 1)).map (tx m) = (t.ops.take k).map (tx m) ++ [s]) := by show _ = _; rw [List.take_add_one, hx]; simp [HTX.out q s hs]
          have hkw : (k : Int) + 1 ≤ 9223372036854775807 := by omega
          clear hx hs hsz
          go_wp2_with (fail)
          go_quiet ((go_at_call 49; exact Calls.quiet_of_same (place_any _ _ _)))
          go_wp2_with (fail)
          go_loopw [6] (fun i w' => ∃ j : Nat, j ≤ k ∧ i = .int .i64 j ∧ Hid ((((t.ops.take k).map (tx m)).take j).any (fun y => decide (y = s)) = false) ∧ BW wr w') (fun i _ => k - (intOf i).toNat)
          case atStart => exact ⟨0, Nat.zero_le _, rfl, by simp [Hid], (by repeat (first | exact BW.refl _ | apply BW.alloc | apply BW.drewN | apply BW.drew))⟩
          case round =>
            rename_i wq _
            obtain ⟨j, hj, rfl, HB, hbq⟩ := hrel
            have hbw := BW.trans hb hbq
            have g0' := (hbq.cells w.heap.size 0 (by omega)).trans g0
            have g1' := (hbq.cells w.heap.size 1 (by omega)).trans g1
            have g2' := (hbq.cells w.heap.size 2 (by omega)).trans g2
            have g3' := (hbq.cells w.heap.size 3 (by omega)).trans g3
            have f0' := (hbq.cells (w.heap.size + 1) 0 (by omega)).trans f0
            have f1' := (hbq.cells (w.heap.size + 1) (0 + 1) (by omega)).trans f1
            have f2' := (hbq.cells (w.heap.size + 1) (0 + 2) (by omega)).trans f2
            by_cases hlt2 : j < k
            · obtain ⟨b6, of6, o', e6, hbl6, hx6, _, hc6⟩ := IntsAt.get HO.out (show j < ol by omega)
              simp only [Option.some.injEq, Addr.mk.injEq, and_true] at e6
              obtain ⟨rfl, rfl⟩ := e6
              have d6 := (hbw.cells b (off + j) hbl).trans hc6
              have d0' := (hbw.cells b (off + k) hbl).trans hc0
              have hin : inR o' (tl : Int) = true := by
                have h1 := List.all_eq_true.1 HA.out.1 o' (List.mem_of_getElem? (i := j) (by rw [List.getElem?_take_of_lt hlt2]; exact hx6))
                rw [L.out.1] at h1
                exact h1
              simp only [inR, Bool.and_eq_true, decide_eq_true_eq] at hin
              obtain ⟨q', rfl⟩ : ∃ q' : Nat, o' = (q' : Int) := ⟨o'.toNat, by omega⟩
              have hq' : q' < tl := by omega
              obtain ⟨b7, of7, s', e7, hbl7, hs', _, hc7⟩ := StrsAt.get HM.out.texts hq'
              simp only [Option.some.injEq, Addr.mk.injEq, and_true] at e7
              obtain ⟨rfl, rfl⟩ := e7
              have d7 := (hbw.cells b5 (of5 + q') hbl5).trans hc7
              have d5 := (hbw.cells b5 (of5 + q) hbl5).trans hc5
              have hg : ((t.ops.take k).map (tx m))[j]? = some s' := by
                rw [List.getElem?_map, List.getElem?_take_of_lt hlt2, hx6]
                simp [HTX.out q' s' hs']
              clear hx6 hs'
              by_cases he : s' = s
              · subst he
                have HR : Hid (tbB m t = false) := by
                  show _ = _
                  cases hh : tbB m t with
                  | false => rfl
                  | true =>
                    unfold tbB at hh
                    rw [Bool.and_eq_true, Bool.and_eq_true] at hh
                    have h3 := unl_take _ _ rfl (k + 1) hh.2
                    rw [← List.map_take, HT.out, unl_snoc, any_hit _ hg (by simp)] at h3
                    simp at h3
                have e7 : (s'.toList == s'.toList) = true := by simp
                clear hg HA HB HTX
                go_wp2_with (fail)
                go_quiet (fail)
                go_wp2_with (fail)
                go_ret
                exact ⟨by rw [HR.out]; rfl, BW.trans hbw (by repeat (first | exact BW.refl _ | assumption | apply BW.alloc | apply BW.drewN | apply BW.drew | (refine BW.setCell ?_ (by first | omega | (simp; done) | (simp; omega)) _) | (refine BW.trans ?_ (by assumption))))⟩
              · have HN : Hid ((((t.ops.take k).map (tx m)).take (j + 1)).any (fun y => decide (y = s)) = false) := by show _ = _; rw [any_snoc _ hg, HB.out]; simpa using he
                have e8 : ¬ s.toList = s'.toList := fun e => he ((bytes_eq' s s').1 e).symm
                have e7 : (s.toList == s'.toList) = false := by simpa using e8
                clear hg HA HB HTX he
                go_wp2_with (fail)
                go_quiet (fail)
                go_wp2_with (fail)
                go_roundw
                case rel => exact ⟨j + 1, by omega, by go_num, HN, (by repeat (first | exact BW.refl _ | assumption | apply BW.alloc | apply BW.drewN | apply BW.drew | (refine BW.setCell ?_ (by first | omega | (simp; done) | (simp; omega)) _) | (refine BW.trans ?_ (by assumption))))⟩
                case measure => simp [intOf]; omega
            · have e9 : j = k := by omega
              subst e9
              have HU : Hid (unl ((t.ops.take (j + 1)).map (tx m)) = true) := by
                show _ = _
                have := HB.out
                rw [List.take_of_length_le (by simp; omega)] at this
                rw [HT.out, unl_snoc, HA.out.2, this]
                rfl
              clear HA HB HTX
              go_wp2_with (fail)
              go_roundw
              case rel => exact ⟨j + 1, by omega, by go_num, ⟨HS.out, HU.out⟩, BW.trans hb1 hbq⟩
              case measure => simp [intOf]; omega
      · obtain rfl : ol = k := by omega
        have HR : Hid (tbB m t = true) := by
          show _ = _
          obtain ⟨h1, h2⟩ := HA.out
          rw [List.take_of_length_le (by rw [L.out.2]; omega)] at h1 h2
          have h200 : t.ops.length ≤ 200 := by have := L.out.2; omega
          simp [tbB, h200, h1, h2]
        go_wp2_with (fail)
        go_ret
        exact ⟨by rw [HR.out]; rfl, BW.trans hb (by repeat (first | exact BW.refl _ | assumption | apply BW.alloc | apply BW.drewN | apply BW.drew | (refine BW.setCell ?_ (by first | omega | (simp; done) | (simp; omega)) _) | (refine BW.trans ?_ (by assumption))))⟩

end Go.Proofs.YtndhhmgbekcfoaaDoor
