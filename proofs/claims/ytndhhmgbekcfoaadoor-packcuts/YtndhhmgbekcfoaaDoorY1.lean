import Derived.Test.YtndhhmgbekcfoaaDoorX3
import Derived.Test.YtndhhmgbekcfoaaDoorU1
namespace Go.Proofs.YtndhhmgbekcfoaaDoor
open Go.RowKit
set_option linter.unusedVariables false
set_option linter.unusedSimpArgs false

theorem bf_none (w : World) : Bf w (w.alloc (.cells #[] 5)) (.slice (some ⟨w.heap.size, 0, none⟩) 0 0) [] :=
  ⟨BW.alloc (BW.refl _) _, by simp [bs], .inr ⟨w.heap.size, 0, #[], rfl, Nat.le_refl _, heap_alloc_new w _, Nat.le_refl _, Nat.zero_le _, rfl, rfl⟩⟩
theorem by_get {w : World} {g : Nat} {l : List Nat} (h : ByAt w g 0 l) (j : Nat) (u : Value) (hu : (bs l)[j]? = some u) : w.cell? ((⟨g, 0, none⟩ : Addr).add j) = some u := by
  have hj : j < l.length := by have := (List.getElem?_eq_some_iff.1 hu).1; rwa [bs_len] at this
  rw [Addr.add_mid, h j hj, ← hu]
  simp [bs, List.getD, List.getElem?_eq_getElem hj]
set_option maxRecDepth 100000 in
set_option maxHeartbeats 4000000 in
theorem packCuts_any (r : Mw) (m : Mdl) (cut more : Int) (w : World) (h : ModAt w r m) (hcut : I64 cut) (hmore : 0 ≤ more ∧ more ≤ 255) (hv : Vs w) : Calls Tryd.prog 5 #[r.v, .int .i64 cut, .int .u8 more] w fun e w' => e = .returned (.bool true) ∧ BW w w' := by
  obtain ⟨kx, rfl⟩ : ∃ k : Nat, more = (k : Int) := ⟨more.toNat, by omega⟩
  have HG : Hid (∀ w', BW w w' → Calls Tryd.prog 8 #[r.v] w' fun e w'' => e = .returned (.bool (gr m)) ∧ BW w' w'') := fun w' k => great_any r m w' (h.bw k)
  have HN : Hid (∀ w', BW w w' → Calls Tryd.prog 11 #[r.v] w' fun e w'' => e = .returned (.bool (mayB m)) ∧ BW w' w'') := fun w' k => refMay_any r m w' (h.bw k) (hv.bw k)
  have HA : Hid (∀ w', BW w w' → Calls Tryd.prog 9 #[] w' fun e w'' => e = .returned (.bool true) ∧ BW w' w'') := fun w' k => awake_any w' (hv.bw k)
  have HGet : Hid (∀ x ao c l, BW w x → BysAt x ao c l → Calls Tryd.prog 12 #[.slice ao l.length c] x (GetPost l x)) := fun x ao c l k hb => get_any x ao c l hb (hv.bw k)
  have HH : Hid (ModAt w r m) := h
  obtain ⟨ia, il, ic, ta, tl, tc, pa, pl, pc, ha, hl, hc⟩ := r
  have AT : Hid (∀ w', BW (bxM w ⟨ia, il, ic, ta, tl, tc, pa, pl, pc, ha, hl, hc⟩) w' → MdK w' w.heap.size ⟨ia, il, ic, ta, tl, tc, pa, pl, pc, ha, hl, hc⟩ ∧ w.heap.size < w'.heap.size ∧ BW w w') := fun w' k => bxM_at k
  have AW : Hid (∀ w', BW (bxM w ⟨ia, il, ic, ta, tl, tc, pa, pl, pc, ha, hl, hc⟩) w' → BW w w') := fun w' k => (bxM_at k).2.2
  clear h hv
  by_cases hg1 : gr m = true
  · rw [hg1] at HG
    go_enter Tryd.func5, Tryd.ntmps5
    go_wp2_with (first
      | (go_at_call 8; (refine Calls.mono (HG.out _ (AW.out _ (by repeat (first | exact BW.refl _ | apply BW.alloc | apply BW.drewN | apply BW.drew)))) ?_; rintro e w1 ⟨rfl, b1⟩; have hb1 : BW (bxM w ⟨ia, il, ic, ta, tl, tc, pa, pl, pc, ha, hl, hc⟩) w1 := b1; obtain ⟨⟨g10, g11, g12, g13⟩, gz1, gb1⟩ := AT.out _ hb1; dsimp only at g10 g11 g12 g13; clear b1))
      | (go_at_call 9; (refine (HA.out _ gb1).mono ?_; rintro e w9 ⟨rfl, b9⟩)))
    go_ret
    exact ⟨rfl, gb1.trans b9⟩
  rw [Bool.not_eq_true] at hg1
  rw [hg1] at HG
  by_cases hm1 : mayB m = false
  · rw [hm1] at HN
    go_enter Tryd.func5, Tryd.ntmps5
    go_wp2_with (first
      | (go_at_call 8; (refine Calls.mono (HG.out _ (AW.out _ (by repeat (first | exact BW.refl _ | apply BW.alloc | apply BW.drewN | apply BW.drew)))) ?_; rintro e w1 ⟨rfl, b1⟩; have hb1 : BW (bxM w ⟨ia, il, ic, ta, tl, tc, pa, pl, pc, ha, hl, hc⟩) w1 := b1; obtain ⟨⟨g10, g11, g12, g13⟩, gz1, gb1⟩ := AT.out _ hb1; dsimp only at g10 g11 g12 g13; clear b1))
      | (go_at_call 11; (refine Calls.mono (HN.out _ gb1) ?_; rintro e w2 ⟨rfl, b2⟩; have hb2 : BW (bxM w ⟨ia, il, ic, ta, tl, tc, pa, pl, pc, ha, hl, hc⟩) w2 := BW.trans hb1 b2; obtain ⟨⟨g20, g21, g22, g23⟩, gz2, gb2⟩ := AT.out _ hb2; dsimp only at g20 g21 g22 g23; clear b2))
      | (go_at_call 9; (refine (HA.out _ gb2).mono ?_; rintro e w9 ⟨rfl, b9⟩)))
    go_ret
    exact ⟨rfl, gb2.trans b9⟩
  rw [Bool.not_eq_false] at hm1
  have gm := gm_of HH.out hm1
  have HP : Hid (∀ w', BW w w' → Calls Tryd.prog 13 #[.agg #[.slice ia il ic, .slice ta tl tc, .slice pa pl pc, .slice ha hl hc]] w' fun e w'' => ∃ v, e = .returned v ∧ Bf w' w'' v (en m)) := fun w' k => refPut_any ⟨ia, il, ic, ta, tl, tc, pa, pl, pc, ha, hl, hc⟩ m w' (HH.out.bw k) hm1
  have hpos : 0 < (en m).length := by simp [en]
  have RM : Hid ((en m).length + 1 ≤ 70368744177664) := by have := en_len hm1; show _ ≤ _; omega
  have GN1 : Hid (dGet (en m ++ [kx]) = none) := dGet_more gm kx []
  have GN2 : Hid (∀ k, k < (en m).length → dGet ((en m).take k) = none) := dGet_cut gm
  have BYX : Hid (Byt (en m ++ [kx])) := Byt.app (en_byte gm) (by intro k hk; simp at hk; omega)
  have HL : Hid ((en m).length ≤ 1099511627776) := en_len hm1
  have HG2 : Hid (∀ x g c, ∀ W3, BW W3 x → ByAt W3 g 0 (en m) → g < W3.heap.size → ((en m).length ≤ c ∧ c ≤ maxLen) → BW w x → ∀ k, k < (en m).length → Calls Tryd.prog 12 #[.slice (some ⟨g, 0, none⟩) k c] x fun e w' => BW x w' ∧ e = .returned (.tuple #[.agg #[.slice none 0 0, .slice none 0 0, .slice none 0 0, .slice none 0 0], .int .i64 18])) := fun x g c W3 k1 k2 k3 k4 k5 k hk => by
    have hlen : ((en m).take k).length = k := by rw [List.length_take]; omega
    have hb : BysAt x (some ⟨g, 0, none⟩) c ((en m).take k) := ⟨by omega, k4.2, fun z hz => BYX.out z (by simp [List.mem_of_mem_take hz]), .inr ⟨g, 0, rfl, by have := k1.size; omega, (k2.bw k1 k3).take k⟩⟩
    have := HGet.out x (some ⟨g, 0, none⟩) c ((en m).take k) k5 hb
    rw [hlen] at this
    refine this.mono (fun e w' h => ?_)
    obtain ⟨h1, h2⟩ := h
    rw [GN2.out k hk] at h2
    exact ⟨h1, h2⟩
  have HG1 : Hid (∀ x ao c, BW w x → BysAt x ao c (en m ++ [kx]) → Calls Tryd.prog 12 #[.slice ao ((en m).length + 1) c] x fun e w' => BW x w' ∧ e = .returned (.tuple #[.agg #[.slice none 0 0, .slice none 0 0, .slice none 0 0, .slice none 0 0], .int .i64 18])) := fun x ao c k hb => by
    have := HGet.out x ao c _ k hb
    rw [show (en m ++ [kx]).length = (en m).length + 1 by simp] at this
    refine this.mono (fun e w' h => ?_)
    obtain ⟨h1, h2⟩ := h
    rw [GN1.out] at h2
    exact ⟨h1, h2⟩
  rw [hm1] at HN
  clear hg1 hm1 gm GN2 HH GN1 HGet
  generalize en m = xs at *
  have hxl : xs.length ≤ 9223372036854775807 := by have := HL.out; omega
  by_cases hc0 : cut < 0
  · have e0 : decide (cut < 0) = true := by simp [hc0]
    go_enter Tryd.func5, Tryd.ntmps5
    go_wp2_with (first
      | (go_at_call 8; (refine Calls.mono (HG.out _ (AW.out _ (by repeat (first | exact BW.refl _ | apply BW.alloc | apply BW.drewN | apply BW.drew)))) ?_; rintro e w1 ⟨rfl, b1⟩; have hb1 : BW (bxM w ⟨ia, il, ic, ta, tl, tc, pa, pl, pc, ha, hl, hc⟩) w1 := b1; obtain ⟨⟨g10, g11, g12, g13⟩, gz1, gb1⟩ := AT.out _ hb1; dsimp only at g10 g11 g12 g13; clear b1))
      | (go_at_call 11; (refine Calls.mono (HN.out _ gb1) ?_; rintro e w2 ⟨rfl, b2⟩; have hb2 : BW (bxM w ⟨ia, il, ic, ta, tl, tc, pa, pl, pc, ha, hl, hc⟩) w2 := BW.trans hb1 b2; obtain ⟨⟨g20, g21, g22, g23⟩, gz2, gb2⟩ := AT.out _ hb2; dsimp only at g20 g21 g22 g23; clear b2))
      | (go_at_call 13; (refine Calls.mono (HP.out _ gb2) ?_; rintro e w3 ⟨v3, rfl, b3⟩; obtain ⟨g, c, rfl, hg, hz, hc, hm, hB⟩ := own_bytes b3.2 hpos; have B3 : Hid (BW w w3) := BW.trans gb2 b3.1; have Y3 : Hid (ByAt w3 g 0 xs) := hB; have HC3 : Hid (xs.length ≤ c ∧ c ≤ maxLen) := ⟨hc, hm⟩; have hcc : c ≤ 9223372036854775807 := (by unfold maxLen at hm; exact hm); clear b3 hB g10 g11 g12 g13 g20 g21 g22 g23))
      | (at_builtin; (refine wpList_app' rfl (.tmp 23) (.tmp 24) rfl w3 _ [] _ xs.length c xs rfl rfl (bf_none w3) rfl (by_get (ByAt.bw Y3.out (BW.alloc (BW.refl w3) _) hz)) (by have := RM.out; simp; omega) ?_; intro v4 w4 o4 gg; have B4 : Hid (Bf w3 w4 v4 xs) := o4; clear o4 gg))
      | (at_builtin; (refine wpList_app rfl (.tmp 25) (.tmp 27) rfl w3 _ xs _ 1 1 [kx] rfl rfl (Bf.alloc B4.out _) rfl (by decide) ?nw (by have := RM.out; omega) ?_; (case nw => intro j u hu; rw [Addr.add_mid, Nat.zero_add, cell_new]; simpa [bs] using hu); intro v5 w5 o5 gg; obtain ⟨g5, c5, rfl, hg5, hz5, hc5, hm5, hB5⟩ := own_bytes o5.2 (by simp); have B5 : Hid (BW w3 w5) := o5.1; have Y5 : Hid (BysAt w5 (some ⟨g5, 0, none⟩) c5 (xs ++ [kx])) := ⟨hc5, hm5, BYX.out, .inr ⟨g5, 0, rfl, hz5, hB5⟩⟩; clear o5 gg hB5))
      | (go_at_call 12; (refine Calls.mono (HG1.out w5 _ c5 (BW.trans B3.out B5.out) Y5.out) ?_; rintro e w6 ⟨b6, rfl⟩; have B6 : Hid (BW w3 w6) := BW.trans B5.out b6; clear b6))
      | (go_at_call 9; (refine (HA.out _ (BW.trans B3.out (BW.trans B6.out (BW.alloc (BW.refl _) _)))).mono ?_; rintro e w9 ⟨rfl, b9⟩)))
    go_ret
    exact ⟨rfl, BW.trans (BW.trans B3.out (BW.trans B6.out (BW.alloc (BW.refl _) _))) b9⟩
  obtain ⟨kc, rfl⟩ : ∃ k : Nat, cut = (k : Int) := ⟨cut.toNat, by omega⟩
  have e0 : decide ((kc : Int) < 0) = false := by simp
  by_cases hc1 : xs.length ≤ kc
  · have e1 : decide ((xs.length : Int) ≤ (kc : Int)) = true := by simp; omega
    go_enter Tryd.func5, Tryd.ntmps5
    go_wp2_with (first
      | (go_at_call 8; (refine Calls.mono (HG.out _ (AW.out _ (by repeat (first | exact BW.refl _ | apply BW.alloc | apply BW.drewN | apply BW.drew)))) ?_; rintro e w1 ⟨rfl, b1⟩; have hb1 : BW (bxM w ⟨ia, il, ic, ta, tl, tc, pa, pl, pc, ha, hl, hc⟩) w1 := b1; obtain ⟨⟨g10, g11, g12, g13⟩, gz1, gb1⟩ := AT.out _ hb1; dsimp only at g10 g11 g12 g13; clear b1))
      | (go_at_call 11; (refine Calls.mono (HN.out _ gb1) ?_; rintro e w2 ⟨rfl, b2⟩; have hb2 : BW (bxM w ⟨ia, il, ic, ta, tl, tc, pa, pl, pc, ha, hl, hc⟩) w2 := BW.trans hb1 b2; obtain ⟨⟨g20, g21, g22, g23⟩, gz2, gb2⟩ := AT.out _ hb2; dsimp only at g20 g21 g22 g23; clear b2))
      | (go_at_call 13; (refine Calls.mono (HP.out _ gb2) ?_; rintro e w3 ⟨v3, rfl, b3⟩; obtain ⟨g, c, rfl, hg, hz, hc, hm, hB⟩ := own_bytes b3.2 hpos; have B3 : Hid (BW w w3) := BW.trans gb2 b3.1; have Y3 : Hid (ByAt w3 g 0 xs) := hB; have HC3 : Hid (xs.length ≤ c ∧ c ≤ maxLen) := ⟨hc, hm⟩; have hcc : c ≤ 9223372036854775807 := (by unfold maxLen at hm; exact hm); clear b3 hB g10 g11 g12 g13 g20 g21 g22 g23))
      | (at_builtin; (refine wpList_app' rfl (.tmp 23) (.tmp 24) rfl w3 _ [] _ xs.length c xs rfl rfl (bf_none w3) rfl (by_get (ByAt.bw Y3.out (BW.alloc (BW.refl w3) _) hz)) (by have := RM.out; simp; omega) ?_; intro v4 w4 o4 gg; have B4 : Hid (Bf w3 w4 v4 xs) := o4; clear o4 gg))
      | (at_builtin; (refine wpList_app rfl (.tmp 25) (.tmp 27) rfl w3 _ xs _ 1 1 [kx] rfl rfl (Bf.alloc B4.out _) rfl (by decide) ?nw (by have := RM.out; omega) ?_; (case nw => intro j u hu; rw [Addr.add_mid, Nat.zero_add, cell_new]; simpa [bs] using hu); intro v5 w5 o5 gg; obtain ⟨g5, c5, rfl, hg5, hz5, hc5, hm5, hB5⟩ := own_bytes o5.2 (by simp); have B5 : Hid (BW w3 w5) := o5.1; have Y5 : Hid (BysAt w5 (some ⟨g5, 0, none⟩) c5 (xs ++ [kx])) := ⟨hc5, hm5, BYX.out, .inr ⟨g5, 0, rfl, hz5, hB5⟩⟩; clear o5 gg hB5))
      | (go_at_call 12; (refine Calls.mono (HG1.out w5 _ c5 (BW.trans B3.out B5.out) Y5.out) ?_; rintro e w6 ⟨b6, rfl⟩; have B6 : Hid (BW w3 w6) := BW.trans B5.out b6; clear b6))
      | (go_at_call 9; (refine (HA.out _ (BW.trans B3.out (BW.trans B6.out (BW.alloc (BW.refl _) _)))).mono ?_; rintro e w9 ⟨rfl, b9⟩)))
    go_ret
    exact ⟨rfl, BW.trans (BW.trans B3.out (BW.trans B6.out (BW.alloc (BW.refl _) _))) b9⟩
  · have e1 : decide ((xs.length : Int) ≤ (kc : Int)) = false := by simp; omega
    have hkl : kc < xs.length := by omega
    go_enter Tryd.func5, Tryd.ntmps5
    go_wp2_with (first
      | (go_at_call_of 12 (Value.slice (some ⟨g, 0, none⟩) kc c); (refine Calls.mono (HG2.out _ g c w3 (BW.trans B6.out (BW.alloc (BW.refl _) _)) Y3.out hz HC3.out (BW.trans B3.out (BW.trans B6.out (BW.alloc (BW.refl _) _))) kc hkl) ?_; rintro e w7 ⟨b7, rfl⟩))
      | (go_at_call 8; (refine Calls.mono (HG.out _ (AW.out _ (by repeat (first | exact BW.refl _ | apply BW.alloc | apply BW.drewN | apply BW.drew)))) ?_; rintro e w1 ⟨rfl, b1⟩; have hb1 : BW (bxM w ⟨ia, il, ic, ta, tl, tc, pa, pl, pc, ha, hl, hc⟩) w1 := b1; obtain ⟨⟨g10, g11, g12, g13⟩, gz1, gb1⟩ := AT.out _ hb1; dsimp only at g10 g11 g12 g13; clear b1))
      | (go_at_call 11; (refine Calls.mono (HN.out _ gb1) ?_; rintro e w2 ⟨rfl, b2⟩; have hb2 : BW (bxM w ⟨ia, il, ic, ta, tl, tc, pa, pl, pc, ha, hl, hc⟩) w2 := BW.trans hb1 b2; obtain ⟨⟨g20, g21, g22, g23⟩, gz2, gb2⟩ := AT.out _ hb2; dsimp only at g20 g21 g22 g23; clear b2))
      | (go_at_call 13; (refine Calls.mono (HP.out _ gb2) ?_; rintro e w3 ⟨v3, rfl, b3⟩; obtain ⟨g, c, rfl, hg, hz, hc, hm, hB⟩ := own_bytes b3.2 hpos; have B3 : Hid (BW w w3) := BW.trans gb2 b3.1; have Y3 : Hid (ByAt w3 g 0 xs) := hB; have HC3 : Hid (xs.length ≤ c ∧ c ≤ maxLen) := ⟨hc, hm⟩; have hcc : c ≤ 9223372036854775807 := (by unfold maxLen at hm; exact hm); clear b3 hB g10 g11 g12 g13 g20 g21 g22 g23))
      | (at_builtin; (refine wpList_app' rfl (.tmp 23) (.tmp 24) rfl w3 _ [] _ xs.length c xs rfl rfl (bf_none w3) rfl (by_get (ByAt.bw Y3.out (BW.alloc (BW.refl w3) _) hz)) (by have := RM.out; simp; omega) ?_; intro v4 w4 o4 gg; have B4 : Hid (Bf w3 w4 v4 xs) := o4; clear o4 gg))
      | (at_builtin; (refine wpList_app rfl (.tmp 25) (.tmp 27) rfl w3 _ xs _ 1 1 [kx] rfl rfl (Bf.alloc B4.out _) rfl (by decide) ?nw (by have := RM.out; omega) ?_; (case nw => intro j u hu; rw [Addr.add_mid, Nat.zero_add, cell_new]; simpa [bs] using hu); intro v5 w5 o5 gg; obtain ⟨g5, c5, rfl, hg5, hz5, hc5, hm5, hB5⟩ := own_bytes o5.2 (by simp); have B5 : Hid (BW w3 w5) := o5.1; have Y5 : Hid (BysAt w5 (some ⟨g5, 0, none⟩) c5 (xs ++ [kx])) := ⟨hc5, hm5, BYX.out, .inr ⟨g5, 0, rfl, hz5, hB5⟩⟩; clear o5 gg hB5))
      | (go_at_call 12; (refine Calls.mono (HG1.out w5 _ c5 (BW.trans B3.out B5.out) Y5.out) ?_; rintro e w6 ⟨b6, rfl⟩; have B6 : Hid (BW w3 w6) := BW.trans B5.out b6; clear b6))
      | (go_at_call 9; (refine (HA.out _ (BW.trans B3.out (BW.trans B6.out (BW.trans (BW.alloc (BW.refl _) _) (BW.trans b7 (BW.alloc (BW.refl _) _)))))).mono ?_; rintro e w9 ⟨rfl, b9⟩)))
    go_ret
    exact ⟨rfl, BW.trans (BW.trans B3.out (BW.trans B6.out (BW.trans (BW.alloc (BW.refl _) _) (BW.trans b7 (BW.alloc (BW.refl _) _))))) b9⟩

end Go.Proofs.YtndhhmgbekcfoaaDoor
