import Derived.Test.YtndhhmgbekcfoaaDoorX3
import Derived.Test.YtndhhmgbekcfoaaDoorU1
import Derived.Test.YtndhhmgbekcfoaaDoorG1
namespace Go.Proofs.YtndhhmgbekcfoaaDoor
open Go.RowKit
set_option linter.unusedVariables false
set_option linter.unusedSimpArgs false

theorem fm_sum {K : Type} {l : List K} {e : K → List Nat} {g : K → Nat} {a c : Nat} (h : ∀ x ∈ l, (e x).length ≤ a + c * g x) : (l.flatMap e).length ≤ l.length * a + c * (l.map g).sum := by
  induction l with
  | nil => simp
  | cons x r ih =>
    simp only [List.flatMap_cons, List.length_append, List.length_cons, List.map_cons, List.sum_cons, Nat.add_mul, Nat.one_mul, Nat.mul_add]
    have h1 := h x (by simp)
    have h2 := ih (fun y hy => h y (by simp [hy]))
    omega
theorem en_small {m : Mdl} (h : mayB m = true) (hg : gr m = false) : (en m).length ≤ 1048576 := by
  obtain ⟨_, h5, h6, h7⟩ := fit_of h
  simp only [gr, Bool.or_eq_false_iff, decide_eq_false_iff_not] at hg
  obtain ⟨⟨⟨⟨g1, g2⟩, g3⟩, g4⟩, g5⟩ := hg
  have a1 : (m.ints.flatMap (fun n => nb (zz n))).length ≤ m.ints.length * 10 := fm_le (fun x _ => (nb_len _).1)
  have a2 : (m.texts.flatMap (fun s => nb s.size ++ sb s)).length ≤ m.texts.length * 10 + 1 * (m.texts.map (fun s => min s.size 70000)).sum := fm_sum (fun x hx => by
    have := h5 x hx; have := (nb_len x.size).1; simp only [List.length_append, sb_len]; omega)
  have a3 : (m.pros.flatMap enP).length ≤ m.pros.length * 40 + 11 * (m.pros.map (fun x => min x.code.length 70000)).sum := fm_sum (fun x hx => by
    have h8 := h6 x hx
    simp only [prB, Bool.and_eq_true, Bool.not_eq_true', decide_eq_false_iff_not] at h8
    have h9 : x.code.length ≤ 16384 := by omega
    have a : (x.code.flatMap enI).length ≤ x.code.length * 11 := fm_le (fun y _ => by simp only [enI, List.length_cons]; have := (nb_len (szn y.a)).1; omega)
    have := (nb_len (szn x.p)).1; have := (nb_len (szn x.s)).1; have := (nb_len (szn x.u)).1; have := (nb_len x.code.length).1
    simp only [enP, List.length_append]
    omega)
  have a4 : (m.tabs.flatMap enT).length ≤ m.tabs.length * 11 + 10 * (m.tabs.map (fun x => min x.ops.length 70000)).sum := fm_sum (fun x hx => by
    have h8 := h7 x hx
    simp only [tbB, Bool.and_eq_true, decide_eq_true_eq] at h8
    have a : (x.ops.flatMap (fun n => nb (szn n))).length ≤ x.ops.length * 10 := fm_le (fun y _ => (nb_len _).1)
    have := (nb_len x.ops.length).1
    have h9 := h8.1.1
    simp only [enT, List.length_append, List.length_singleton]
    omega)
  have := (nb_len m.ints.length).1; have := (nb_len m.texts.length).1; have := (nb_len m.pros.length).1; have := (nb_len m.tabs.length).1
  simp only [txs, cds, tbs] at g5
  simp only [en, enInts, enTexts, enPros, enTabs, List.length_append, List.length_cons, List.length_nil]
  omega
set_option maxRecDepth 100000 in
set_option maxHeartbeats 4000000 in
theorem packWrites_any (r : Mw) (m : Mdl) (w : World) (h : ModAt w r m) (hv : Vs w) : Calls Tryd.prog 3 #[r.v] w fun e w' => e = .returned (.bool true) ∧ BW w w' := by
  have HG : Hid (∀ w', BW w w' → Calls Tryd.prog 8 #[r.v] w' fun e w'' => e = .returned (.bool (gr m)) ∧ BW w' w'') := fun w' k => great_any r m w' (h.bw k)
  have HN : Hid (∀ w', BW w w' → Calls Tryd.prog 11 #[r.v] w' fun e w'' => e = .returned (.bool (mayB m)) ∧ BW w' w'') := fun w' k => refMay_any r m w' (h.bw k) (hv.bw k)
  have HA : Hid (∀ w', BW w w' → Calls Tryd.prog 9 #[] w' fun e w'' => e = .returned (.bool true) ∧ BW w' w'') := fun w' k => awake_any w' (hv.bw k)
  have HP0 : Hid (∀ w', BW w w' → Calls Tryd.prog 10 #[r.v] w' (PutPost m w')) := fun w' k => put_any r m w' (h.bw k) (hv.bw k)
  have HGet0 : Hid (∀ x ao c l, BW w x → BysAt x ao c l → Calls Tryd.prog 12 #[.slice ao l.length c] x (GetPost l x)) := fun x ao c l k hb => get_any x ao c l hb (hv.bw k)
  have HH : Hid (ModAt w r m) := h
  obtain ⟨ia, il, ic, ta, tl, tc, pa, pl, pc, ha, hl, hc⟩ := r
  have AT : Hid (∀ w', BW (bxM w ⟨ia, il, ic, ta, tl, tc, pa, pl, pc, ha, hl, hc⟩) w' → MdK w' w.heap.size ⟨ia, il, ic, ta, tl, tc, pa, pl, pc, ha, hl, hc⟩ ∧ w.heap.size < w'.heap.size ∧ BW w w') := fun w' k => bxM_at k
  have AW : Hid (∀ w', BW (bxM w ⟨ia, il, ic, ta, tl, tc, pa, pl, pc, ha, hl, hc⟩) w' → BW w w') := fun w' k => (bxM_at k).2.2
  clear h hv
  by_cases hg1 : gr m = true
  · rw [hg1] at HG
    go_enter Tryd.func3, Tryd.ntmps3
    go_wp2_with (first
      | (go_at_call 8; (refine Calls.mono (HG.out _ (AW.out _ (by repeat (first | exact BW.refl _ | apply BW.alloc | apply BW.drewN | apply BW.drew)))) ?_; rintro e w1 ⟨rfl, b1⟩; have hb1 : Hid (BW (bxM w ⟨ia, il, ic, ta, tl, tc, pa, pl, pc, ha, hl, hc⟩) w1) := b1; obtain ⟨⟨g10, g11, g12, g13⟩, gz1, gb1x⟩ := AT.out _ b1; have gb1 : Hid (BW w w1) := gb1x; dsimp only at g10 g11 g12 g13; clear b1 gb1x))
      | (go_at_call 9; (refine (HA.out _ gb1.out).mono ?_; rintro e w9 ⟨rfl, b9⟩)))
    go_ret
    exact ⟨rfl, gb1.out.trans b9⟩
  rw [Bool.not_eq_true] at hg1
  rw [hg1] at HG
  by_cases hm1 : mayB m = false
  · have HP : Hid (∀ w', BW w w' → Calls Tryd.prog 10 #[.agg #[.slice ia il ic, .slice ta tl tc, .slice pa pl pc, .slice ha hl hc]] w' fun e w'' => BW w' w'' ∧ e = .returned (.tuple #[.slice none 0 0, .int .i64 18])) := fun w' k => (HP0.out w' k).mono (fun e w'' h => by
      rcases h.2 with ⟨h3, _⟩ | ⟨_, h3⟩
      · rw [hm1] at h3; cases h3
      · exact ⟨h.1, h3⟩)
    rw [hm1] at HN
    clear HP0 HGet0
    go_enter Tryd.func3, Tryd.ntmps3
    go_wp2_with (first
      | (go_at_call 8; (refine Calls.mono (HG.out _ (AW.out _ (by repeat (first | exact BW.refl _ | apply BW.alloc | apply BW.drewN | apply BW.drew)))) ?_; rintro e w1 ⟨rfl, b1⟩; have hb1 : Hid (BW (bxM w ⟨ia, il, ic, ta, tl, tc, pa, pl, pc, ha, hl, hc⟩) w1) := b1; obtain ⟨⟨g10, g11, g12, g13⟩, gz1, gb1x⟩ := AT.out _ b1; have gb1 : Hid (BW w w1) := gb1x; dsimp only at g10 g11 g12 g13; clear b1 gb1x))
      | (go_at_call 10; (refine Calls.mono (HP.out _ gb1.out) ?_; rintro e w2 ⟨b2, rfl⟩; have hb2 : Hid (BW (bxM w ⟨ia, il, ic, ta, tl, tc, pa, pl, pc, ha, hl, hc⟩) w2) := BW.trans hb1.out b2; obtain ⟨⟨g20, g21, g22, g23⟩, gz2, gb2x⟩ := AT.out _ hb2.out; have gb2 : Hid (BW w w2) := gb2x; dsimp only at g20 g21 g22 g23; clear b2 gb2x))
      | (go_at_call 11; (refine Calls.mono (HN.out _ gb2.out) ?_; rintro e w3 ⟨rfl, b3⟩; have hb3 : Hid (BW (bxM w ⟨ia, il, ic, ta, tl, tc, pa, pl, pc, ha, hl, hc⟩) w3) := BW.trans hb2.out b3; obtain ⟨⟨g30, g31, g32, g33⟩, gz3, gb3x⟩ := AT.out _ hb3.out; have gb3 : Hid (BW w w3) := gb3x; dsimp only at g30 g31 g32 g33; clear b3 gb3x))
      | (go_at_call 9; (refine (HA.out _ gb3.out).mono ?_; rintro e w9 ⟨rfl, b9⟩)))
    go_ret
    exact ⟨rfl, gb3.out.trans b9⟩
  rw [Bool.not_eq_false] at hm1
  have gm := gm_of HH.out hm1
  have HP : Hid (∀ w', BW w w' → Calls Tryd.prog 10 #[.agg #[.slice ia il ic, .slice ta tl tc, .slice pa pl pc, .slice ha hl hc]] w' fun e w'' => BW w' w'' ∧ ∃ v, e = .returned (.tuple #[v, .int .i64 0]) ∧ w''.ownsRow w'.heap.size 5 1 v (en m).length (bs (en m))) := fun w' k => (HP0.out w' k).mono (fun e w'' h => by
    rcases h.2 with ⟨_, v, h3, h4⟩ | ⟨h3, _⟩
    · exact ⟨h.1, v, h3, h4⟩
    · rw [hm1] at h3; cases h3)
  have hget : dGet (en m) = some m := dGet_en gm hm1 (en_small hm1 hg1)
  have HGet : Hid (∀ x ao c, BW w x → BysAt x ao c (en m) → Calls Tryd.prog 12 #[.slice ao (en m).length c] x fun e w' => BW x w' ∧ ∃ r : Mw, e = .returned (.tuple #[r.v, .int .i64 0]) ∧ ModAt w' r m) := fun x ao c k hb => (HGet0.out x ao c (en m) k hb).mono (fun e w' h => by
    obtain ⟨h5, h6⟩ := h
    rw [hget] at h6
    exact ⟨h5, h6⟩)
  have HR : Hid (∀ w', BW w w' → Calls Tryd.prog 13 #[.agg #[.slice ia il ic, .slice ta tl tc, .slice pa pl pc, .slice ha hl hc]] w' fun e w'' => ∃ v, e = .returned v ∧ Bf w' w'' v (en m)) := fun w' k => refPut_any ⟨ia, il, ic, ta, tl, tc, pa, pl, pc, ha, hl, hc⟩ m w' (HH.out.bw k) hm1
  have hpos : 0 < (en m).length := by simp [en]
  have BYX : Hid (Byt (en m)) := en_byte gm
  have HMD : Hid (∀ w', BW w w' → ModAt w' ⟨ia, il, ic, ta, tl, tc, pa, pl, pc, ha, hl, hc⟩ m) := fun w' k => HH.out.bw k
  have hsm : smM m m = true := (smM_eq _ _).2 rfl
  have HSm : Hid (∀ w' r, ModAt w' r m → BW w w' → Calls Tryd.prog 14 #[r.v, .agg #[.slice ia il ic, .slice ta tl tc, .slice pa pl pc, .slice ha hl hc]] w' fun e w'' => e = .returned (.bool true) ∧ BW w' w'') := fun w' r k1 k2 => by
    have := refSame_any r ⟨ia, il, ic, ta, tl, tc, pa, pl, pc, ha, hl, hc⟩ m m w' k1 (HMD.out w' k2)
    rw [hsm] at this
    exact this
  rw [hm1] at HN
  clear hg1 hm1 gm hget HP0 HGet0 HH hsm HMD
  generalize en m = xs at *
  go_enter Tryd.func3, Tryd.ntmps3
  go_wp2_with (first
    | (go_at_call 8; (refine Calls.mono (HG.out _ (AW.out _ (by repeat (first | exact BW.refl _ | apply BW.alloc | apply BW.drewN | apply BW.drew)))) ?_; rintro e w1 ⟨rfl, b1⟩; have hb1 : Hid (BW (bxM w ⟨ia, il, ic, ta, tl, tc, pa, pl, pc, ha, hl, hc⟩) w1) := b1; obtain ⟨⟨g10, g11, g12, g13⟩, gz1, gb1x⟩ := AT.out _ b1; have gb1 : Hid (BW w w1) := gb1x; dsimp only at g10 g11 g12 g13; clear b1 gb1x))
    | (go_at_call 10; (refine Calls.mono (HP.out _ gb1.out) ?_; rintro e w2 ⟨b2, v2, rfl, o2⟩; have hb2 : Hid (BW (bxM w ⟨ia, il, ic, ta, tl, tc, pa, pl, pc, ha, hl, hc⟩) w2) := BW.trans hb1.out b2; obtain ⟨⟨g20, g21, g22, g23⟩, gz2, gb2x⟩ := AT.out _ hb2.out; have gb2 : Hid (BW w w2) := gb2x; dsimp only at g20 g21 g22 g23; obtain ⟨g, c, rfl, hgg, hz2, hc2, hm2, hB2⟩ := own_bytes o2 hpos; have Y2 : Hid (ByAt w2 g 0 xs) := hB2; have HC2 : Hid (xs.length ≤ c ∧ c ≤ maxLen) := ⟨hc2, hm2⟩; clear o2 hB2; clear b2 gb2x))
    | (go_at_call 11; (refine Calls.mono (HN.out _ gb2.out) ?_; rintro e w3 ⟨rfl, b3⟩; have hb3 : Hid (BW (bxM w ⟨ia, il, ic, ta, tl, tc, pa, pl, pc, ha, hl, hc⟩) w3) := BW.trans hb2.out b3; obtain ⟨⟨g30, g31, g32, g33⟩, gz3, gb3x⟩ := AT.out _ hb3.out; have gb3 : Hid (BW w w3) := gb3x; dsimp only at g30 g31 g32 g33; have Y3 : Hid (ByAt w3 g 0 xs) := ByAt.bw Y2.out b3 hz2; have hz3 : g < w3.heap.size := Nat.lt_of_lt_of_le hz2 b3.size; clear b3 gb3x))
    | (go_at_call 12; (refine Calls.mono (HGet.out w3 _ c gb3.out ⟨HC2.out.1, HC2.out.2, BYX.out, .inr ⟨g, 0, rfl, hz3, Y3.out⟩⟩) ?_; rintro e w4 ⟨b4, r4, rfl, hm4⟩; obtain ⟨ia', il', ic', ta', tl', tc', pa', pl', pc', ha', hl', hc'⟩ := r4; have M4 : Hid (ModAt w4 ⟨ia', il', ic', ta', tl', tc', pa', pl', pc', ha', hl', hc'⟩ m) := hm4; have hb4 : Hid (BW (bxM w ⟨ia, il, ic, ta, tl, tc, pa, pl, pc, ha, hl, hc⟩) w4) := BW.trans hb3.out b4; obtain ⟨⟨g40, g41, g42, g43⟩, gz4, gb4x⟩ := AT.out _ hb4.out; have gb4 : Hid (BW w w4) := gb4x; dsimp only at g40 g41 g42 g43; have Y4 : Hid (ByAt w4 g 0 xs) := ByAt.bw Y3.out b4 hz3; have hz4 : g < w4.heap.size := Nat.lt_of_lt_of_le hz3 b4.size; clear b4 hm4 gb4x)))
  obtain ⟨X, hX⟩ : ∃ X, X = w4.alloc (.cells #[.slice ia' il' ic', .slice ta' tl' tc', .slice pa' pl' pc', .slice ha' hl' hc'] 27) := ⟨_, rfl⟩
  have hbX : BW w4 X := by rw [hX]; exact BW.alloc (BW.refl _) _
  have x0 := (hbX.cells w.heap.size 0 gz4).trans g40
  have x1 := (hbX.cells w.heap.size 1 gz4).trans g41
  have x2 := (hbX.cells w.heap.size 2 gz4).trans g42
  have x3 := (hbX.cells w.heap.size 3 gz4).trans g43
  have y0 : X.cell? ⟨w4.heap.size, 0, none⟩ = some (.slice ia' il' ic') := by rw [hX]; exact cell_new _ _ _ 0
  have y1 : X.cell? ⟨w4.heap.size, 1, none⟩ = some (.slice ta' tl' tc') := by rw [hX]; exact cell_new _ _ _ 1
  have y2 : X.cell? ⟨w4.heap.size, 2, none⟩ = some (.slice pa' pl' pc') := by rw [hX]; exact cell_new _ _ _ 2
  have y3 : X.cell? ⟨w4.heap.size, 3, none⟩ = some (.slice ha' hl' hc') := by rw [hX]; exact cell_new _ _ _ 3
  have hXz : w4.heap.size < X.heap.size := by rw [hX]; simp
  rw [← hX]
  have GX : Hid (BW w X) := gb4.out.trans hbX
  have MX : Hid (ModAt X ⟨ia', il', ic', ta', tl', tc', pa', pl', pc', ha', hl', hc'⟩ m) := M4.out.bw hbX
  have YX : Hid (ByAt X g 0 xs) := Y4.out.bw hbX hz4
  have hzX : g < X.heap.size := by omega
  have gz : w.heap.size < X.heap.size := by omega
  clear hX hbX g10 g11 g12 g13 g20 g21 g22 g23 g30 g31 g32 g33 g40 g41 g42 g43 gz1 gz2 gz3 hb1 hb2 hb3 hb4 gb1 gb2 gb3 Y2 Y3 M4 Y4
  generalize w4.heap.size = N4 at *
  have cvx : ∀ W, BW X W → (convert 30 9 (.slice (some ⟨g, 0, none⟩) xs.length c)).run Tryd.prog W = .ok (.string (st xs)) W := fun W k => (YX.out.bw k hzX).cv c
  have qst : ((st xs).toList == (st xs).toList) = true := by simp
  have HCV : Hid (∀ W g c, ByAt W g 0 xs → (convert 30 9 (.slice (some ⟨g, 0, none⟩) xs.length c)).run Tryd.prog W = .ok (.string (st xs)) W) := fun W g c k => k.cv c
  generalize st xs = sx at *
  go_region_held (fun w' => BW X w' ∧ w'.cell? ⟨w.heap.size, 0, none⟩ = some (.slice ia il ic) ∧ w'.cell? ⟨w.heap.size, 1, none⟩ = some (.slice ta tl tc) ∧ w'.cell? ⟨w.heap.size, 2, none⟩ = some (.slice pa pl pc) ∧ w'.cell? ⟨w.heap.size, 3, none⟩ = some (.slice ha hl hc) ∧ w'.cell? ⟨N4, 0, none⟩ = some (.slice ia' il' ic') ∧ w'.cell? ⟨N4, 1, none⟩ = some (.slice ta' tl' tc') ∧ w'.cell? ⟨N4, 2, none⟩ = some (.slice pa' pl' pc') ∧ w'.cell? ⟨N4, 3, none⟩ = some (.slice ha' hl' hc')) ((refine ⟨(by repeat (first | exact BW.refl _ | assumption | apply BW.alloc | apply BW.drewN | apply BW.drew | (refine BW.setCell ?_ (by first | omega | (simp; done) | (simp; omega)) _) | (refine BW.trans ?_ (by assumption)))), ?_⟩; go_keep)) (first
    | (go_at_call 13; (refine Calls.mono (HR.out _ (BW.trans GX.out (by repeat (first | exact BW.refl _ | assumption | apply BW.alloc | apply BW.drewN | apply BW.drew | (refine BW.setCell ?_ (by first | omega | (simp; done) | (simp; omega)) _) | (refine BW.trans ?_ (by assumption)))))) ?_; rintro e w13 ⟨v13, rfl, b13⟩; obtain ⟨gq, cq, rfl, hgq, hzq, hcq, hmq, hBq⟩ := own_bytes b13.2 hpos; have HBq : Hid (ByAt w13 gq 0 xs) := hBq; have b6 := b13.1; have yy6 := b6.size; (try simp at yy6); have t5 := fun o => b6.cells w.heap.size o (by first | omega | (simp; omega)); have t6 := fun o => b6.cells N4 o (by first | omega | (simp; omega)); have cvz : ∀ W, BW w13 W → (convert 30 9 (.slice (some ⟨gq, 0, none⟩) xs.length cq)).run Tryd.prog W = .ok (.string sx) W := fun W k => HCV.out W gq cq (ByAt.bw HBq.out k hzq); have cvz0 := cvz w13 (BW.refl _); clear b13 hBq))
    | (go_at_call 14; (refine Calls.mono (HSm.out _ ⟨ia', il', ic', ta', tl', tc', pa', pl', pc', ha', hl', hc'⟩ (ModAt.bw MX.out (by repeat (first | exact BW.refl _ | assumption | apply BW.alloc | apply BW.drewN | apply BW.drew | (refine BW.setCell ?_ (by first | omega | (simp; done) | (simp; omega)) _) | (refine BW.trans ?_ (by assumption))))) (BW.trans GX.out (by repeat (first | exact BW.refl _ | assumption | apply BW.alloc | apply BW.drewN | apply BW.drew | (refine BW.setCell ?_ (by first | omega | (simp; done) | (simp; omega)) _) | (refine BW.trans ?_ (by assumption)))))) ?_; rintro e w7 ⟨rfl, b7⟩; have yy7 := b7.size; (try simp at yy7); have t9 := fun o => b7.cells w.heap.size o (by first | omega | (simp; omega)); have t10 := fun o => b7.cells N4 o (by first | omega | (simp; omega))))
    | (go_at_call 9; (refine (HA.out _ (BW.trans GX.out (by repeat (first | exact BW.refl _ | assumption | apply BW.alloc | apply BW.drewN | apply BW.drew | (refine BW.setCell ?_ (by first | omega | (simp; done) | (simp; omega)) _) | (refine BW.trans ?_ (by assumption)))))).mono ?_; rintro e w8 ⟨rfl, b8⟩; have yy8 := b8.size; (try simp at yy8); have t11 := fun o => b8.cells w.heap.size o (by first | omega | (simp; omega)); have t12 := fun o => b8.cells N4 o (by first | omega | (simp; omega)))))
  go_wp2_with (fail)
  go_ret
  exact ⟨rfl, BW.trans GX.out (by repeat (first | exact BW.refl _ | assumption | apply BW.alloc | apply BW.drewN | apply BW.drew | (refine BW.setCell ?_ (by first | omega | (simp; done) | (simp; omega)) _) | (refine BW.trans ?_ (by assumption))))⟩

end Go.Proofs.YtndhhmgbekcfoaaDoor
