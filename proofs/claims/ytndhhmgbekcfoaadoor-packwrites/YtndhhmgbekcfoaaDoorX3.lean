import Derived.Test.YtndhhmgbekcfoaaDoorX2
namespace Go.Proofs.YtndhhmgbekcfoaaDoor
open Go.RowKit
set_option linter.unusedVariables false
set_option linter.unusedSimpArgs false

theorem room_take {K : Type} {L : List Nat} {xs : List K} {enc : K → List Nat} {k N : Nat} {y : K} (hx : xs[k]? = some y) (h : (L ++ xs.flatMap enc).length ≤ N) : (L ++ (xs.take k).flatMap enc).length + (enc y).length ≤ N := by
  have h2 : xs.flatMap enc = (xs.take (k + 1)).flatMap enc ++ (xs.drop (k + 1)).flatMap enc := by rw [← List.flatMap_append, List.take_append_drop]
  have e1 : (xs.take (k + 1)).flatMap enc = (xs.take k).flatMap enc ++ enc y := by rw [List.take_add_one, hx]; simp
  rw [h2, e1] at h
  simp only [List.length_append] at h ⊢
  omega
theorem take_snoc {K : Type} {xs : List K} (enc : K → List Nat) {k : Nat} {y : K} (hx : xs[k]? = some y) (L : List Nat) : L ++ (xs.take (k + 1)).flatMap enc = L ++ (xs.take k).flatMap enc ++ enc y := by rw [List.take_add_one, hx]; simp
theorem take_all {K : Type} {xs : List K} (enc : K → List Nat) {k : Nat} (h : xs.length ≤ k) (L : List Nat) : L ++ (xs.take k).flatMap enc = L ++ xs.flatMap enc := by rw [List.take_of_length_le h]
abbrev eI (n : Int) : List Nat := nb (zz n)
abbrev eT (s : ByteArray) : List Nat := nb s.size ++ sb s
abbrev eS (n : Int) : List Nat := nb (szn n)
set_option maxRecDepth 100000 in
set_option maxHeartbeats 4000000 in
theorem refPut_any (r : Mw) (m : Mdl) (w : World) (h : ModAt w r m) (hm : mayB m = true) : Calls Tryd.prog 13 #[r.v] w fun e w' => ∃ v, e = .returned v ∧ Bf w w' v (en m) := by
  have hN := en_len hm
  obtain ⟨l1, l2, l3, l4, b1, b2, b3, b4⟩ := h.lens
  obtain ⟨ia, il, ic, ta, tl, tc, pa, pl, pc, ha, hl, hc⟩ := r
  dsimp only at l1 l2 l3 l4 b1 b2 b3 b4
  obtain ⟨X, hX⟩ : ∃ X, X = (w.alloc (.cells #[.slice ia il ic, .slice ta tl tc, .slice pa pl pc, .slice ha hl hc] 27)).alloc (.cells #[.int .u8 69, .int .u8 70, .int .u8 70, .int .u8 49] 5 (4, 5)) := ⟨_, rfl⟩
  have hwX : BW w X := by rw [hX]; exact (by repeat (first | exact BW.refl _ | apply BW.alloc | apply BW.drewN | apply BW.drew))
  have HWX : Hid (BW w X) := hwX
  have H : Hid (ModAt X ⟨ia, il, ic, ta, tl, tc, pa, pl, pc, ha, hl, hc⟩ m) := h.bw hwX
  have hXz : X.heap.size = w.heap.size + 1 + 1 := by rw [hX]; simp
  have HBo : Hid (∀ j, X.cell? ⟨w.heap.size, j, none⟩ = (#[.slice ia il ic, .slice ta tl tc, .slice pa pl pc, .slice ha hl hc] : Array Value)[j]?) := fun j => by
    rw [hX]
    exact ((BW.alloc (BW.refl (w.alloc (.cells #[.slice ia il ic, .slice ta tl tc, .slice pa pl pc, .slice ha hl hc] 27))) (.cells #[.int .u8 69, .int .u8 70, .int .u8 70, .int .u8 49] 5 (4, 5))).cells w.heap.size j (by simp)).trans (cell_new _ _ _ j)
  have BF : Hid (∀ w', BW X w' → w'.cell? ⟨w.heap.size, 0, none⟩ = some (.slice ia il ic) ∧ w'.cell? ⟨w.heap.size, 1, none⟩ = some (.slice ta tl tc) ∧ w'.cell? ⟨w.heap.size, 2, none⟩ = some (.slice pa pl pc) ∧ w'.cell? ⟨w.heap.size, 3, none⟩ = some (.slice ha hl hc) ∧ w.heap.size < w'.heap.size) := fun w' k => by
    have z := k.size
    have q := fun j => (k.cells w.heap.size j (by omega)).trans (HBo.out j)
    exact ⟨q 0, q 1, q 2, q 3, by omega⟩
  have HY : Hid (ByAt X (w.heap.size + 1) 0 ltr) := fun i hi => by
    have := cell_of_row ((w.alloc (.cells #[.slice ia il ic, .slice ta tl tc, .slice pa pl pc, .slice ha hl hc] 27)).alloc (.cells #[.int .u8 69, .int .u8 70, .int .u8 70, .int .u8 49] 5 (4, 5))) (w.heap.size + 1) i #[.int .u8 69, .int .u8 70, .int .u8 70, .int .u8 49] 5 (4, 5) (by have := heap_alloc_new (w.alloc (.cells #[.slice ia il ic, .slice ta tl tc, .slice pa pl pc, .slice ha hl hc] 27)) (.cells #[.int .u8 69, .int .u8 70, .int .u8 70, .int .u8 49] 5 (4, 5)); simpa using this)
    rw [hX, Nat.zero_add, this]
    match i, hi with
    | 0, _ => rfl
    | 1, _ => rfl
    | 2, _ => rfl
    | 3, _ => rfl
  have HXe : Hid (X = (w.alloc (.cells #[.slice ia il ic, .slice ta tl tc, .slice pa pl pc, .slice ha hl hc] 27)).alloc (.cells #[.int .u8 69, .int .u8 70, .int .u8 70, .int .u8 49] 5 (4, 5))) := hX
  -- what is put, in its parts
  have HE : Hid (en m = ltr ++ nb il ++ m.ints.flatMap eI ++ nb tl ++ m.texts.flatMap eT ++ nb pl ++ m.pros.flatMap enP ++ nb hl ++ m.tabs.flatMap enT) := by
    show _ = _
    simp [en, enInts, enTexts, enPros, enTabs, ltr, l1, l2, l3, l4]
  have hN2 := hN
  rw [HE.out] at hN2
  simp only [List.length_append] at hN2
  have R1 : Hid ((ltr ++ nb il ++ m.ints.flatMap eI).length ≤ 1099511627776) := by show _ ≤ _; simp only [List.length_append]; omega
  have R2 : Hid ((ltr ++ nb il ++ m.ints.flatMap eI ++ nb tl ++ m.texts.flatMap eT).length ≤ 1099511627776) := by show _ ≤ _; simp only [List.length_append]; omega
  have R3 : Hid ((ltr ++ nb il ++ m.ints.flatMap eI ++ nb tl ++ m.texts.flatMap eT ++ nb pl ++ m.pros.flatMap enP).length ≤ 1099511627776) := by show _ ≤ _; simp only [List.length_append]; omega
  have R4 : Hid ((ltr ++ nb il ++ m.ints.flatMap eI ++ nb tl ++ m.texts.flatMap eT ++ nb pl ++ m.pros.flatMap enP ++ nb hl ++ m.tabs.flatMap enT).length ≤ 1099511627776) := by show _ ≤ _; simp only [List.length_append]; omega
  have R1' : Hid ((nb il).length ≤ 1099511627776) := by show _ ≤ _; omega
  have kc : (convert 30 30 (.slice (some ⟨w.heap.size + 1, 0, none⟩) 4 4)).run Tryd.prog ((w.alloc (.cells #[.slice ia il ic, .slice ta tl tc, .slice pa pl pc, .slice ha hl hc] 27)).alloc (.cells #[.int .u8 69, .int .u8 70, .int .u8 70, .int .u8 49] 5)) = .ok (.slice (some ⟨w.heap.size + 1, 0, none⟩) 4 4) ((w.alloc (.cells #[.slice ia il ic, .slice ta tl tc, .slice pa pl pc, .slice ha hl hc] 27)).alloc (.cells #[.int .u8 69, .int .u8 70, .int .u8 70, .int .u8 49] 5 (4, 5))) := by
    have := Lib.run_convert_bytes_const (P := Tryd.prog) (w.alloc (.cells #[.slice ia il ic, .slice ta tl tc, .slice pa pl pc, .slice ha hl hc] 27)) 30 5 #[.int .u8 69, .int .u8 70, .int .u8 70, .int .u8 49] 4 4 Tryd.underlying30 Tryd.underlying5
    simpa using this
  have wi : IntKind.u64.wrap (il : Int) = (il : Int) := u64w _ (by omega) (by omega)
  have wt : IntKind.u64.wrap (tl : Int) = (tl : Int) := u64w _ (by omega) (by omega)
  have wp : IntKind.u64.wrap (pl : Int) = (pl : Int) := u64w _ (by omega) (by omega)
  have wh : IntKind.u64.wrap (hl : Int) = (hl : Int) := u64w _ (by omega) (by omega)
  have LL : Hid (m.ints.length = il ∧ m.texts.length = tl ∧ m.pros.length = pl ∧ m.tabs.length = hl) := ⟨l1, l2, l3, l4⟩
  clear h hm hN hN2 l1 l2 l3 l4 hX hwX HBo
  go_enter Tryd.func13, Tryd.ntmps13
  go_wp2_with (first
    | (go_at_call 22; (rw [← HXe.out]; refine Calls.mono (num_any il _ (by omega)) ?_; rintro e w1 ⟨v1, rfl, n1⟩; have W1 : Hid (BW X w1) := n1.1; obtain ⟨g1, c1, rfl, hcl⟩ := bf_at n1 (nb_len _).2; have C1 : Hid _ := hcl; clear n1 hcl))
    | (at_builtin; (refine wpList_appm rfl (.tmp 17) (.tmp 22) rfl X (w.heap.size + 1) _ (nb il).length _ (nb il) rfl rfl (ByAt.bw HY.out W1.out (by omega)) W1.out rfl (nb_len _).2 C1.out R1'.out ?_; intro v2 w2 o2 gg; have B2 : Hid (Bf X w2 v2 (ltr ++ nb il)) := o2; obtain ⟨d20, d21, d22, d23, dz2⟩ := BF.out w2 B2.out.1; clear o2 gg)))
  go_loopw [3, 27] (fun b i w' => ∃ k : Nat, k ≤ il ∧ i = .int .i64 k ∧ Hid (Bf X w' b (ltr ++ nb il ++ (m.ints.take k).flatMap eI))) (fun b i _ => il - (intOf i).toNat)
  case atStart => exact ⟨0, Nat.zero_le _, rfl, by (show Bf _ _ _ _); rw [List.take_zero, List.flatMap_nil, List.append_nil]; exact B2.out⟩
  case round =>
    obtain ⟨k, hk, rfl, HB⟩ := hrel
    obtain ⟨d0, d1, d2, d3, dz⟩ := BF.out wr HB.out.1
    by_cases hlt : k < il
    · obtain ⟨b, off, y, rfl, hbl, hx, hy, hc0⟩ := IntsAt.get H.out.ints hlt
      have dd := (HB.out.1.cells b (off + k) hbl).trans hc0
      have hbw : b < wr.heap.size := by have := HB.out.1.size; omega
      have RR := room_take hx R1.out
      have RH : Hid ((ltr ++ nb il ++ (m.ints.take k).flatMap eI).length + (nb (zz y)).length ≤ 1099511627776) := RR
      have E1 : Hid (ltr ++ nb il ++ (m.ints.take (k + 1)).flatMap eI = ltr ++ nb il ++ (m.ints.take k).flatMap eI ++ nb (zz y)) := take_snoc eI hx (ltr ++ nb il)
      clear hx RR
      go_wp2_with (first
        | (go_at_call 23; (refine Calls.mono (rsigned_any y _ hy) ?_; rintro e w1 ⟨v1, rfl, b1⟩; have B1 : Hid _ := bf_keep HB.out b1.1; obtain ⟨g1, c1, rfl, hcl⟩ := bf_at b1 (nb_len _).2; have C1 : Hid _ := hcl; clear b1 hcl))
        | (at_builtin; (refine wpList_app rfl (.tmp 30) (.tmp 36) rfl X _ _ _ (nb (zz y)).length _ (nb (zz y)) rfl rfl B1.out rfl (nb_len _).2 C1.out (Nat.le_trans RH.out (by decide)) ?_; intro v2 w2 o2 gg; have B2 : Hid _ := o2; clear o2 gg)))
      go_roundw
      case rel => exact ⟨k + 1, by omega, by go_num, by rw [Hid, E1.out]; exact B2.out⟩
      case measure => simp [intOf]; omega
    · have HB1 : Hid (Bf X wr u3 (ltr ++ nb il ++ m.ints.flatMap eI)) := by
        have := HB.out
        rw [take_all eI (by have := LL.out.1; omega)] at this
        exact this
      obtain rfl : il = k := by omega
      clear HB hlt hk
      generalize hT1 : ltr ++ nb il ++ m.ints.flatMap eI = T1 at *
      clear hT1 R1 R1' B2 d21 d22 d23 dz2
      have RT : Hid (T1.length + (nb tl).length ≤ 1099511627776) := by have := R2.out; simp only [List.length_append] at this; show _ ≤ _; omega
      go_wp2_with (first
        | (go_at_call 22; (refine Calls.mono (num_any tl _ (by omega)) ?_; rintro e w3 ⟨v3, rfl, b3⟩; have B3 : Hid _ := bf_keep HB1.out b3.1; obtain ⟨g3, c3, rfl, hcl⟩ := bf_at b3 (nb_len _).2; have C3 : Hid _ := hcl; clear b3 hcl))
        | (at_builtin; (refine wpList_app rfl (.tmp 39) (.tmp 44) rfl X _ _ _ (nb (tl)).length _ (nb (tl)) rfl rfl B3.out rfl (nb_len _).2 C3.out (Nat.le_trans RT.out (by decide)) ?_; intro v4 w4 o4 gg; have B4 : Hid _ := o4; obtain ⟨d40, d41, d42, d43, dz4⟩ := BF.out w4 B4.out.1; clear o4 gg)))
      go_loopw [3, 49] (fun b i w' => ∃ k : Nat, k ≤ tl ∧ i = .int .i64 k ∧ Hid (Bf X w' b (T1 ++ nb tl ++ (m.texts.take k).flatMap eT))) (fun b i _ => tl - (intOf i).toNat)
      case atStart => exact ⟨0, Nat.zero_le _, rfl, by (show Bf _ _ _ _); rw [List.take_zero, List.flatMap_nil, List.append_nil]; exact B4.out⟩
      case round =>
        obtain ⟨k, hk, rfl, HB⟩ := hrel
        obtain ⟨d0, d1, d2, d3, dz⟩ := BF.out wr HB.out.1
        by_cases hlt : k < tl
        · obtain ⟨b, off, s, rfl, hbl, hx, hy, hc0⟩ := StrsAt.get H.out.texts hlt
          have dd := (HB.out.1.cells b (off + k) hbl).trans hc0
          have hsz : s.size ≤ 9223372036854775807 := by unfold maxLen at hy; exact hy
          have ws : IntKind.u64.wrap (s.size : Int) = (s.size : Int) := u64w _ (by omega) (by omega)
          have hbw : b < wr.heap.size := by have := HB.out.1.size; omega
          have RR := room_take hx R2.out
          simp only [List.length_append, sb_len] at RR
          have RH : Hid ((T1 ++ nb tl ++ (m.texts.take k).flatMap eT).length + (nb s.size).length ≤ 1099511627776) := by show _ ≤ _; simp only [List.length_append]; omega
          have RH2 : Hid ((T1 ++ nb tl ++ (m.texts.take k).flatMap eT ++ nb s.size).length + s.size ≤ 1099511627776) := by show _ ≤ _; simp only [List.length_append]; omega
          have E1 : Hid (T1 ++ nb tl ++ (m.texts.take (k + 1)).flatMap eT = T1 ++ nb tl ++ (m.texts.take k).flatMap eT ++ nb s.size ++ sb s) := by show _ = _; rw [take_snoc eT hx (T1 ++ nb tl)]; simp
          have HC0 : Hid (X.cell? ⟨b, off + k, none⟩ = some (.string s)) := hc0
          clear hx RR hc0
          go_wp2_with (first
            | (go_at_call 22; (refine Calls.mono (num_any s.size _ (by omega)) ?_; rintro e w1 ⟨v1, rfl, b1⟩; have B1 : Hid _ := bf_keep HB.out b1.1; obtain ⟨g1, c1, rfl, hcl⟩ := bf_at b1 (nb_len _).2; have C1 : Hid _ := hcl; clear b1 hcl))
            | (at_builtin; (refine wpList_app rfl (.tmp 52) (.tmp 60) rfl X _ _ _ (nb (s.size)).length _ (nb (s.size)) rfl rfl B1.out rfl (nb_len _).2 C1.out (Nat.le_trans RH.out (by decide)) ?_; intro v2 w2 o2 gg; have B2 : Hid _ := o2; obtain ⟨d20, d21, d22, d23, dz2⟩ := BF.out w2 B2.out.1; have dd2 := (B2.out.1.cells b (off + k) hbl).trans HC0.out; have hbw2 : b < w2.heap.size := (by have := B2.out.1.size; omega); obtain ⟨cz, W3, hcv, hbz, hcz⟩ := cv_text s w2; have HBZ : Hid (BW w2 W3) := hbz; have HCZ : Hid _ := hcz; clear hbz hcz; clear o2 gg))
            | (at_builtin; (refine wpList_app' rfl (.tmp 62) (.tmp 68) rfl X _ _ _ s.size _ (sb s) rfl rfl (bf_keep B2.out HBZ.out) (sb_len s) HCZ.out (Nat.le_trans RH2.out (by decide)) ?_; intro v4 w4 o4 gg; have B4' : Hid _ := o4; clear o4 gg)))
          go_roundw
          case rel => exact ⟨k + 1, by omega, by go_num, by rw [Hid, E1.out]; exact B4'.out⟩
          case measure => simp [intOf]; omega
        · have HB1 : Hid (Bf X wr u3 (T1 ++ nb tl ++ m.texts.flatMap eT)) := by
            have := HB.out
            rw [take_all eT (by have := LL.out.2.1; omega)] at this
            exact this
          obtain rfl : tl = k := by omega
          clear HB hlt hk
          generalize hT2 : T1 ++ nb tl ++ m.texts.flatMap eT = T2 at *
          clear hT2 R2 RT B4
          have RT : Hid (T2.length + (nb pl).length ≤ 1099511627776) := by have := R3.out; simp only [List.length_append] at this; show _ ≤ _; omega
          go_wp2_with (first
            | (go_at_call 22; (refine Calls.mono (num_any pl _ (by omega)) ?_; rintro e w3 ⟨v3, rfl, b3⟩; have B3 : Hid _ := bf_keep HB1.out b3.1; obtain ⟨g3, c3, rfl, hcl⟩ := bf_at b3 (nb_len _).2; have C3 : Hid _ := hcl; clear b3 hcl))
            | (at_builtin; (refine wpList_app rfl (.tmp 71) (.tmp 76) rfl X _ _ _ (nb (pl)).length _ (nb (pl)) rfl rfl B3.out rfl (nb_len _).2 C3.out (Nat.le_trans RT.out (by decide)) ?_; intro v4 w4 o4 gg; have B4 : Hid _ := o4; obtain ⟨d40, d41, d42, d43, dz4⟩ := BF.out w4 B4.out.1; clear o4 gg)))
          go_loopw [3, 81] (fun b i w' => ∃ k : Nat, k ≤ pl ∧ i = .int .i64 k ∧ Hid (Bf X w' b (T2 ++ nb pl ++ (m.pros.take k).flatMap enP))) (fun b i _ => pl - (intOf i).toNat)
          case atStart => exact ⟨0, Nat.zero_le _, rfl, by (show Bf _ _ _ _); rw [List.take_zero, List.flatMap_nil, List.append_nil]; exact B4.out⟩
          case round =>
            obtain ⟨k, hk, rfl, HB⟩ := hrel
            obtain ⟨d0, d1, d2, d3, dz⟩ := BF.out wr HB.out.1
            by_cases hlt : k < pl
            · obtain ⟨b, off, y, rfl, hbl, hx, ca, cl, cc, hK, hV⟩ := RowAt.get H.out.pros hlt
              obtain ⟨e0, e1, e2, e3⟩ := hK.bw HB.out.1 hbl
              have HV : Hid (PrV X y ca cl cc) := hV
              have hbw : b < wr.heap.size := by have := HB.out.1.size; omega
              have hcl : y.code.length = cl := hV.2.2.2.2.2.1
              have hclm : cl ≤ 9223372036854775807 := by have := hV.2.2.2.1; have := hV.2.2.2.2.1; unfold maxLen at this; omega
              have RR := room_take hx R3.out
              have E1 := take_snoc enP hx (T2 ++ nb pl)
              obtain ⟨MM, hMM⟩ : ∃ L, L = T2 ++ nb pl ++ (m.pros.take k).flatMap enP := ⟨_, rfl⟩
              rw [← hMM] at RR E1 HB
              have hen : enP y = [y.p, y.s, y.u, (cl : Int)].flatMap eS ++ y.code.flatMap enI := by simp [enP, hcl, eS, szn_nat cl hclm]
              rw [hen] at RR E1
              have HE1 : Hid (T2 ++ nb pl ++ (m.pros.take (k + 1)).flatMap enP = MM ++ [y.p, y.s, y.u, (cl : Int)].flatMap eS ++ y.code.flatMap enI) := by show _ = _; rw [E1]; simp
              have RA : Hid ((MM ++ [y.p, y.s, y.u, (cl : Int)].flatMap eS).length ≤ 1099511627776) := by show _ ≤ _; simp only [List.length_append] at RR ⊢; omega
              have RB : Hid ((MM ++ [y.p, y.s, y.u, (cl : Int)].flatMap eS ++ y.code.flatMap enI).length ≤ 1099511627776) := by show _ ≤ _; simp only [List.length_append] at RR ⊢; omega
              have HI4 : Hid (∀ (k : Nat) n, [y.p, y.s, y.u, (cl : Int)][k]? = some n → I64 n) := fun k n hn => by
                match k, hn with
                | 0, hn => simp at hn; subst hn; exact hV.1
                | 1, hn => simp at hn; subst hn; exact hV.2.1
                | 2, hn => simp at hn; subst hn; exact hV.2.2.1
                | 3, hn => simp at hn; subst hn; unfold I64; omega
              obtain ⟨wo, rfl⟩ : ∃ wo, wo = wr := ⟨_, rfl⟩
              obtain ⟨uo, rfl⟩ : ∃ uo, uo = u3 := ⟨_, rfl⟩
              obtain ⟨Y, hY⟩ : ∃ Y, Y = (wo.alloc (.cells #[.int .i64 y.p, .int .i64 y.s, .int .i64 y.u, .slice ca cl cc] 46)).alloc (.cells #[.int .i64 y.p, .int .i64 y.s, .int .i64 y.u, .int .i64 (cl : Int)] 3) := ⟨_, rfl⟩
              have HGY : Hid (BW wo Y) := by show BW _ _; rw [hY]; exact (by repeat (first | exact BW.refl _ | apply BW.alloc | apply BW.drewN | apply BW.drew))
              have HNo : Hid (uo.ownBlock ≠ some wo.heap.size ∧ uo.ownBlock ≠ some (wo.heap.size + 1)) := ⟨fun e => by have := World.ownsRow.lt HB.out.2 _ e; omega, fun e => by have := World.ownsRow.lt HB.out.2 _ e; omega⟩
              have hYz : wo.heap.size + 1 < Y.heap.size := by rw [hY]; simp
              have HP4 : Hid (∀ j, Y.cell? ⟨wo.heap.size, j, none⟩ = (#[.int .i64 y.p, .int .i64 y.s, .int .i64 y.u, .slice ca cl cc] : Array Value)[j]?) := fun j => by
                rw [hY]
                exact ((BW.alloc (BW.refl (wo.alloc (.cells #[.int .i64 y.p, .int .i64 y.s, .int .i64 y.u, .slice ca cl cc] 46))) _).cells wo.heap.size j (by simp)).trans (cell_new _ _ _ j)
              have HL4 : Hid (∀ j, Y.cell? ⟨wo.heap.size + 1, j, none⟩ = (#[.int .i64 y.p, .int .i64 y.s, .int .i64 y.u, .int .i64 (cl : Int)] : Array Value)[j]?) := fun j => by
                rw [hY, show wo.heap.size + 1 = (wo.alloc (.cells #[.int .i64 y.p, .int .i64 y.s, .int .i64 y.u, .slice ca cl cc] 46)).heap.size by simp]
                exact cell_new _ _ _ j
              have HYe : Hid (Y = _) := hY
              have HBY : Hid (Bf X Y uo MM) := bf_keep HB.out HGY.out
              clear hx RR E1 hMM hen hK hV hcl hY
              go_wp2_with (fail)
              rw [← HYe.out]
              go_loopw [3, 101] (fun b i w' => ∃ k : Nat, k ≤ 4 ∧ i = .int .i64 k ∧ Hid (Bf X w' b (MM ++ ([y.p, y.s, y.u, (cl : Int)].take k).flatMap eS)) ∧ Hid (Gd Y w' uo b)) (fun b i _ => 4 - (intOf i).toNat)
              case atStart => exact ⟨0, Nat.zero_le _, rfl, by (show Bf _ _ _ _); rw [List.take_zero, List.flatMap_nil, List.append_nil]; exact HBY.out, Gd.refl _ _⟩
              case round =>
                obtain ⟨k2, hk2, rfl, HB4, HG4⟩ := hrel
                obtain ⟨q1, z1, n1⟩ := HG4.out.at (B := wo.heap.size + 1) hYz HNo.out.2
                obtain ⟨q0, z0, n0⟩ := HG4.out.at (B := wo.heap.size) (by omega) HNo.out.1
                by_cases hlt2 : k2 < 4
                · obtain ⟨n, hx4⟩ : ∃ n, [y.p, y.s, y.u, (cl : Int)][k2]? = some n := ⟨_, List.getElem?_eq_getElem hlt2⟩
                  have dn : wr.cell? ⟨wo.heap.size + 1, k2, none⟩ = some (.int .i64 n) := (q1 k2).trans ((HL4.out k2).trans (by
                    match k2, hx4 with
                    | 0, hx4 => simp at hx4; subst hx4; rfl
                    | 1, hx4 => simp at hx4; subst hx4; rfl
                    | 2, hx4 => simp at hx4; subst hx4; rfl
                    | 3, hx4 => simp at hx4; subst hx4; rfl))
                  have wn : IntKind.u64.wrap n = (szn n : Int) := (szn_of n).1
                  have hn2 : szn n ≤ 18446744073709551615 := (szn_of n).2
                  have RR := room_take hx4 RA.out
                  have RH : Hid ((MM ++ ([y.p, y.s, y.u, (cl : Int)].take k2).flatMap eS).length + (nb (szn n)).length ≤ 1099511627776) := RR
                  have E1 : Hid (MM ++ ([y.p, y.s, y.u, (cl : Int)].take (k2 + 1)).flatMap eS = MM ++ ([y.p, y.s, y.u, (cl : Int)].take k2).flatMap eS ++ nb (szn n)) := take_snoc eS hx4 MM
                  clear hx4 RR q0 q1
                  generalize szn n = nn at *
                  go_wp2_with (first
                    | (go_at_call 22; (refine Calls.mono (num_any nn _ hn2) ?_; rintro e w1 ⟨v1, rfl, b1⟩; have B1 : Hid _ := bf_keep HB4.out b1.1; obtain ⟨g1, c1, rfl, hcl⟩ := bf_at b1 (nb_len _).2; have C1 : Hid _ := hcl; have G1 : Hid _ := Gd.trans HG4.out (gd_bw b1.1 _); clear b1 hcl))
                    | (at_builtin; (refine wpList_app rfl (.tmp 104) (.tmp 110) rfl X _ _ _ (nb (nn)).length _ (nb (nn)) rfl rfl B1.out rfl (nb_len _).2 C1.out (Nat.le_trans RH.out (by decide)) ?_; intro v2 w2 o2 gg; have B2 : Hid _ := o2; have G2 : Hid _ := Gd.trans G1.out gg; clear o2 gg)))
                  go_roundw
                  case rel => exact ⟨k2 + 1, by omega, by go_num, by rw [Hid, E1.out]; exact B2.out, G2⟩
                  case measure => simp [intOf]; omega
                · have hk24 : Hid (k2 = 4) := by show _ = _; omega
                  have dP3 : wr.cell? ⟨wo.heap.size, 3, none⟩ = some (.slice ca cl cc) := (q0 3).trans (HP4.out 3)
                  have HB5s : Hid (Bf X wr u3 (MM ++ [y.p, y.s, y.u, (cl : Int)].flatMap eS)) := by have := HB4.out; rw [hk24.out] at this; exact this
                  clear q0 q1 HB4 hk2 RA
                  generalize MM ++ [y.p, y.s, y.u, (cl : Int)].flatMap eS = M4 at *
                  go_wp2_with (fail)
                  go_loopw [3, 116] (fun b i w' => ∃ k : Nat, k ≤ cl ∧ i = .int .i64 k ∧ Hid (Bf X w' b (M4 ++ (y.code.take k).flatMap enI)) ∧ Hid (Gd Y w' uo b)) (fun b i _ => cl - (intOf i).toNat)
                  case atStart => exact ⟨0, Nat.zero_le _, rfl, by (show Bf _ _ _ _); rw [List.take_zero, List.flatMap_nil, List.append_nil]; exact HB5s.out, HG4⟩
                  case round =>
                    obtain ⟨k5, hk5, rfl, HB5, HG5⟩ := hrel
                    obtain ⟨q5, z5, n5⟩ := HG5.out.at (B := wo.heap.size) (by omega) HNo.out.1
                    have dP : wr.cell? ⟨wo.heap.size, 3, none⟩ = some (.slice ca cl cc) := (q5 3).trans (HP4.out 3)
                    clear q5
                    by_cases hlt5 : k5 < cl
                    · obtain ⟨b5, off5, ins, rfl, hbl5, hx5, hc5⟩ := RowAt.get HV.out.2.2.2.2.2 hlt5
                      obtain ⟨f0, f1, hop, ha5⟩ := hc5.bw HB5.out.1 _ _ _ hbl5
                      have HA5 : Hid (X.cell? ⟨b5, off5 + k5 * 2 + 1, none⟩ = some (.int .i64 ins.a)) := hc5.2.1
                      have hbw5 : b5 < wr.heap.size := by have := HB5.out.1.size; omega
                      obtain ⟨kop, hkop⟩ : ∃ kop : Nat, ins.op = (kop : Int) := ⟨ins.op.toNat, by omega⟩
                      have wn : IntKind.u64.wrap ins.a = (szn ins.a : Int) := (szn_of ins.a).1
                      have hn2 : szn ins.a ≤ 18446744073709551615 := (szn_of ins.a).2
                      have RR := room_take hx5 RB.out
                      have hei : enI ins = kop :: nb (szn ins.a) := by simp [enI, hkop]
                      rw [hei] at RR
                      simp only [List.length_append, List.length_cons] at RR
                      have RH1 : Hid ((M4 ++ (y.code.take k5).flatMap enI).length + 1 ≤ 1099511627776) := by show _ ≤ _; simp only [List.length_append]; omega
                      have RH2 : Hid ((M4 ++ (y.code.take k5).flatMap enI ++ [kop]).length + (nb (szn ins.a)).length ≤ 1099511627776) := by show _ ≤ _; simp only [List.length_append, List.length_cons, List.length_nil]; omega
                      have E1 : Hid (M4 ++ (y.code.take (k5 + 1)).flatMap enI = M4 ++ (y.code.take k5).flatMap enI ++ [kop] ++ nb (szn ins.a)) := by show _ = _; rw [take_snoc enI hx5 M4, hei]; simp
                      rw [hkop] at f0
                      clear hx5 RR hei hc5 hop ha5
                      generalize szn ins.a = nn at *
                      go_wp2_with (first
                        | (at_builtin; (refine wpList_app rfl (.tmp 119) (.tmp 126) rfl X _ _ _ 1 1 [kop] rfl rfl (Bf.alloc HB5.out _) rfl (by decide) ?nw (Nat.le_trans RH1.out (by decide)) ?_; (case nw => intro j u hu; rw [Addr.add_mid, Nat.zero_add, cell_new]; simpa [bs] using hu); intro v2 w2 o2 gg; have B2 : Hid _ := o2; have G2 : Hid _ := Gd.trans (Gd.alloc HG5.out _) gg; obtain ⟨q2, z2, n2⟩ := Gd.at G2.out (B := wo.heap.size) (by omega) HNo.out.1; have dP2 := (q2 3).trans (HP4.out 3); have f2 := (B2.out.1.cells b5 (off5 + k5 * 2 + 1) hbl5).trans HA5.out; have hbw2 : b5 < w2.heap.size := (by have := B2.out.1.size; omega); clear o2 gg q2))
                        | (go_at_call 22; (refine Calls.mono (num_any nn _ hn2) ?_; rintro e w1 ⟨v1, rfl, b1⟩; have B1 : Hid _ := bf_keep B2.out b1.1; obtain ⟨g1, c1, rfl, hcl⟩ := bf_at b1 (nb_len _).2; have C1 : Hid _ := hcl; have G1 : Hid _ := Gd.trans G2.out (gd_bw b1.1 _); clear b1 hcl))
                        | (at_builtin; (refine wpList_app rfl (.tmp 128) (.tmp 136) rfl X _ _ _ (nb (nn)).length _ (nb (nn)) rfl rfl B1.out rfl (nb_len _).2 C1.out (Nat.le_trans RH2.out (by decide)) ?_; intro v4 w4 o4 gg; have B4 : Hid _ := o4; have G4 : Hid _ := Gd.trans G1.out gg; clear o4 gg)))
                      go_roundw
                      case rel => exact ⟨k5 + 1, by omega, by go_num, by rw [Hid, E1.out]; exact B4.out, G4⟩
                      case measure => simp [intOf]; omega
                    · have HB6 : Hid (Bf X wr u3 (M4 ++ y.code.flatMap enI)) := by
                        have := HB5.out
                        rw [take_all enI (by have := HV.out.2.2.2.2.2.1; omega)] at this
                        exact this
                      clear HB5
                      go_wp2_with (fail)
                      exact ⟨⟨k + 1, by omega, by go_num, by rw [Hid, HE1.out]; exact HB6.out⟩, by simp [intOf]; omega⟩
            · have HB1 : Hid (Bf X wr u3 (T2 ++ nb pl ++ m.pros.flatMap enP)) := by
                have := HB.out
                rw [take_all enP (by have := LL.out.2.2.1; omega)] at this
                exact this
              obtain rfl : pl = k := by omega
              clear HB hlt hk
              generalize hT3 : T2 ++ nb pl ++ m.pros.flatMap enP = T3 at *
              clear hT3 R3 RT B4
              have RT : Hid (T3.length + (nb hl).length ≤ 1099511627776) := by have := R4.out; simp only [List.length_append] at this; show _ ≤ _; omega
              go_wp2_with (first
                | (go_at_call 22; (refine Calls.mono (num_any hl _ (by omega)) ?_; rintro e w3 ⟨v3, rfl, b3⟩; have B3 : Hid _ := bf_keep HB1.out b3.1; obtain ⟨g3, c3, rfl, hcl⟩ := bf_at b3 (nb_len _).2; have C3 : Hid _ := hcl; clear b3 hcl))
                | (at_builtin; (refine wpList_app rfl (.tmp 140) (.tmp 145) rfl X _ _ _ (nb (hl)).length _ (nb (hl)) rfl rfl B3.out rfl (nb_len _).2 C3.out (Nat.le_trans RT.out (by decide)) ?_; intro v4 w4 o4 gg; have B4 : Hid _ := o4; obtain ⟨d40, d41, d42, d43, dz4⟩ := BF.out w4 B4.out.1; clear o4 gg)))
              go_loopw [3, 150] (fun b i w' => ∃ k : Nat, k ≤ hl ∧ i = .int .i64 k ∧ Hid (Bf X w' b (T3 ++ nb hl ++ (m.tabs.take k).flatMap enT))) (fun b i _ => hl - (intOf i).toNat)
              case atStart => exact ⟨0, Nat.zero_le _, rfl, by (show Bf _ _ _ _); rw [List.take_zero, List.flatMap_nil, List.append_nil]; exact B4.out⟩
              case round =>
                obtain ⟨k, hk, rfl, HB⟩ := hrel
                obtain ⟨d0, d1, d2, d3, dz⟩ := BF.out wr HB.out.1
                by_cases hlt : k < hl
                · obtain ⟨b, off, y, rfl, hbl, hx, oa, ol, oc, hK, hV⟩ := RowAt.get H.out.tabs hlt
                  obtain ⟨e0, e1, e2⟩ := hK.bw HB.out.1 hbl
                  have HV : Hid (IntsAt X oa ol y.ops) := hV.2.2.2
                  have hbw : b < wr.heap.size := by have := HB.out.1.size; omega
                  have hol : y.ops.length = ol := hV.2.2.2.1
                  have holm : ol ≤ 9223372036854775807 := by have := hV.2.2.1; omega
                  have wo1 : IntKind.u64.wrap (ol : Int) = (ol : Int) := u64w _ (by omega) (by omega)
                  have RR := room_take hx R4.out
                  have E1 := take_snoc enT hx (T3 ++ nb hl)
                  obtain ⟨MM, hMM⟩ : ∃ L, L = T3 ++ nb hl ++ (m.tabs.take k).flatMap enT := ⟨_, rfl⟩
                  rw [← hMM] at RR E1 HB
                  have hen : enT y = nb ol ++ y.ops.flatMap eS ++ [flg y] := by simp [enT, hol]
                  rw [hen] at RR E1
                  simp only [List.length_append, List.length_cons, List.length_nil] at RR
                  have HE1 : Hid (T3 ++ nb hl ++ (m.tabs.take (k + 1)).flatMap enT = MM ++ nb ol ++ y.ops.flatMap eS ++ [flg y]) := by show _ = _; rw [E1]; simp
                  have RA : Hid (MM.length + (nb ol).length ≤ 1099511627776) := by show _ ≤ _; omega
                  have RB : Hid ((MM ++ nb ol ++ y.ops.flatMap eS).length ≤ 1099511627776) := by show _ ≤ _; simp only [List.length_append]; omega
                  have RF : Hid ((MM ++ nb ol ++ y.ops.flatMap eS).length + 1 ≤ 1099511627776) := by show _ ≤ _; simp only [List.length_append]; omega
                  obtain ⟨ops, rt, fn⟩ := y
                  dsimp only at e0 e1 e2
                  obtain ⟨wo, rfl⟩ : ∃ wo, wo = wr := ⟨_, rfl⟩
                  obtain ⟨uo, rfl⟩ : ∃ uo, uo = u3 := ⟨_, rfl⟩
                  obtain ⟨Y, hY⟩ : ∃ Y, Y = wo.alloc (.cells #[.slice oa ol oc, .bool rt, .bool fn] 50) := ⟨_, rfl⟩
                  have HGY : Hid (BW wo Y) := by show BW _ _; rw [hY]; exact (by repeat (first | exact BW.refl _ | apply BW.alloc | apply BW.drewN | apply BW.drew))
                  have HNo : Hid (uo.ownBlock ≠ some wo.heap.size) := fun e => by have := World.ownsRow.lt HB.out.2 _ e; omega
                  have hYz : wo.heap.size < Y.heap.size := by rw [hY]; simp
                  have HP4 : Hid (∀ j, Y.cell? ⟨wo.heap.size, j, none⟩ = (#[.slice oa ol oc, .bool rt, .bool fn] : Array Value)[j]?) := fun j => by
                    rw [hY]; exact cell_new _ _ _ j
                  have HYe : Hid (Y = wo.alloc (.cells #[.slice oa ol oc, .bool rt, .bool fn] 50)) := hY
                  have HBY : Hid (Bf X Y uo MM) := bf_keep HB.out HGY.out
                  clear hx RR E1 hMM hen hK hV hol hY
                  go_wp2_with (first
                    | (go_at_call 22; (rw [← HYe.out]; refine Calls.mono (num_any ol _ (by omega)) ?_; rintro e w1 ⟨v1, rfl, b1⟩; have B1 : Hid _ := bf_keep HBY.out b1.1; obtain ⟨g1, c1, rfl, hcl⟩ := bf_at b1 (nb_len _).2; have C1 : Hid _ := hcl; have G1 : Hid (Gd Y w1 uo uo) := gd_bw b1.1 _; clear b1 hcl))
                    | (at_builtin; (refine wpList_app rfl (.tmp 158) (.tmp 163) rfl X _ _ _ (nb ol).length _ (nb ol) rfl rfl B1.out rfl (nb_len _).2 C1.out (Nat.le_trans RA.out (by decide)) ?_; intro v2 w2 o2 gg; have B2 : Hid _ := o2; have G2 : Hid (Gd Y w2 uo v2) := Gd.trans G1.out gg; obtain ⟨q2, z2, n2⟩ := Gd.at G2.out (B := wo.heap.size) hYz HNo.out; have dP2 : w2.cell? ⟨wo.heap.size, 0, none⟩ = some (.slice oa ol oc) := (q2 0).trans (HP4.out 0); clear o2 gg q2)))
                  go_loopw [3, 168] (fun b i w' => ∃ k : Nat, k ≤ ol ∧ i = .int .i64 k ∧ Hid (Bf X w' b (MM ++ nb ol ++ (ops.take k).flatMap eS)) ∧ Hid (Gd Y w' uo b)) (fun b i _ => ol - (intOf i).toNat)
                  case atStart => exact ⟨0, Nat.zero_le _, rfl, by (show Bf _ _ _ _); rw [List.take_zero, List.flatMap_nil, List.append_nil]; exact B2.out, G2⟩
                  case round =>
                    obtain ⟨k2, hk2, rfl, HB4, HG4⟩ := hrel
                    obtain ⟨q1, z1, n1⟩ := HG4.out.at (B := wo.heap.size) hYz HNo.out
                    have dP0 : wr.cell? ⟨wo.heap.size, 0, none⟩ = some (.slice oa ol oc) := (q1 0).trans (HP4.out 0)
                    have dP1 : wr.cell? ⟨wo.heap.size, 1, none⟩ = some (.bool rt) := (q1 1).trans (HP4.out 1)
                    have dP2' : wr.cell? ⟨wo.heap.size, 2, none⟩ = some (.bool fn) := (q1 2).trans (HP4.out 2)
                    clear q1
                    by_cases hlt2 : k2 < ol
                    · obtain ⟨b7, off7, n, rfl, hbl7, hx7, hn7, hc7⟩ := IntsAt.get HV.out hlt2
                      have dn := (HB4.out.1.cells b7 (off7 + k2) hbl7).trans hc7
                      have hbw7 : b7 < wr.heap.size := by have := HB4.out.1.size; omega
                      have wn : IntKind.u64.wrap n = (szn n : Int) := (szn_of n).1
                      have hn2 : szn n ≤ 18446744073709551615 := (szn_of n).2
                      have RR := room_take hx7 RB.out
                      have RH : Hid ((MM ++ nb ol ++ (ops.take k2).flatMap eS).length + (nb (szn n)).length ≤ 1099511627776) := RR
                      have E1 : Hid (MM ++ nb ol ++ (ops.take (k2 + 1)).flatMap eS = MM ++ nb ol ++ (ops.take k2).flatMap eS ++ nb (szn n)) := take_snoc eS hx7 (MM ++ nb ol)
                      clear hx7 RR hc7
                      generalize szn n = nn at *
                      go_wp2_with (first
                        | (go_at_call 22; (refine Calls.mono (num_any nn _ hn2) ?_; rintro e w1 ⟨v1, rfl, b1⟩; have B1 : Hid _ := bf_keep HB4.out b1.1; obtain ⟨g1, c1, rfl, hcl⟩ := bf_at b1 (nb_len _).2; have C1 : Hid _ := hcl; have G1 : Hid _ := Gd.trans HG4.out (gd_bw b1.1 _); clear b1 hcl))
                        | (at_builtin; (refine wpList_app rfl (.tmp 171) (.tmp 178) rfl X _ _ _ (nb (nn)).length _ (nb (nn)) rfl rfl B1.out rfl (nb_len _).2 C1.out (Nat.le_trans RH.out (by decide)) ?_; intro v2 w2 o2 gg; have B2 : Hid _ := o2; have G2 : Hid _ := Gd.trans G1.out gg; clear o2 gg)))
                      go_roundw
                      case rel => exact ⟨k2 + 1, by omega, by go_num, by rw [Hid, E1.out]; exact B2.out, G2⟩
                      case measure => simp [intOf]; omega
                    · have HB8 : Hid (Bf X wr u3 (MM ++ nb ol ++ ops.flatMap eS)) := by
                        have := HB4.out
                        rw [take_all eS (by have := HV.out.1; omega)] at this
                        exact this
                      have w11 : IntKind.u8.wrap 1 = 1 := by decide +kernel
                      have w22 : IntKind.u8.wrap 2 = 2 := by decide +kernel
                      have w12 : IntKind.u8.wrap 3 = 3 := by decide +kernel
                      clear HB4 d0 d1 d2 d3 e0 e1 e2
                      cases rt <;> cases fn
                      · go_wp2_with (first | (at_builtin; (refine wpList_app rfl (.tmp 189) (.tmp 191) rfl X _ _ _ 1 1 [0] rfl rfl (Bf.alloc HB8.out _) rfl (by decide) ?nw (Nat.le_trans RF.out (by decide)) ?_; (case nw => intro j u hu; rw [Addr.add_mid, Nat.zero_add, cell_new]; simpa [bs, w11, w22, w12] using hu); intro v2 w2 o2 gg; have B2 : Hid _ := o2; clear o2 gg)))
                        exact ⟨⟨k + 1, by omega, by go_num, by rw [Hid, HE1.out]; exact B2.out⟩, by simp [intOf]; omega⟩
                      · go_wp2_with (first | (at_builtin; (refine wpList_app rfl (.tmp 189) (.tmp 191) rfl X _ _ _ 1 1 [2] rfl rfl (Bf.alloc HB8.out _) rfl (by decide) ?nw (Nat.le_trans RF.out (by decide)) ?_; (case nw => intro j u hu; rw [Addr.add_mid, Nat.zero_add, cell_new]; simpa [bs, w11, w22, w12] using hu); intro v2 w2 o2 gg; have B2 : Hid _ := o2; clear o2 gg)))
                        exact ⟨⟨k + 1, by omega, by go_num, by rw [Hid, HE1.out]; exact B2.out⟩, by simp [intOf]; omega⟩
                      · go_wp2_with (first | (at_builtin; (refine wpList_app rfl (.tmp 189) (.tmp 191) rfl X _ _ _ 1 1 [1] rfl rfl (Bf.alloc HB8.out _) rfl (by decide) ?nw (Nat.le_trans RF.out (by decide)) ?_; (case nw => intro j u hu; rw [Addr.add_mid, Nat.zero_add, cell_new]; simpa [bs, w11, w22, w12] using hu); intro v2 w2 o2 gg; have B2 : Hid _ := o2; clear o2 gg)))
                        exact ⟨⟨k + 1, by omega, by go_num, by rw [Hid, HE1.out]; exact B2.out⟩, by simp [intOf]; omega⟩
                      · go_wp2_with (first | (at_builtin; (refine wpList_app rfl (.tmp 189) (.tmp 191) rfl X _ _ _ 1 1 [3] rfl rfl (Bf.alloc HB8.out _) rfl (by decide) ?nw (Nat.le_trans RF.out (by decide)) ?_; (case nw => intro j u hu; rw [Addr.add_mid, Nat.zero_add, cell_new]; simpa [bs, w11, w22, w12] using hu); intro v2 w2 o2 gg; have B2 : Hid _ := o2; clear o2 gg)))
                        exact ⟨⟨k + 1, by omega, by go_num, by rw [Hid, HE1.out]; exact B2.out⟩, by simp [intOf]; omega⟩
                · have HB1 : Hid (Bf X wr u3 (T3 ++ nb hl ++ m.tabs.flatMap enT)) := by
                    have := HB.out
                    rw [take_all enT (by have := LL.out.2.2.2; omega)] at this
                    exact this
                  clear HB
                  go_wp2_with (fail)
                  go_ret
                  exact ⟨_, rfl, bf_base (by rw [HE.out]; exact HB1.out) HWX.out⟩

end Go.Proofs.YtndhhmgbekcfoaaDoor
