import Derived.Test.YtinigblglaolmaaDoorT1
import Derived.Test.YtinigblglaolmaaDoorQ1
namespace Go.Proofs.YtinigblglaolmaaDoor
open Go.RowKit
set_option linter.unusedVariables false
set_option linter.unusedSimpArgs false

theorem own_zero5 (w : World) (B : Nat) (hB : B ≤ w.heap.size) : (w.alloc (.cells #[] 5)).ownsRow B 5 1 (.slice (some ⟨w.heap.size, 0, none⟩) 0 0) 0 (Lib.byteCells []) :=
  ⟨rfl, .inr ⟨w.heap.size, 0, #[], rfl, hB, heap_alloc_new _ _, Nat.le_refl _, Nat.zero_le _, rfl, rfl⟩⟩
/-- The loop of the reference's text: R is what is to come out. -/
def XR (s : ByteArray) (w : World) (R : Res (List UInt8)) (k : Nat) (v i : Value) (wr : World) : Prop :=
  ∃ (acc m : List UInt8) (q : Nat), k = m.length ∧ i = .int .i64 q ∧ At s q m ∧ (∃ g cap, v = .slice (some ⟨g, 0, none⟩) acc.length cap) ∧ wr.ownsRow (w.heap.size + 1) 5 1 v acc.length (Lib.byteCells acc) ∧ txt acc m = R ∧ acc.length + m.length ≤ 100000 ∧ BW w wr ∧ w.heap.size + 1 ≤ wr.heap.size ∧ wr.heap[w.heap.size]? = some (.cells #[.int .u8 0, .string ⟨#[]⟩, .int .i64 0, .int .i64 0, .int .i64 0, .int .i64 0] 46 (0, 0))
theorem XR.next {s : ByteArray} {w wr w2 : World} {R : Res (List UInt8)} {acc t : List UInt8} {d : UInt8} {q : Nat} {v v' : Value} {o : Obj} (hA : At s q t) (hown : wr.ownsRow (w.heap.size + 1) 5 1 v acc.length (Lib.byteCells acc)) (hT : txt (acc ++ [d]) t = R) (hl : acc.length + t.length + 1 ≤ 100000) (hbw : BW w wr) (hz : w.heap.size + 1 ≤ wr.heap.size) (hb : wr.heap[w.heap.size]? = some (.cells #[.int .u8 0, .string ⟨#[]⟩, .int .i64 0, .int .i64 0, .int .i64 0, .int .i64 0] 46 (0, 0)))
    (hg : (wr.alloc o).grownBy w2 v.ownBlock) (hown' : w2.ownsRow (w.heap.size + 1) 5 1 v' (acc.length + 1) (Lib.byteCells acc ++ [.int .u8 d.toNat])) : XR s w R t.length v' (.int .i64 q) w2 := by
  have hbel : Below (w.heap.size + 1) wr w2 := ((Below.refl (w.heap.size + 1) wr).alloc hz _).grown hg (by simp; omega) (fun k hk => own_ge hown k hk)
  have e1 : Lib.byteCells (acc ++ [d]) = Lib.byteCells acc ++ [.int .u8 d.toNat] := by simp [Lib.byteCells]
  have e2 : (acc ++ [d]).length = acc.length + 1 := by simp
  refine ⟨acc ++ [d], t, q, rfl, rfl, hA, ?_, by rw [e1, e2]; exact hown', hT, by simp; omega, Below.trans hbw (Below.mono hbel (by omega)), Nat.le_trans hz hbel.size, (hbel.block _ (by omega)).trans hb⟩
  rw [e2]
  exact Go.Joins.ownsRow_form hown' (by omega)
theorem dig_parts {l t : List UInt8} {a : Int} (h : dig l = .ok a t) : ∃ c, hx (c.toNat : Int) = some a ∧ l = c :: t := by
  unfold dig at h
  split at h
  · cases h
  · rename_i c r
    split at h
    · cases h
    · rename_i e1; cases h; exact ⟨c, e1, rfl⟩
def xv (N p : Nat) : Res (List UInt8) → Value
  | .error k t => rvv 0 ⟨#[]⟩ 0 0 ((N - t.length : Nat) : Int) k
  | .ok b t => rvv 5 ⟨b.toArray⟩ 0 p ((N - t.length : Nat) : Int) 0
set_option maxRecDepth 100000 in
set_option maxHeartbeats 8000000 in
theorem refText_l (s : ByteArray) (hs : s.size ≤ 90000) (p : Nat) (r : List UInt8) (hA0 : At s (p + 1) r) (w : World) (R : Res (List UInt8)) (hR : txt [] r = R) :
    Calls Tryd.prog 20 #[.string s, .int .i64 p] w fun e w' => e = .returned (xv s.size p R) ∧ BW w w' := by
  obtain ⟨i0, hi, hz0, hz1, hz2⟩ := info_parts Tryd.info5
  have hps := hA0.1
  have x1 : IntKind.i64.wrap ((p : Int) + 1) = p + 1 := i64w _ (by omega) (by omega)
  have H0 : Hid (XR s w R r.length (.slice (some ⟨w.heap.size + 1, 0, none⟩) 0 0) (.int .i64 ((p : Int) + 1)) ((w.alloc (.cells #[.int .u8 0, .string ⟨#[]⟩, .int .i64 0, .int .i64 0, .int .i64 0, .int .i64 0] 46)).alloc (.cells #[] 5))) := by
    have hz := own_zero5 (w.alloc (.cells #[.int .u8 0, .string ⟨#[]⟩, .int .i64 0, .int .i64 0, .int .i64 0, .int .i64 0] 46)) (w.heap.size + 1) (by simp)
    refine ⟨[], r, p + 1, rfl, by simp, hA0, ⟨_, _, rfl⟩, by simpa using hz, hR, by simp; rw [hA0.len]; omega, (by repeat (first | exact BW.refl _ | apply BW.alloc | apply BW.drewN | apply BW.drew)), by simp, ?_⟩
    rw [Lib.alloc_old _ _ _ (by simp)]
    exact heap_alloc_new _ _
  clear hR
  go_enter Tryd.func20, Tryd.ntmps20
  go_wp2_with (fail)
  go_loopg [5, 6] r.length (fun k v i wr => XR s w R k v i wr)
  case atStart => exact H0.out
  case round =>
    clear H0
    obtain ⟨acc, m, q, rfl, rfl, hA, ⟨g, cap, rfl⟩, hown, hT, hn, hbw, hz, hb⟩ := hrel
    have c0 : wr.cell? ⟨w.heap.size, 0, none⟩ = some (.int .u8 0) := by simp only [World.cell?, hb]; rfl
    have c1 : wr.cell? ⟨w.heap.size, 1, none⟩ = some (.string ⟨#[]⟩) := by simp only [World.cell?, hb]; rfl
    have c2 : wr.cell? ⟨w.heap.size, 2, none⟩ = some (.int .i64 0) := by simp only [World.cell?, hb]; rfl
    have c3 : wr.cell? ⟨w.heap.size, 3, none⟩ = some (.int .i64 0) := by simp only [World.cell?, hb]; rfl
    have c4 : wr.cell? ⟨w.heap.size, 4, none⟩ = some (.int .i64 0) := by simp only [World.cell?, hb]; rfl
    have c5 : wr.cell? ⟨w.heap.size, 5, none⟩ = some (.int .i64 0) := by simp only [World.cell?, hb]; rfl
    have cz : ∀ o, wr.frozen? ⟨w.heap.size, o, none⟩ = false := fun o => Lib.frozen_of_heap hb o
    cases m with
    | nil =>
      obtain rfl := hA.nil
      rw [txt_nil] at hT
      subst hT
      have hq' : ¬ (s.size : Int) < s.size := by omega
      go_wp2_with fail
      refine endR rfl rfl (set6 hb) ⟨by simp [xv], hbw.set6 (Nat.le_refl _)⟩
    | cons c t =>
      obtain ⟨hq, hc, hA1⟩ := hA.cons
      have hq' : (q : Int) < s.size := by omega
      simp only [List.length_cons] at hn
      by_cases h1 : c = 34
      · subst h1
        rw [txt_end] at hT
        subst hT
        have e1 : (s[q].toNat : Int) = 34 := by rw [hc]; rfl
        have hconv := conv_row wr (w.heap.size + 1) g cap acc acc.length rfl hown
        have x2 : IntKind.i64.wrap ((q : Int) + 1) = q + 1 := i64w _ (by omega) (by omega)
        have hpl := hA1.place
        clear hown
        go_wp2_with fail
        refine endR rfl rfl (set6 hb) ⟨?_, hbw.set6 (Nat.le_refl _)⟩
        unfold xv; dsimp only; rw [hpl]; simp
      · have g1 : ¬ (s[q].toNat : Int) = 34 := fun e => h1 (hc ▸ UInt8.toNat_inj.1 (by simpa using (by omega : s[q].toNat = 34)))
        by_cases h2 : c = 92
        · subst h2
          have e2 : (s[q].toNat : Int) = 92 := by rw [hc]; rfl
          have x2 : IntKind.i64.wrap ((q : Int) + 1) = q + 1 := i64w _ (by omega) (by omega)
          have x3 : IntKind.i64.wrap ((q : Int) + 2) = q + 2 := i64w _ (by omega) (by omega)
          cases t with
          | nil =>
            have hqn := hA1.nil
            rw [txt_esc_no acc [] [] 11 rfl] at hT
            subst hT
            have f1 : (s.size : Int) ≤ (q : Int) + 1 := by omega
            clear hown
            go_wp2_with fail
            refine endR rfl rfl (set6 hb) ⟨by simp [xv], hbw.set6 (Nat.le_refl _)⟩
          | cons d t =>
            obtain ⟨hq1, hd, hA2⟩ := hA1.cons
            simp only [List.length_cons] at hn
            have f1 : ¬ (s.size : Int) ≤ (q : Int) + 1 := by omega
            have f2 : (q : Int) + 1 < s.size := by omega
            by_cases k1 : d = 34 ∨ d = 92
            · rw [txt_esc_ok acc (d :: t) t d (by simp [esb, k1])] at hT
              have hT' : Hid _ := hT
              clear hT
              rcases k1 with rfl | rfl
              · have e3 : (s[q + 1].toNat : Int) = 34 := by rw [hd]; rfl
                go_wp2_with (at_builtin; refine wpList_append_own _ rfl _ _ 52 rfl (w.heap.size + 1) 5 i0 (.int .u8 0) 1 1 Tryd.underlying52 hi hz0 hz1 hz2 rfl (by decide) _ _ _ rfl (hown.alloc _) ⟨wr.heap.size, 0, none⟩ 1 1 [.int .u8 34] rfl rfl (cells_new _ _ _) (by intro u hu; simp at hu; subst hu; rfl) (by unfold maxLen; simp [Lib.byteCells]; omega) (by simp [Lib.byteCells]; omega) (by simp; omega) ?_)
                intro v' w2 hown' hgrow _
                have hN : Hid _ := XR.next (R := R) (d := 34) hA2 hown hT'.out (by omega) hbw hz hb hgrow hown'
                go_wp2_with fail
                go_roundg t.length
                case measure => simp; omega
                case rel => exact hN.out
              · have e3 : (s[q + 1].toNat : Int) = 92 := by rw [hd]; rfl
                go_wp2_with (at_builtin; refine wpList_append_own _ rfl _ _ 52 rfl (w.heap.size + 1) 5 i0 (.int .u8 0) 1 1 Tryd.underlying52 hi hz0 hz1 hz2 rfl (by decide) _ _ _ rfl (hown.alloc _) ⟨wr.heap.size, 0, none⟩ 1 1 [.int .u8 92] rfl rfl (cells_new _ _ _) (by intro u hu; simp at hu; subst hu; rfl) (by unfold maxLen; simp [Lib.byteCells]; omega) (by simp [Lib.byteCells]; omega) (by simp; omega) ?_)
                intro v' w2 hown' hgrow _
                have hN : Hid _ := XR.next (R := R) (d := 92) hA2 hown hT'.out (by omega) hbw hz hb hgrow hown'
                go_wp2_with fail
                go_roundg t.length
                case measure => simp; omega
                case rel => exact hN.out
            · have m1 : ¬ (s[q + 1].toNat : Int) = 34 := fun e => k1 (.inl (hd ▸ UInt8.toNat_inj.1 (by simpa using (by omega : s[q + 1].toNat = 34))))
              have m2 : ¬ (s[q + 1].toNat : Int) = 92 := fun e => k1 (.inr (hd ▸ UInt8.toNat_inj.1 (by simpa using (by omega : s[q + 1].toNat = 92))))
              by_cases k2 : d = 110
              · subst k2
                rw [txt_esc_ok acc (110 :: t) t 10 (by rw [esb, if_neg (by decide), if_pos rfl])] at hT
                have hT' : Hid _ := hT
                clear hT
                have e3 : (s[q + 1].toNat : Int) = 110 := by rw [hd]; rfl
                go_wp2_with (at_builtin; refine wpList_append_own _ rfl _ _ 52 rfl (w.heap.size + 1) 5 i0 (.int .u8 0) 1 1 Tryd.underlying52 hi hz0 hz1 hz2 rfl (by decide) _ _ _ rfl (hown.alloc _) ⟨wr.heap.size, 0, none⟩ 1 1 [.int .u8 10] rfl rfl (cells_new _ _ _) (by intro u hu; simp at hu; subst hu; rfl) (by unfold maxLen; simp [Lib.byteCells]; omega) (by simp [Lib.byteCells]; omega) (by simp; omega) ?_)
                intro v' w2 hown' hgrow _
                have hN : Hid _ := XR.next (R := R) (d := 10) hA2 hown hT'.out (by omega) hbw hz hb hgrow hown'
                go_wp2_with fail
                go_roundg t.length
                case measure => simp; omega
                case rel => exact hN.out
              · have m3 : ¬ (s[q + 1].toNat : Int) = 110 := fun e => k2 (hd ▸ UInt8.toNat_inj.1 (by simpa using (by omega : s[q + 1].toNat = 110)))
                by_cases k3 : d = 120
                · subst k3
                  have e3 : (s[q + 1].toNat : Int) = 120 := by rw [hd]; rfl
                  have x4 : IntKind.i64.wrap ((q : Int) + 3) = q + 3 := i64w _ (by omega) (by omega)
                  have x5 : IntKind.i64.wrap ((q : Int) + 4) = q + 4 := i64w _ (by omega) (by omega)
                  go_wp2_with fail
                  go_loop [8, 9] (fun n i => (i = .int .i64 2 ∧ n = .int .u8 0) ∨ (i = .int .i64 3 ∧ ∃ a t2, dig t = .ok a t2 ∧ n = .int .u8 a) ∨ (i = .int .i64 4 ∧ ∃ a t2 b u, dig t = .ok a t2 ∧ dig t2 = .ok b u ∧ n = .int .u8 (16 * a + b))) (fun _ i => 4 - (intOf i).toNat)
                  case atStart => exact .inl ⟨rfl, rfl⟩
                  case round =>
                    rcases hrel with ⟨rfl, rfl⟩ | ⟨rfl, a, t2, hd1, rfl⟩ | ⟨rfl, a, t2, b, u, hd1, hd2, rfl⟩
                    · cases t with
                      | nil =>
                        have hqn := hA2.nil
                        rw [txt_esc_no acc [120] [] 11 (esb_x1 rfl)] at hT
                        subst hT
                        have f3 : (s.size : Int) ≤ (q : Int) + 2 := by omega
                        clear hown
                        go_wp2_with fail
                        refine endR rfl rfl (set6 hb) ⟨by simp [xv], hbw.set6 (Nat.le_refl _)⟩
                      | cons h t =>
                        obtain ⟨hq2, hh, hA3⟩ := hA2.cons
                        have f3 : ¬ (s.size : Int) ≤ (q : Int) + 2 := by omega
                        have f4 : (q : Int) + 2 < s.size := by omega
                        cases hv : hx (h.toNat : Int) with
                        | none =>
                          have hd1 : dig (h :: t) = .error 10 (h :: t) := by simp [dig, hv]
                          rw [txt_esc_no acc (120 :: h :: t) (h :: t) 10 (esb_x1 hd1)] at hT
                          subst hT
                          have hpl := hA2.place
                          have hC : ∀ w, Calls Tryd.prog 29 #[.int .u8 h.toNat] w fun e w' => e = .returned (.tuple #[.int .u8 0, .bool false]) ∧ w' = w := fun w => by
                            have := refHex_any (h.toNat : Int) w
                            rw [hv] at this
                            exact this
                          clear hown
                          go_wp2_with (go_at_call 29; refine (hC _).mono ?_; rintro e w' ⟨rfl, rfl⟩)
                          refine endR rfl rfl (set6 hb) ⟨?_, hbw.set6 (Nat.le_refl _)⟩
                          unfold xv; dsimp only; rw [hpl, show ((q + 1 + 1 : Nat) : Int) = (q : Int) + 2 by omega]; rfl
                        | some a =>
                          have hd1 : dig (h :: t) = .ok a t := by simp [dig, hv]
                          obtain ⟨a0, a1⟩ := dig_lt hd1
                          have hC : ∀ w, Calls Tryd.prog 29 #[.int .u8 h.toNat] w fun e w' => e = .returned (.tuple #[.int .u8 a, .bool true]) ∧ w' = w := fun w => by
                            have := refHex_any (h.toNat : Int) w
                            rw [hv] at this
                            exact this
                          have x6 : IntKind.u8.wrap a = a := u8w _ (by omega) (by omega)
                          have hN : Hid _ := hd1
                          clear hd1 hv hT
                          go_wp2_with (go_at_call 29; refine (hC _).mono ?_; rintro e w' ⟨rfl, rfl⟩)
                          go_round
                          case rel => exact .inr (.inl ⟨rfl, a, t, hN.out, rfl⟩)
                          case measure => simp [intOf]
                    · obtain ⟨h, hxa, rfl⟩ := dig_parts hd1
                      obtain ⟨hq2, hh, hA3⟩ := hA2.cons
                      obtain ⟨a0, a1⟩ := dig_lt hd1
                      have x6 : IntKind.u8.wrap (16 * a) = 16 * a := u8w _ (by omega) (by omega)
                      cases t2 with
                      | nil =>
                        have hqn := hA3.nil
                        rw [txt_esc_no acc [120, h] [] 11 (esb_x2 hd1 rfl)] at hT
                        subst hT
                        have f3 : (s.size : Int) ≤ (q : Int) + 3 := by omega
                        clear hown hd1
                        go_wp2_with fail
                        refine endR rfl rfl (set6 hb) ⟨by simp [xv], hbw.set6 (Nat.le_refl _)⟩
                      | cons h2 t3 =>
                        obtain ⟨hq3, hh2, hA4⟩ := hA3.cons
                        have f3 : ¬ (s.size : Int) ≤ (q : Int) + 3 := by omega
                        have f4 : (q : Int) + 3 < s.size := by omega
                        cases hv : hx (h2.toNat : Int) with
                        | none =>
                          have hd2 : dig (h2 :: t3) = .error 10 (h2 :: t3) := by simp [dig, hv]
                          rw [txt_esc_no acc (120 :: h :: h2 :: t3) (h2 :: t3) 10 (esb_x2 hd1 hd2)] at hT
                          subst hT
                          have hpl := hA3.place
                          have hC : ∀ w, Calls Tryd.prog 29 #[.int .u8 h2.toNat] w fun e w' => e = .returned (.tuple #[.int .u8 0, .bool false]) ∧ w' = w := fun w => by
                            have := refHex_any (h2.toNat : Int) w
                            rw [hv] at this
                            exact this
                          clear hown hd1 hd2
                          go_wp2_with (go_at_call 29; refine (hC _).mono ?_; rintro e w' ⟨rfl, rfl⟩)
                          refine endR rfl rfl (set6 hb) ⟨?_, hbw.set6 (Nat.le_refl _)⟩
                          unfold xv; dsimp only; rw [hpl, show ((q + 1 + 1 + 1 : Nat) : Int) = (q : Int) + 3 by omega]; rfl
                        | some b =>
                          have hd2 : dig (h2 :: t3) = .ok b t3 := by simp [dig, hv]
                          obtain ⟨b0, b1⟩ := dig_lt hd2
                          have hC : ∀ w, Calls Tryd.prog 29 #[.int .u8 h2.toNat] w fun e w' => e = .returned (.tuple #[.int .u8 b, .bool true]) ∧ w' = w := fun w => by
                            have := refHex_any (h2.toNat : Int) w
                            rw [hv] at this
                            exact this
                          have x7 : IntKind.u8.wrap (16 * a + b) = 16 * a + b := u8w _ (by omega) (by omega)
                          have hN : Hid (dig (h :: h2 :: t3) = .ok a (h2 :: t3) ∧ dig (h2 :: t3) = .ok b t3) := ⟨hd1, hd2⟩
                          clear hd1 hd2 hv hT
                          go_wp2_with (go_at_call 29; refine (hC _).mono ?_; rintro e w' ⟨rfl, rfl⟩)
                          go_round
                          case rel => exact .inr (.inr ⟨rfl, a, _, b, t3, hN.out.1, hN.out.2, rfl⟩)
                          case measure => simp [intOf]
                    · obtain ⟨h, _, rfl⟩ := dig_parts hd1
                      obtain ⟨h2, _, rfl⟩ := dig_parts hd2
                      obtain ⟨hq2, hh, hA3⟩ := hA2.cons
                      obtain ⟨hq3, hh2, hA4⟩ := hA3.cons
                      obtain ⟨a0, a1⟩ := dig_lt hd1
                      obtain ⟨b0, b1⟩ := dig_lt hd2
                      rw [txt_esc_ok acc (120 :: h :: h2 :: u) u _ (esb_x3 hd1 hd2)] at hT
                      have hT' : Hid _ := hT
                      simp only [List.length_cons] at hn
                      have hD : (16 * a + b : Int) = ((UInt8.ofNat (16 * a.toNat + b.toNat)).toNat : Int) := by rw [UInt8.toNat_ofNat']; omega
                      clear hT hd1 hd2 hh hh2
                      rw [hD]
                      generalize UInt8.ofNat (16 * a.toNat + b.toNat) = D at *
                      clear hD
                      go_wp2_with (at_builtin; refine wpList_append_own _ rfl _ _ 52 rfl (w.heap.size + 1) 5 i0 (.int .u8 0) 1 1 Tryd.underlying52 hi hz0 hz1 hz2 rfl (by decide) _ _ _ rfl (hown.alloc _) ⟨wr.heap.size, 0, none⟩ 1 1 [.int .u8 D.toNat] rfl rfl (cells_new _ _ _) (by intro u hu; simp at hu; subst hu; rfl) (by unfold maxLen; simp [Lib.byteCells]; omega) (by simp [Lib.byteCells]; omega) (by simp; omega) ?_)
                      intro v' w2 hown' hgrow _
                      have hN : Hid _ := XR.next (R := R) (d := D) hA4 hown hT'.out (by omega) hbw hz hb hgrow hown'
                      go_wp2_with fail
                      go_roundg u.length
                      case measure => simp; omega
                      case rel => exact hN.out
                · have m4 : ¬ (s[q + 1].toNat : Int) = 120 := fun e => k3 (hd ▸ UInt8.toNat_inj.1 (by simpa using (by omega : s[q + 1].toNat = 120)))
                  rw [txt_esc_no acc (d :: t) (d :: t) 10 (by rw [esb, if_neg k1, if_neg k2, if_neg k3])] at hT
                  subst hT
                  have hpl := hA1.place
                  subst hd
                  have n1 : ((s[q + 1].toNat : Int) == 34) = false := by simpa using m1
                  have n2 : ((s[q + 1].toNat : Int) == 92) = false := by simpa using m2
                  have n3 : ((s[q + 1].toNat : Int) == 110) = false := by simpa using m3
                  have n4 : ((s[q + 1].toNat : Int) == 120) = false := by simpa using m4
                  clear hown
                  go_wp2_with fail
                  refine endR rfl rfl (set6 hb) ⟨?_, hbw.set6 (Nat.le_refl _)⟩
                  unfold xv; dsimp only; rw [hpl]; simp
        · rw [txt_one _ _ _ h1 h2] at hT
          have g2 : ¬ (s[q].toNat : Int) = 92 := fun e => h2 (hc ▸ UInt8.toNat_inj.1 (by simpa using (by omega : s[q].toNat = 92)))
          have hT' : Hid _ := hT
          clear hT
          subst hc
          have x2 : IntKind.i64.wrap ((q : Int) + 1) = q + 1 := i64w _ (by omega) (by omega)
          go_wp2_with (at_builtin; refine wpList_append_own _ rfl _ _ 52 rfl (w.heap.size + 1) 5 i0 (.int .u8 0) 1 1 Tryd.underlying52 hi hz0 hz1 hz2 rfl (by decide) _ _ _ rfl (hown.alloc _) ⟨wr.heap.size, 0, none⟩ 1 1 [.int .u8 s[q].toNat] rfl rfl (cells_new _ _ _) (by intro u hu; simp at hu; subst hu; rfl) (by unfold maxLen; simp [Lib.byteCells]; omega) (by simp [Lib.byteCells]; omega) (by simp; omega) ?_)
          intro v' w2 hown' hgrow _
          have hN : Hid _ := XR.next (R := R) hA1 hown hT'.out (by omega) hbw hz hb hgrow hown'
          go_wp2_with fail
          go_roundg t.length
          case measure => simp
          case rel => exact hN.out

end Go.Proofs.YtinigblglaolmaaDoor
